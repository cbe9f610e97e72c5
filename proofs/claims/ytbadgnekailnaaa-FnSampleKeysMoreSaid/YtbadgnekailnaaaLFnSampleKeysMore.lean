/-
  The walk of FnSampleKeysMore. (Its words were written by a program of my own.)
-/
import Derived.Test.YtbadgnekailnaaaDrawK
import Derived.Test.YtbadgnekailnaaaSb
import Derived.Test.YtbadgnekailnaaaSaN
import Derived.Test.YtbadgnekailnaaaIsIn
import Derived.Deep.RegionHeld3
import Derived.Deep.DeepMust
import Derived.Deep.DeepCutAuto
namespace Go.Proofs.Ytbadgnekailnaaa
open Go.RowKit
-- CALL: W s0
set_option maxHeartbeats 8000000 in
theorem walk_FnSampleKeysMore {A : Option Addr} {n c : Nat} {zs : List Int} (w : World) (h : BS w A n c zs) :
    Calls Try.prog 11 #[.slice A n c] w fun e w' => e = .returned (.bool true) ∧ Below w.heap.size w w' := by
  have H := Lib.hid h
  clear h
  rcases Nat.lt_or_ge 1048576 n with h1 | h1
  · have h1' : (1048576 : Int) < (n : Int) := by omega
    go_enter Try.func11, Try.ntmps11
    go_wp2_with (fail)
    go_ret
    exact ⟨rfl, Below.refl _ _⟩
  have h1' : ¬ (1048576 : Int) < (n : Int) := by omega
  go_enter Try.func11, Try.ntmps11
  go_wp2_with (fail)
  refine (spec_DrawSampleKeys_any w H.out h1).mono ?_
  rintro e w1 ⟨xs, A1, n1, c1, r, rfl, hn18, ⟨r0, r1⟩, i1, hbl⟩
  have T1 := Lib.hid i1
  have B1 := Lib.hid hbl
  have HXL := Lib.hid i1.len
  clear i1 hbl
  obtain ⟨os, hos⟩ : ∃ os, smV xs r = os := ⟨_, rfl⟩
  have HOS := Lib.hid hos
  clear hos
  go_wp2_with (fail)
  refine (impl_SampleKeys_any r w1 T1.out).mono ?_
  rintro e w2 ⟨A2, n2, c2, rfl, ho, hb⟩
  rw [HOS.out] at ho
  have hn7 : n2 ≤ 16 := by
    have h1 := ho.len
    have h2 := smV_le xs r
    rw [HOS.out] at h2
    omega
  have HL := Lib.hid ho.len
  have I1 := Lib.hid ho.is
  have B2 := Lib.hid (B1.out.trans (hb.mono B1.out.size))
  replace T1 := Lib.hid (T1.out.below hb (Nat.le_refl _))
  clear ho hb
  by_cases hs : 1 ≤ r ∧ 2 * r ≤ 16
  · obtain ⟨hs1, hs2⟩ := hs
    have g1 : ¬ r < 1 := by omega
    have g2 : ¬ 16 < 2 * r := by omega
    obtain ⟨ps, hps⟩ : ∃ ps, smV xs (2 * r) = ps := ⟨_, rfl⟩
    have HPS := Lib.hid hps
    have HSUB : Hid ((∀ x ∈ ps, x ∈ os) ∧ ps.length ≤ os.length) := Lib.hid (by
      rw [← hps, ← HOS.out]
      rcases hk : okK xs with _ | _
      · rw [smV_f (by simp [smOK, hk])]
        simp
      · rw [smV_t (by simp [smOK, hk, inR_t (show 1 ≤ 2 * r by omega) hs2]), smV_t (by simp [smOK, hk, inR_t hs1 (show r ≤ 16 by omega)])]
        exact ⟨fun x hx => twice_mem hx, twice_len r xs⟩)
    clear hps
    go_wp2_with (fail)
    refine (spec_SampleKeys_any r w2 T1.out).mono ?_
    rintro e w3 ⟨A2_, n2_, c2_, rfl, ho, hb⟩
    rw [HOS.out] at ho
    have K2 := Lib.hid ho.is
    have J2 := Lib.hid (I1.out.below hb (Nat.le_refl _))
    have TJ := Lib.hid (T1.out.below hb (Nat.le_refl _))
    have B3 := Lib.hid (B2.out.trans (hb.mono B2.out.size))
    clear ho hb
    go_wp2_with (fail)
    refine (call_b (laws_equalInts_any w3 J2.out K2.out) (decide_eq_true rfl)).mono ?_
    rintro e w4 ⟨rfl, mm, h4⟩
    have B4 := Lib.hid (show Below w.heap.size w w4 by rw [h4]; exact below_drewN B3.out mm)
    replace I1 := Lib.hid (show IS w4 A2 n2 c2 os by rw [h4]; exact J2.out.drewN mm)
    replace T1 := Lib.hid (show IS w4 A1 n1 c1 xs by rw [h4]; exact TJ.out.drewN mm)
    clear h4 J2 K2 TJ
    go_wp2_with (fail)
    refine (impl_SampleKeys_any (2 * r) w4 T1.out).mono ?_
    rintro e w5 ⟨A5, n5, c5, rfl, ho, hb⟩
    rw [HPS.out] at ho
    have HL5 := Lib.hid ho.len
    have hn5 : n5 ≤ n2 := by have h1 := HSUB.out.2; have h2 := HL.out; have h3 := HL5.out; omega
    have J5 := Lib.hid ho.is
    have I5 := Lib.hid (I1.out.below hb (Nat.le_refl _))
    have B5 := Lib.hid (B4.out.trans (hb.mono B4.out.size))
    clear ho hb
    go_wp2_with (fail)
    go_loop [7] (fun i => ∃ k : Nat, k ≤ n5 ∧ i = .int .i64 (k : Int)) (fun i => n5 - (intOf i).toNat)
    case atStart => exact ⟨0, Nat.zero_le _, rfl⟩
    case round =>
      obtain ⟨k, hk, rfl⟩ := hrel
      by_cases hlt : k < n5
      · have hlt' : (k : Int) < (n5 : Int) := by omega
        obtain ⟨b, off, v, rfl, hx, hc⟩ := J5.out.at_ hlt
        have HIN := Lib.hid (show os.contains v = true by simpa using HSUB.out.1 v (List.mem_of_getElem? hx))
        clear hx
        go_wp2_with (fail)
        refine (call_b (laws_isIn_any _ _ I5.out) HIN.out).mono ?_
        rintro e w' ⟨rfl, rfl⟩
        go_wp2_with (fail)
        go_round
        case rel => exact ⟨k + 1, by omega, by first | rfl | go_num⟩
        case measure => simp [intOf]; omega
      · have hlt' : ¬ (k : Int) < (n5 : Int) := by omega
        go_wp2_with (fail)
        go_ret
        exact ⟨ret_bool (by first | (simp; done) | (simp; omega)), B5.out⟩
  have hs2 : r < 1 ∨ (¬ r < 1 ∧ 16 < 2 * r) := by omega
  clear hs
  rcases hs2 with g1 | ⟨g1, g2⟩
  · skip
    go_wp2_with (fail)
    refine (spec_SampleKeys_any r w2 T1.out).mono ?_
    rintro e w3 ⟨A2_, n2_, c2_, rfl, ho, hb⟩
    rw [HOS.out] at ho
    have K2 := Lib.hid ho.is
    have J2 := Lib.hid (I1.out.below hb (Nat.le_refl _))
    have TJ := Lib.hid (T1.out.below hb (Nat.le_refl _))
    have B3 := Lib.hid (B2.out.trans (hb.mono B2.out.size))
    clear ho hb
    go_wp2_with (fail)
    refine (call_b (laws_equalInts_any w3 J2.out K2.out) (decide_eq_true rfl)).mono ?_
    rintro e w4 ⟨rfl, mm, h4⟩
    have B4 := Lib.hid (show Below w.heap.size w w4 by rw [h4]; exact below_drewN B3.out mm)
    replace I1 := Lib.hid (show IS w4 A2 n2 c2 os by rw [h4]; exact J2.out.drewN mm)
    replace T1 := Lib.hid (show IS w4 A1 n1 c1 xs by rw [h4]; exact TJ.out.drewN mm)
    clear h4 J2 K2 TJ
    go_wp2_with (fail)
    refine (spec_SampleKeys_any r w4 T1.out).mono ?_
    rintro e w5 ⟨A4_, n4_, c4_, rfl, ho, hb⟩
    rw [HOS.out] at ho
    have K4 := Lib.hid ho.is
    have J4 := Lib.hid (I1.out.below hb (Nat.le_refl _))
    have TJ := Lib.hid (T1.out.below hb (Nat.le_refl _))
    have B5 := Lib.hid (B4.out.trans (hb.mono B4.out.size))
    clear ho hb
    go_wp2_with (fail)
    refine (call_b (laws_equalInts_any w5 J4.out K4.out) (decide_eq_true rfl)).mono ?_
    rintro e w6 ⟨rfl, mm, h4⟩
    have B6 := Lib.hid (show Below w.heap.size w w6 by rw [h4]; exact below_drewN B5.out mm)
    replace I1 := Lib.hid (show IS w6 A2 n2 c2 os by rw [h4]; exact J4.out.drewN mm)
    replace T1 := Lib.hid (show IS w6 A1 n1 c1 xs by rw [h4]; exact TJ.out.drewN mm)
    clear h4 J4 K4 TJ
    go_wp2_with (fail)
    go_ret
    exact ⟨ret_bool (by first | rfl | (simp; done) | (simp; omega)), B6.out⟩
  · skip
    go_wp2_with (fail)
    refine (spec_SampleKeys_any r w2 T1.out).mono ?_
    rintro e w3 ⟨A2_, n2_, c2_, rfl, ho, hb⟩
    rw [HOS.out] at ho
    have K2 := Lib.hid ho.is
    have J2 := Lib.hid (I1.out.below hb (Nat.le_refl _))
    have TJ := Lib.hid (T1.out.below hb (Nat.le_refl _))
    have B3 := Lib.hid (B2.out.trans (hb.mono B2.out.size))
    clear ho hb
    go_wp2_with (fail)
    refine (call_b (laws_equalInts_any w3 J2.out K2.out) (decide_eq_true rfl)).mono ?_
    rintro e w4 ⟨rfl, mm, h4⟩
    have B4 := Lib.hid (show Below w.heap.size w w4 by rw [h4]; exact below_drewN B3.out mm)
    replace I1 := Lib.hid (show IS w4 A2 n2 c2 os by rw [h4]; exact J2.out.drewN mm)
    replace T1 := Lib.hid (show IS w4 A1 n1 c1 xs by rw [h4]; exact TJ.out.drewN mm)
    clear h4 J2 K2 TJ
    go_wp2_with (fail)
    refine (spec_SampleKeys_any r w4 T1.out).mono ?_
    rintro e w5 ⟨A4_, n4_, c4_, rfl, ho, hb⟩
    rw [HOS.out] at ho
    have K4 := Lib.hid ho.is
    have J4 := Lib.hid (I1.out.below hb (Nat.le_refl _))
    have TJ := Lib.hid (T1.out.below hb (Nat.le_refl _))
    have B5 := Lib.hid (B4.out.trans (hb.mono B4.out.size))
    clear ho hb
    go_wp2_with (fail)
    refine (call_b (laws_equalInts_any w5 J4.out K4.out) (decide_eq_true rfl)).mono ?_
    rintro e w6 ⟨rfl, mm, h4⟩
    have B6 := Lib.hid (show Below w.heap.size w w6 by rw [h4]; exact below_drewN B5.out mm)
    replace I1 := Lib.hid (show IS w6 A2 n2 c2 os by rw [h4]; exact J4.out.drewN mm)
    replace T1 := Lib.hid (show IS w6 A1 n1 c1 xs by rw [h4]; exact TJ.out.drewN mm)
    clear h4 J4 K4 TJ
    go_wp2_with (fail)
    go_ret
    exact ⟨ret_bool (by first | rfl | (simp; done) | (simp; omega)), B6.out⟩
end Go.Proofs.Ytbadgnekailnaaa
