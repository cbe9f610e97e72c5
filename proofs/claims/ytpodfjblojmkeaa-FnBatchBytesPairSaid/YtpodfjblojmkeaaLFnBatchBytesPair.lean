/-
  The walk of FnBatchBytesPair. (Its words were written by a program of my own.)
-/
import Derived.Test.YtpodfjblojmkeaaDrawC
import Derived.Test.YtpodfjblojmkeaaCuP
import Derived.Deep.RegionHeld3
import Derived.Deep.DeepMust
import Derived.Deep.DeepCutAuto
namespace Go.Proofs.Ytpodfjblojmkeaa
open Go.RowKit
-- CALL: W s0
set_option maxHeartbeats 8000000 in
theorem walk_FnBatchBytesPair {A : Option Addr} {n c : Nat} {zs : List Int} (w : World) (h : BS w A n c zs) :
    Calls Try.prog 12 #[.slice A n c] w fun e w' => e = .returned (.bool true) ∧ Below w.heap.size w w' := by
  have H := Lib.hid h
  clear h
  rcases Nat.lt_or_ge 1048576 n with h1 | h1
  · have h1' : (1048576 : Int) < (n : Int) := by omega
    go_enter Try.func12, Try.ntmps12
    go_wp2_with (fail)
    go_ret
    exact ⟨rfl, Below.refl _ _⟩
  have h1' : ¬ (1048576 : Int) < (n : Int) := by omega
  go_enter Try.func12, Try.ntmps12
  go_wp2_with (fail)
  refine (spec_DrawBatchBytes_any w H.out h1).mono ?_
  rintro e w1 ⟨xs, A1, n1, c1, a, m, rfl, hn14, ⟨a0, a1⟩, ⟨m0, m1⟩, i1, hbl⟩
  have T1 := Lib.hid i1
  have B1 := Lib.hid hbl
  have HXL := Lib.hid i1.len
  clear i1 hbl
  obtain ⟨os, hos⟩ : ∃ os, bsV xs a m = os := ⟨_, rfl⟩
  have HOS := Lib.hid hos
  clear hos
  go_wp2_with (fail)
  refine (impl_BatchBytes_any a m w1 T1.out).mono ?_
  rintro e w2 ⟨A2, n2, c2, rfl, ho, hb⟩
  rw [HOS.out] at ho
  have hn7 : n2 ≤ 12 := by
    have h1 := ho.len
    have h2 := bsV_le xs a m
    rw [HOS.out] at h2
    omega
  have HL := Lib.hid ho.len
  have I1 := Lib.hid ho.is
  have B2 := Lib.hid (B1.out.trans (hb.mono B1.out.size))
  replace T1 := Lib.hid (T1.out.below hb (Nat.le_refl _))
  clear ho hb
  obtain ⟨ls, hls⟩ : ∃ ls, cbV xs a m = ls := ⟨_, rfl⟩
  have HLS := Lib.hid hls
  clear hls
  go_wp2_with (fail)
  refine (impl_CutBatches_any a m w2 T1.out).mono ?_
  rintro e w3 ⟨A3, n3, c3, rfl, ho, hb⟩
  rw [HLS.out] at ho
  obtain rfl : n3 = n2 := by
    have h1 := ho.len
    have h2 := HL.out
    rw [← HLS.out] at h1
    rw [← HOS.out] at h2
    simp [cbV, bsV, cntL, sumL2] at h1 h2
    omega
  have HL3 := Lib.hid ho.len
  have L1 := Lib.hid ho.is
  have B3 := Lib.hid (B2.out.trans (hb.mono B2.out.size))
  replace T1 := Lib.hid (T1.out.below hb (Nat.le_refl _))
  replace I1 := Lib.hid (I1.out.below hb (Nat.le_refl _))
  clear ho hb
  have hnn : ((n3 : Int) != (n3 : Int)) = false := by simp
  go_wp2_with (fail)
  refine (spec_BatchBytes_any a _ w3 T1.out).mono ?_
  rintro e w4 ⟨A3_, n3_, c3_, rfl, ho, hb⟩
  rw [HOS.out] at ho
  have K3 := Lib.hid ho.is
  have J3 := Lib.hid (I1.out.below hb (Nat.le_refl _))
  have TJ := Lib.hid (T1.out.below hb (Nat.le_refl _))
  have B4 := Lib.hid (B3.out.trans (hb.mono B3.out.size))
  have LJ := Lib.hid (L1.out.below hb (Nat.le_refl _))
  clear ho hb
  go_wp2_with (fail)
  refine (call_b (laws_equalInts_any w4 J3.out K3.out) (decide_eq_true rfl)).mono ?_
  rintro e w5 ⟨rfl, mm, h4⟩
  have B5 := Lib.hid (show Below w.heap.size w w5 by rw [h4]; exact below_drewN B4.out mm)
  replace I1 := Lib.hid (show IS w5 A2 n3 c2 os by rw [h4]; exact J3.out.drewN mm)
  replace T1 := Lib.hid (show IS w5 A1 n1 c1 xs by rw [h4]; exact TJ.out.drewN mm)
  replace L1 := Lib.hid (show IS w5 A3 n3 c3 ls by rw [h4]; exact LJ.out.drewN mm)
  clear h4 J3 K3 TJ LJ
  have HK : Hid (∀ p, p + 1 < n3 → 19 ≤ a ∧ (os.getD p 0 + os.getD (p + 1) 0 ≤ a → m < ls.getD p 0 + ls.getD (p + 1) 0) ∧ (0 ≤ os.getD p 0 ∧ os.getD p 0 ≤ 240) ∧ (0 ≤ os.getD (p + 1) 0 ∧ os.getD (p + 1) 0 ≤ 240) ∧ (0 ≤ ls.getD p 0 ∧ ls.getD p 0 ≤ 12) ∧ (0 ≤ ls.getD (p + 1) 0 ∧ ls.getD (p + 1) 0 ≤ 12)) := Lib.hid fun p hp => by
    have hok : cutOK xs a m = true := by
      rcases h : cutOK xs a m with _ | _
      · have e := HOS.out
        rw [bsV_no h] at e
        have e2 := HL.out
        rw [← e] at e2
        simp at e2
        omega
      · rfl
    obtain ⟨h12, hr, hbr, hmr⟩ := cut_in hok
    obtain ⟨hb0, hb1⟩ := inR_iff.1 hbr
    obtain ⟨hm0, hm1⟩ := inR_iff.1 hmr
    obtain ⟨M, rfl⟩ := Int.eq_ofNat_of_zero_le (show 0 ≤ m by omega)
    have hM1 : 1 ≤ M := by omega
    have hO : os = sumL2 (BB a M xs) := by rw [← HOS.out]; simp [bsV, bbV, hok]
    have hLS : ls = cntL (BB a M xs) := by rw [← HLS.out]; simp [cbV, bbV, hok]
    have hol := HL.out
    have hll := HL3.out
    have at1 : ∀ k, k < n3 → 1 ≤ os.getD k 0 ∧ os.getD k 0 ≤ a := fun k hk => at_bd (by rw [hO]; exact bs_all hb0 hM1 hr) (by omega)
    have at2 : ∀ k, k < n3 → 1 ≤ ls.getD k 0 ∧ ls.getD k 0 ≤ M := fun k hk => at_bd (by rw [hLS]; exact cnt_all hb0 hM1 hr) (by omega)
    obtain ⟨s, N, q1, q2, q3, q4, q5, q6, q7⟩ := bb_kth hb0 hM1 p xs hr (by
      rw [hO] at hol
      simp [sumL2] at hol
      omega)
    rw [← hLS] at q4 q7
    rw [← hO] at q5 q6
    have a1 := at1 p (by omega)
    have a2 := at1 (p + 1) (by omega)
    have a3 := at2 p (by omega)
    have a4 := at2 (p + 1) (by omega)
    refine ⟨by omega, fun h => ?_, by omega, by omega, by omega, by omega⟩
    rw [q4]
    rcases Nat.lt_or_ge N M with hNM | hNM
    · have := q5 hNM
      omega
    · omega
  rcases Nat.lt_or_ge n3 1 with hs | hs
  · obtain rfl : n3 = 0 := by omega
    go_wp2_with (fail)
    go_loop [8] (fun i => i = .int .i64 1) (fun _ => 0)
    case atStart => rfl
    case round =>
      obtain rfl := hrel
      go_wp2_with (fail)
      go_ret
      exact ⟨rfl, B5.out⟩
  obtain ⟨g, off, _, rfl, _, _⟩ := I1.out.at_ (k := 0) (by omega)
  have OC : Hid (∀ k : Nat, k < n3 → w5.cell? ⟨g, off + k, none⟩ = some (.int .i64 (os.getD k 0))) := Lib.hid fun k hk => by
    obtain ⟨g', off', v, e, hv, hc⟩ := I1.out.at_ hk
    simp only [Option.some.injEq, Addr.mk.injEq, and_true] at e
    obtain ⟨rfl, rfl⟩ := e
    rw [hc, getD_of hv]
  obtain ⟨g3, off3, _, rfl, _, _⟩ := L1.out.at_ (k := 0) (by omega)
  have LC : Hid (∀ k : Nat, k < n3 → w5.cell? ⟨g3, off3 + k, none⟩ = some (.int .i64 (ls.getD k 0))) := Lib.hid fun k hk => by
    obtain ⟨g', off', v, e, hv, hc⟩ := L1.out.at_ hk
    simp only [Option.some.injEq, Addr.mk.injEq, and_true] at e
    obtain ⟨rfl, rfl⟩ := e
    rw [hc, getD_of hv]
  go_wp2_with (fail)
  go_loopw [8] (fun iv wr => ∃ k p mm : Nat, k ≤ n3 ∧ iv = .int .i64 (k : Int) ∧ wr = w5.drewN mm ∧ Hid (k = p + 1)) (fun i _ => n3 - (intOf i).toNat)
  case atStart => exact ⟨1, 0, 0, by omega, rfl, rfl, Lib.hid rfl⟩
  case round =>
    obtain ⟨k, p, mm, hk, rfl, rfl, hkp⟩ := hrel
    by_cases hlt : k < n3
    · have hlt' : (k : Int) < (n3 : Int) := by omega
      have hkp' := hkp.out
      obtain ⟨a19, q1, q2, q3, q4, q5⟩ := HK.out p (by omega)
      rw [← hkp'] at q1 q3 q5
      have c1 := OC.out p (by omega)
      have c2' := OC.out k hlt
      have c3' := LC.out p (by omega)
      have c4' := LC.out k hlt
      obtain ⟨u, hu⟩ : ∃ u, os.getD p 0 = u := ⟨_, rfl⟩
      obtain ⟨v, hv⟩ : ∃ v, os.getD k 0 = v := ⟨_, rfl⟩
      obtain ⟨x, hx⟩ : ∃ x, ls.getD p 0 = x := ⟨_, rfl⟩
      obtain ⟨y, hy⟩ : ∃ y, ls.getD k 0 = y := ⟨_, rfl⟩
      rw [hu] at c1 q1 q2
      rw [hv] at c2' q1 q3
      rw [hx] at c3' q1 q4
      rw [hy] at c4' q1 q5
      obtain ⟨q20, q21⟩ := q2
      obtain ⟨q30, q31⟩ := q3
      obtain ⟨q40, q41⟩ := q4
      obtain ⟨q50, q51⟩ := q5
      have w1' : IntKind.i64.wrap ((k : Int) - 1) = (p : Int) := by rw [IntKind.wrap_i64]; omega
      have w2' : IntKind.i64.wrap (u + v) = u + v := by rw [IntKind.wrap_i64]; omega
      have w3' : IntKind.i64.wrap (x + y) = x + y := by rw [IntKind.wrap_i64]; omega
      have zk : (0 : Int) ≤ (k : Int) := by omega
      have zp : (0 : Int) ≤ (p : Int) := by omega
      have zp2 : (p : Int) < (n3 : Int) := by omega
      clear hu hv hx hy hkp'
      by_cases hf : u + v ≤ a
      · have hf' : decide (u + v ≤ a) = true := by simp [hf]
        have hm' : ¬ x + y ≤ m := by have := q1 hf; omega
        have hm2 : decide (x + y ≤ m) = false := by simp; omega
        clear q1
        go_wp2_with (fail)
        go_quiet (fail)
        go_wp2_with (fail)
        go_roundw
        case rel => exact ⟨k + 1, k, _, by omega, by go_num, rfl, Lib.hid rfl⟩
        case measure => simp [intOf]; omega
      · have hf' : decide (u + v ≤ a) = false := by simp; omega
        clear q1
        go_wp2_with (fail)
        go_quiet (fail)
        go_wp2_with (fail)
        go_roundw
        case rel => exact ⟨k + 1, k, _, by omega, by go_num, rfl, Lib.hid rfl⟩
        case measure => simp [intOf]; omega
    · have hlt' : ¬ (k : Int) < (n3 : Int) := by omega
      go_wp2_with (fail)
      go_ret
      exact ⟨rfl, below_drewN B5.out mm⟩
end Go.Proofs.Ytpodfjblojmkeaa
