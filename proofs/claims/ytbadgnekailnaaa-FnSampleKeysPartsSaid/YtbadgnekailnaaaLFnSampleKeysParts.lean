/-
  The walk of FnSampleKeysParts. (Its words were written by a program of my own.)
-/
import Derived.Test.YtbadgnekailnaaaDrawK
import Derived.Test.YtbadgnekailnaaaSb
import Derived.Test.YtbadgnekailnaaaSaN
import Derived.Test.YtbadgnekailnaaaSaO
import Derived.Deep.RegionHeld3
import Derived.Deep.DeepMust
import Derived.Deep.DeepCutAuto
namespace Go.Proofs.Ytbadgnekailnaaa
open Go.RowKit
-- CALL: W s0
set_option maxHeartbeats 8000000 in
theorem walk_FnSampleKeysParts {A : Option Addr} {n c : Nat} {zs : List Int} (w : World) (h : BS w A n c zs) :
    Calls Try.prog 10 #[.slice A n c] w fun e w' => e = .returned (.bool true) ∧ Below w.heap.size w w' := by
  have H := Lib.hid h
  clear h
  rcases Nat.lt_or_ge 1048576 n with h1 | h1
  · have h1' : (1048576 : Int) < (n : Int) := by omega
    go_enter Try.func10, Try.ntmps10
    go_wp2_with (fail)
    go_ret
    exact ⟨rfl, Below.refl _ _⟩
  have h1' : ¬ (1048576 : Int) < (n : Int) := by omega
  go_enter Try.func10, Try.ntmps10
  go_wp2_with (fail)
  refine (spec_DrawSampleKeys_any w H.out h1).mono ?_
  rintro e w1 ⟨xs, A1, n1, c1, r, rfl, hn18, ⟨r0, r1⟩, i1, hbl⟩
  have T1 := Lib.hid i1
  have B1 := Lib.hid hbl
  have HXL := Lib.hid i1.len
  clear i1 hbl
  obtain ⟨os, hos⟩ : ∃ os, smV xs r = os := ⟨_, rfl⟩
  have HOS := Lib.hid hos
  clear hos
  go_wp2_with (fail)
  refine (impl_SampleKeys_any r w1 T1.out).mono ?_
  rintro e w2 ⟨A2, n2, c2, rfl, ho, hb⟩
  rw [HOS.out] at ho
  have hn7 : n2 ≤ 16 := by
    have h1 := ho.len
    have h2 := smV_le xs r
    rw [HOS.out] at h2
    omega
  have HL := Lib.hid ho.len
  have I1 := Lib.hid ho.is
  have B2 := Lib.hid (B1.out.trans (hb.mono B1.out.size))
  replace T1 := Lib.hid (T1.out.below hb (Nat.le_refl _))
  clear ho hb
  rcases Nat.lt_or_ge n2 1 with hs | hs
  · have hg : ((n2 : Int) == 0) = true := by simp; omega
    go_wp2_with (fail)
    refine (spec_SampleKeys_any r w2 T1.out).mono ?_
    rintro e w3 ⟨A2_, n2_, c2_, rfl, ho, hb⟩
    rw [HOS.out] at ho
    have K2 := Lib.hid ho.is
    have J2 := Lib.hid (I1.out.below hb (Nat.le_refl _))
    have TJ := Lib.hid (T1.out.below hb (Nat.le_refl _))
    have B3 := Lib.hid (B2.out.trans (hb.mono B2.out.size))
    clear ho hb
    go_wp2_with (fail)
    refine (call_b (laws_equalInts_any w3 J2.out K2.out) (decide_eq_true rfl)).mono ?_
    rintro e w4 ⟨rfl, mm, h4⟩
    have B4 := Lib.hid (show Below w.heap.size w w4 by rw [h4]; exact below_drewN B3.out mm)
    replace I1 := Lib.hid (show IS w4 A2 n2 c2 os by rw [h4]; exact J2.out.drewN mm)
    replace T1 := Lib.hid (show IS w4 A1 n1 c1 xs by rw [h4]; exact TJ.out.drewN mm)
    clear h4 J2 K2 TJ
    go_wp2_with (fail)
    refine (spec_SampleKeys_any r w4 T1.out).mono ?_
    rintro e w5 ⟨A4_, n4_, c4_, rfl, ho, hb⟩
    rw [HOS.out] at ho
    have K4 := Lib.hid ho.is
    have J4 := Lib.hid (I1.out.below hb (Nat.le_refl _))
    have TJ := Lib.hid (T1.out.below hb (Nat.le_refl _))
    have B5 := Lib.hid (B4.out.trans (hb.mono B4.out.size))
    clear ho hb
    go_wp2_with (fail)
    refine (call_b (laws_equalInts_any w5 J4.out K4.out) (decide_eq_true rfl)).mono ?_
    rintro e w6 ⟨rfl, mm, h4⟩
    have B6 := Lib.hid (show Below w.heap.size w w6 by rw [h4]; exact below_drewN B5.out mm)
    replace I1 := Lib.hid (show IS w6 A2 n2 c2 os by rw [h4]; exact J4.out.drewN mm)
    replace T1 := Lib.hid (show IS w6 A1 n1 c1 xs by rw [h4]; exact TJ.out.drewN mm)
    clear h4 J4 K4 TJ
    go_wp2_with (fail)
    go_ret
    exact ⟨ret_bool (by first | rfl | (simp; done) | (simp; omega)), B6.out⟩
  have hg : ((n2 : Int) == 0) = false := by simp; omega
  have hgt : 0 < (n2 : Int) := by omega
  go_wp2_with (fail)
  refine (spec_SampleKeys_any r w2 T1.out).mono ?_
  rintro e w3 ⟨A2_, n2_, c2_, rfl, ho, hb⟩
  rw [HOS.out] at ho
  have K2 := Lib.hid ho.is
  have J2 := Lib.hid (I1.out.below hb (Nat.le_refl _))
  have TJ := Lib.hid (T1.out.below hb (Nat.le_refl _))
  have B3 := Lib.hid (B2.out.trans (hb.mono B2.out.size))
  clear ho hb
  go_wp2_with (fail)
  refine (call_b (laws_equalInts_any w3 J2.out K2.out) (decide_eq_true rfl)).mono ?_
  rintro e w4 ⟨rfl, mm, h4⟩
  have B4 := Lib.hid (show Below w.heap.size w w4 by rw [h4]; exact below_drewN B3.out mm)
  replace I1 := Lib.hid (show IS w4 A2 n2 c2 os by rw [h4]; exact J2.out.drewN mm)
  replace T1 := Lib.hid (show IS w4 A1 n1 c1 xs by rw [h4]; exact TJ.out.drewN mm)
  clear h4 J2 K2 TJ
  have hok : smOK xs r = true := by
    rcases h : smOK xs r with _ | _
    · have e := HOS.out
      rw [smV_f h] at e
      have e2 := HL.out
      rw [← e] at e2
      simp at e2
      omega
    · rfl
  obtain ⟨hokk, hokr⟩ := smOK_in hok
  have HO := Lib.hid ((smV_t hok).symm.trans HOS.out)
  have HS1 := Lib.hid (smV_one hokk)
  have hle : n2 ≤ n1 := by
    have h1 := smL_len r xs
    rw [HO.out, HL.out, HXL.out] at h1
    exact h1
  have hn18' : n1 ≤ 18 := hn18
  obtain ⟨K, hKe⟩ : ∃ K, n1 / 2 = K := ⟨_, rfl⟩
  have hKi : (n1 : Int) / 2 = (K : Int) := by omega
  have hK1 : K < n1 := by omega
  clear hKe
  obtain ⟨M, hM⟩ : ∃ M, n1 - K = M := ⟨_, rfl⟩
  have HL1 := Lib.hid (show (smV (xs.take K) r).length ≤ 16 from smV_le _ _)
  have HL2 := Lib.hid (show (smV (xs.drop K) r).length ≤ 16 from smV_le _ _)
  have HSUM := Lib.hid ((smV_parts hok K).trans HO.out)
  clear hok hokk hokr
  obtain ⟨b, off, _, rfl, _, _⟩ := T1.out.at_ (k := 0) (by omega)
  have hnc := T1.out.2.1
  have hcm := T1.out.2.2.1
  simp only [maxLen] at hcm
  have P1 : Hid (IS w4 (some ⟨b, off, none⟩) K c1 (xs.take K)) := Lib.hid (by have h := T1.out.cut (lo := 0) (hi := K) (by omega) (by omega); simpa using h)
  have P2 : Hid (IS w4 (some ⟨b, off + K, none⟩) M (c1 - K) (xs.drop K)) := Lib.hid (by
    have h := T1.out.cut (lo := K) (hi := n1) (by omega) (by omega)
    rw [List.take_of_length_le (by rw [HXL.out]; exact Nat.le_refl _), hM] at h
    exact h)
  have s0 : (0 : Int) ≤ (K : Int) := by omega
  have s1 : (K : Int) ≤ (n1 : Int) := by omega
  have s2 : (K : Int) ≤ (c1 : Int) := by omega
  have s3 : (n1 : Int) ≤ (c1 : Int) := by omega
  have s4 : ¬ c1 = K := by omega
  have s5 : K ≤ n1 := by omega
  have s6 : n1 ≤ c1 := by omega
  go_wp2_with (fail)
  go_region_held3 (fun _ => True) (trivial) (first
    | (go_at_call 23; (with_reducible refine (impl_SampleKeys_any (A := some ⟨b, off, none⟩) (n := K) (c := c1) (xs := xs.take K) r _ (P1.out.below (by (repeat' (first | with_reducible exact W5.out | with_reducible exact W4.out | with_reducible exact W3.out | with_reducible exact W2.out | with_reducible exact W1.out | with_reducible exact Below.refl _ _ | with_reducible refine Below.drew ?_ | with_reducible refine Below.alloc ?_ (by first | omega | (simp; done) | (simp; omega)) _)); (fail_if_success (show _))) (Nat.le_refl _))).mono ?_); rintro e w5 ⟨Ew5, mw5, dw5, rfl, ho, hb⟩; have Sw5 := Lib.hid ho.is; have Lw5 := Lib.hid ho.len; have sb := hb.size; (try simp at sb); have W1 := Lib.hid (below_then (a := w4) (by (repeat' (first | with_reducible exact W5.out | with_reducible exact W4.out | with_reducible exact W3.out | with_reducible exact W2.out | with_reducible exact W1.out | with_reducible exact Below.refl _ _ | with_reducible refine Below.drew ?_ | with_reducible refine Below.alloc ?_ (by first | omega | (simp; done) | (simp; omega)) _)); (fail_if_success (show _))) hb); (try (have G : Hid (Blk w5 w4.heap.size 3 #[]) := Lib.hid (Blk.on (by first | exact G.out | exact G.out.drew | exact (Blk.new _ _ _) | exact (Blk.new _ _ _).drew) hb))); have zw5 := W1.out.size; clear ho hb)
    | (refine step_append_is rfl (.tmp 37) (.tmp 42) 24 rfl w4.heap.size 3 infoInt Try.underlying24 (some ⟨w4.heap.size, 0, none⟩) 0 0 [] (by simp [Act.eval]) (OW.of_blk (by first | omega | (simp; done) | (simp; omega)) (by first | exact G.out | exact G.out.drew | exact (Blk.new _ _ _) | exact (Blk.new _ _ _).drew)) Ew5 mw5 dw5 _ (by simp [Act.eval]) (by first | exact Sw5.out | exact Sw5.out.drew | exact (Sw5.out.alloc _) | exact (Sw5.out.alloc _).drew | exact (Sw5.out.drew.alloc _).drew | exact (Sw5.out.drew.alloc _)) (by have := Lw5.out; have := HL1.out; omega) (by first | omega | (simp; done) | (simp; omega)) ?_; intro A6 c6 w6 ho hg hnr; have O6 := Lib.hid ho; have W3 := Lib.hid (below_row (a := w4) (by (repeat' (first | with_reducible exact W5.out | with_reducible exact W4.out | with_reducible exact W3.out | with_reducible exact W2.out | with_reducible exact W1.out | with_reducible exact Below.refl _ _ | with_reducible refine Below.drew ?_ | with_reducible refine Below.alloc ?_ (by first | omega | (simp; done) | (simp; omega)) _)); (fail_if_success (show _))) hg (by first | omega | (simp; done) | (simp; omega)) (fun p hp => by cases hp; first | omega | (simp; done) | (simp; omega))); have z6 := W3.out.size; clear ho hg hnr)
    | (refine step_append_is rfl (.tmp 37) (.tmp 42) 24 rfl w4.heap.size 3 infoInt Try.underlying24 (some ⟨w5.heap.size, 0, none⟩) 0 0 [] (by simp [Act.eval]) (OW.of_blk (by first | omega | (simp; done) | (simp; omega)) (by first | exact G.out | exact G.out.drew | exact (Blk.new _ _ _) | exact (Blk.new _ _ _).drew)) Ew5 mw5 dw5 _ (by simp [Act.eval]) (by first | exact Sw5.out | exact Sw5.out.drew | exact (Sw5.out.alloc _) | exact (Sw5.out.alloc _).drew | exact (Sw5.out.drew.alloc _).drew | exact (Sw5.out.drew.alloc _)) (by have := Lw5.out; have := HL1.out; omega) (by first | omega | (simp; done) | (simp; omega)) ?_; intro A6 c6 w6 ho hg hnr; have O6 := Lib.hid ho; have W3 := Lib.hid (below_row (a := w4) (by (repeat' (first | with_reducible exact W5.out | with_reducible exact W4.out | with_reducible exact W3.out | with_reducible exact W2.out | with_reducible exact W1.out | with_reducible exact Below.refl _ _ | with_reducible refine Below.drew ?_ | with_reducible refine Below.alloc ?_ (by first | omega | (simp; done) | (simp; omega)) _)); (fail_if_success (show _))) hg (by first | omega | (simp; done) | (simp; omega)) (fun p hp => by cases hp; first | omega | (simp; done) | (simp; omega))); have z6 := W3.out.size; clear ho hg hnr)
    | (go_at_call 23; (with_reducible refine (impl_SampleKeys_any (A := some ⟨b, off + K, none⟩) (n := M) (c := (c1 - K)) (xs := xs.drop K) r _ (P2.out.below (by (repeat' (first | with_reducible exact W5.out | with_reducible exact W4.out | with_reducible exact W3.out | with_reducible exact W2.out | with_reducible exact W1.out | with_reducible exact Below.refl _ _ | with_reducible refine Below.drew ?_ | with_reducible refine Below.alloc ?_ (by first | omega | (simp; done) | (simp; omega)) _)); (fail_if_success (show _))) (Nat.le_refl _))).mono ?_); rintro e w7 ⟨Ew7, mw7, dw7, rfl, ho, hb⟩; have Sw7 := Lib.hid ho.is; have Lw7 := Lib.hid ho.len; have sb := hb.size; (try simp at sb); have W4 := Lib.hid (below_then (a := w4) (by (repeat' (first | with_reducible exact W5.out | with_reducible exact W4.out | with_reducible exact W3.out | with_reducible exact W2.out | with_reducible exact W1.out | with_reducible exact Below.refl _ _ | with_reducible refine Below.drew ?_ | with_reducible refine Below.alloc ?_ (by first | omega | (simp; done) | (simp; omega)) _)); (fail_if_success (show _))) hb); (try (have G : Hid (Blk w7 w4.heap.size 3 #[]) := Lib.hid (Blk.on (by first | exact G.out | exact G.out.drew | exact (Blk.new _ _ _) | exact (Blk.new _ _ _).drew) hb))); have O7 := Lib.hid (O6.out.below hb (by first | exact Nat.le_refl _ | (simp; done))); have zw7 := W4.out.size; clear ho hb)
    | (refine step_append_is rfl (.tmp 43) (.tmp 48) 24 rfl w4.heap.size 3 infoInt Try.underlying24 A6 (0 + mw5) c6 _ (by simp [Act.eval]) (by first | exact O7.out | exact O7.out.drew) Ew7 mw7 dw7 _ (by simp [Act.eval]) (by first | exact Sw7.out | exact Sw7.out.drew) (by have := Lw5.out; have := HL1.out; have := Lw7.out; have := HL2.out; omega) (by first | omega | (simp; done) | (simp; omega)) ?_; intro A8 c8 w8 ho hg hnr; rw [Nat.zero_add] at ho; have O8 := Lib.hid ho; have W5 := Lib.hid (below_row (a := w4) (by (repeat' (first | with_reducible exact W5.out | with_reducible exact W4.out | with_reducible exact W3.out | with_reducible exact W2.out | with_reducible exact W1.out | with_reducible exact Below.refl _ _ | with_reducible refine Below.drew ?_ | with_reducible refine Below.alloc ?_ (by first | omega | (simp; done) | (simp; omega)) _)); (fail_if_success (show _))) hg (by first | omega | (simp; done) | (simp; omega)) (O7.out.ge.mono (Nat.le_refl _))); have z8 := W5.out.size; clear ho hg hnr)
    | (go_at_call 31; refine (call_b (laws_equalInts_any _ (by first | exact O8.out.is | exact O8.out.is.drew) (I1.out.below (by (repeat' (first | with_reducible exact W5.out | with_reducible exact W4.out | with_reducible exact W3.out | with_reducible exact W2.out | with_reducible exact W1.out | with_reducible exact Below.refl _ _ | with_reducible refine Below.drew ?_ | with_reducible refine Below.alloc ?_ (by first | omega | (simp; done) | (simp; omega)) _)); (fail_if_success (show _))) (Nat.le_refl _))) (decide_eq_true (by have := HSUM.out; simpa using this))).mono ?_; rintro e w9 ⟨rfl, m9, h9⟩; have W6 := Lib.hid (show Below w4.heap.size w4 w9 by rw [h9]; exact below_drewN (by (repeat' (first | with_reducible exact W5.out | with_reducible exact W4.out | with_reducible exact W3.out | with_reducible exact W2.out | with_reducible exact W1.out | with_reducible exact Below.refl _ _ | with_reducible refine Below.drew ?_ | with_reducible refine Below.alloc ?_ (by first | omega | (simp; done) | (simp; omega)) _)); (fail_if_success (show _))) m9); have z9 := W6.out.size; clear h9)
    | (go_at_call 23; (with_reducible refine (impl_SampleKeys_any (A := some ⟨b, off, none⟩) (n := n1) (c := c1) (xs := xs) 1 _ (T1.out.below (by first | exact W6.out | exact W6.out.drew) (Nat.le_refl _))).mono ?_); rintro e w10 ⟨E10, m10, d10, rfl, ho, hb⟩; have L10 := Lib.hid (show m10 = n1 by have h1 := ho.len; have h2 := HS1.out; have h3 := HXL.out; rw [h2] at h1; omega); have W7 := Lib.hid (below_then (a := w4) (by first | exact W6.out | exact W6.out.drew) hb); have e10 := L10.out; subst e10; clear ho hb))
  all_goals (go_wp2_with (fail); go_ret; exact ⟨ret_bool (by first | rfl | (simp; done)), B4.out.trans (W7.out.mono B4.out.size)⟩)
end Go.Proofs.Ytbadgnekailnaaa
