/-
  The walk of FnDeliveredOverAll. (Its words were written by a program of my own.)
-/
import Derived.Test.YthbdcindhkjboaaLawL
import Derived.Test.YthbdcindhkjboaaLawO
import Derived.Test.YthbdcindhkjboaaLiV
import Derived.Test.YthbdcindhkjboaaLiU
import Derived.Deep.RegionHeld3
import Derived.Deep.DrawnRows
import Derived.Deep.QuietTactic
import Derived.Lib.QuietBelow
import Derived.BigQuiet
import Derived.Deep.DeepMust
import Derived.Deep.DeepCutAuto
namespace Go.Proofs.Ythbdcindhkjboaa
open Go.RowKit
-- CALL: W s0
set_option maxHeartbeats 1600000 in
theorem walk_FnDeliveredOverAll {A : Option Addr} {n c : Nat} {zs : List Int} (w : World) (h : BS w A n c zs) :
    Calls Try.prog 6 #[.slice A n c] w fun e w' => e = .returned (.bool true) ∧ Below w.heap.size w w' := by
  have H := Lib.hid h
  clear h
  rcases Nat.lt_or_ge 1048576 n with h1 | h1
  · have h1' : (1048576 : Int) < (n : Int) := by omega
    go_enter Try.func6, Try.ntmps6
    go_wp2_with (fail)
    go_ret
    exact ⟨rfl, Below.refl _ _⟩
  have h1' : ¬ (1048576 : Int) < (n : Int) := by omega
  go_enter Try.func6, Try.ntmps6
  go_wp2_with (fail)
  refine (spec_DrawDeliveredOver_any w H.out h1).mono ?_
  rintro e w1 ⟨xs, A1, n1, c1, m, rfl, hn1, ⟨hm0, hm1⟩, hi, hb⟩
  have I1 := Lib.hid hi
  have B1 := Lib.hid hb
  have hz1 := B1.out.size
  clear hb hi
  have HXL := Lib.hid I1.out.len
  obtain ⟨os, eo⟩ : ∃ v, dlvV xs m = v := ⟨_, rfl⟩
  have HO := Lib.hid eo
  clear eo
  go_wp2_with (fail)
  refine (ints_at (impl_DeliveredOver_any m _ I1.out) HO.out).mono ?_
  rintro e w2 ⟨A2, n2, c2, rfl, ho, hb⟩
  have hb7 := hb
  replace I1 := Lib.hid (I1.out.below hb7 (Nat.le_refl _))
  replace B1 := Lib.hid (B1.out.trans (hb7.mono B1.out.size))
  have I2 := Lib.hid ho.is
  clear ho hb hb7
  go_wp2_with (fail)
  refine (ints_at (spec_DeliveredOver_any m _ I1.out) HO.out).mono ?_
  rintro e w3 ⟨A3, n3, c3, rfl, ho, hb⟩
  have hb7 := hb
  replace I1 := Lib.hid (I1.out.below hb7 (Nat.le_refl _))
  replace I2 := Lib.hid (I2.out.below hb7 (Nat.le_refl _))
  replace B1 := Lib.hid (B1.out.trans (hb7.mono B1.out.size))
  have I3 := Lib.hid ho.is
  clear ho hb hb7
  go_wp2_with (fail)
  refine (equalInts_same _ I2.out I3.out).mono ?_
  rintro e w4 ⟨rfl, hb⟩
  replace I1 := Lib.hid (I1.out.below hb (Nat.le_refl _))
  replace I2 := Lib.hid (I2.out.below hb (Nat.le_refl _))
  replace I3 := Lib.hid (I3.out.below hb (Nat.le_refl _))
  replace B1 := Lib.hid (B1.out.trans (hb.mono B1.out.size))
  clear hb
  rcases hk : okK xs m with _ | _
  · skip
    go_wp2_with (fail)
    refine (int_at (impl_SendsOver_any m _ I1.out) (sndV_f hk)).mono ?_
    rintro e w5 ⟨rfl, hb⟩
    replace I1 := Lib.hid (I1.out.below hb (Nat.le_refl _))
    replace I2 := Lib.hid (I2.out.below hb (Nat.le_refl _))
    replace I3 := Lib.hid (I3.out.below hb (Nat.le_refl _))
    replace B1 := Lib.hid (B1.out.trans (hb.mono B1.out.size))
    clear hb
    go_wp2_with (fail)
    refine (ints_at (spec_DeliveredOver_any m _ I1.out) HO.out).mono ?_
    rintro e w6 ⟨A4, n4, c4, rfl, ho, hb⟩
    have hb7 := hb
    replace I1 := Lib.hid (I1.out.below hb7 (Nat.le_refl _))
    replace I2 := Lib.hid (I2.out.below hb7 (Nat.le_refl _))
    replace I3 := Lib.hid (I3.out.below hb7 (Nat.le_refl _))
    replace B1 := Lib.hid (B1.out.trans (hb7.mono B1.out.size))
    have I4 := Lib.hid ho.is
    clear ho hb hb7
    go_wp2_with (fail)
    refine (equalInts_same _ I2.out I4.out).mono ?_
    rintro e w7 ⟨rfl, hb⟩
    replace I1 := Lib.hid (I1.out.below hb (Nat.le_refl _))
    replace I2 := Lib.hid (I2.out.below hb (Nat.le_refl _))
    replace I3 := Lib.hid (I3.out.below hb (Nat.le_refl _))
    replace I4 := Lib.hid (I4.out.below hb (Nat.le_refl _))
    replace B1 := Lib.hid (B1.out.trans (hb.mono B1.out.size))
    clear hb
    go_wp2_with (fail)
    go_ret
    exact ⟨ret_bool (rfl), B1.out⟩
  have HK := Lib.hid hk
  obtain ⟨S, eS⟩ : ∃ v, sndV xs m = v := ⟨_, rfl⟩
  have hS := snd_pos hk
  rw [eS] at hS
  have hS' : ¬ S < 0 := by omega
  have HS := Lib.hid eS
  clear hk eS
  go_wp2_with (fail)
  refine (int_at (impl_SendsOver_any m _ I1.out) HS.out).mono ?_
  rintro e w5 ⟨rfl, hb⟩
  replace I1 := Lib.hid (I1.out.below hb (Nat.le_refl _))
  replace I2 := Lib.hid (I2.out.below hb (Nat.le_refl _))
  replace I3 := Lib.hid (I3.out.below hb (Nat.le_refl _))
  replace B1 := Lib.hid (B1.out.trans (hb.mono B1.out.size))
  clear hb
  obtain ⟨us, eu⟩ : ∃ v, uakV xs m = v := ⟨_, rfl⟩
  have HU := Lib.hid eu
  have hdm := dlv_many HK.out
  rw [HO.out, I2.out.len] at hdm
  have HD := Lib.hid (fun (i : Int) (h0 : 0 ≤ i) (h1 : i < m) (hu : us.contains i = false) => show os.contains i = true by rw [← HO.out]; exact uak_dlv HK.out h0 h1 (by rw [eu]; exact hu))
  obtain ⟨M, rfl⟩ := Int.eq_ofNat_of_zero_le (okK_facts HK.out).2.2.1
  clear eu
  go_wp2_with (fail)
  refine (q_at (impl_UnackedOver_any (M : Int) _ I1.out) HU.out).mono ?_
  rintro e w6 ⟨A5, n5, c5, rfl, ho, hb⟩
  have hb7 := hb
  replace I1 := Lib.hid (I1.out.below hb7 (Nat.le_refl _))
  replace I2 := Lib.hid (I2.out.below hb7 (Nat.le_refl _))
  replace I3 := Lib.hid (I3.out.below hb7 (Nat.le_refl _))
  replace B1 := Lib.hid (B1.out.trans (hb7.mono B1.out.size))
  have I5 := Lib.hid ho.is
  clear ho hb hb7
  go_wp2_with (fail)
  go_loop [7] (fun i => ∃ j : Nat, j ≤ M ∧ i = .int .i64 (j : Int)) (fun i => M - (intOf i).toNat)
  case atStart => exact ⟨0, Nat.zero_le _, rfl⟩
  case round =>
    obtain ⟨j, hj, rfl⟩ := hrel
    by_cases hlt : j < M
    · have hlt' : (j : Int) < (M : Int) := by omega
      rcases l1 : us.contains (j : Int) with _ | _
      · have l2 := HD.out (j : Int) (by omega) hlt' l1
        go_wp2_with (go_at_call 19; (first | (with_reducible refine (call_bool (laws_isIn_any (A := A5) (n := n5) (c := c5) _ _ I5.out) l1).mono ?_) | (with_reducible refine (call_bool (laws_isIn_any (A := A2) (n := n2) (c := c2) _ _ I2.out) l2).mono ?_)); rintro e w' ⟨rfl, rfl⟩)
        go_round
        case rel => exact ⟨j + 1, by omega, by first | rfl | go_num⟩
        case measure => simp [intOf]; omega
      · go_wp2_with (go_at_call 19; refine (call_bool (laws_isIn_any (A := A5) (n := n5) (c := c5) _ _ I5.out) l1).mono ?_; rintro e w' ⟨rfl, rfl⟩)
        go_round
        case rel => exact ⟨j + 1, by omega, by first | rfl | go_num⟩
        case measure => simp [intOf]; omega
    · have hlt' : ¬ (j : Int) < (M : Int) := by omega
      go_wp2_with (fail)
      go_ret
      exact ⟨ret_bool (by first | rfl | (simp; done) | (simp; omega)), B1.out⟩
end Go.Proofs.Ythbdcindhkjboaa
