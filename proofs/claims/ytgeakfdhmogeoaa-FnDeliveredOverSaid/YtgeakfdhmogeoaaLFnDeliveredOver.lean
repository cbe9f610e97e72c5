/-
  The walk of FnDeliveredOver. (Its words were written by a program of my own.)
-/
import Derived.Deep.DrawnRows
import Derived.Test.YtgeakfdhmogeoaaLawL
import Derived.Test.YtgeakfdhmogeoaaLawM
import Derived.Lib.QuietBelow
import Derived.Deep.DeepMust
import Derived.Deep.QuietTactic
namespace Go.Proofs.Ytgeakfdhmogeoaa
open Go.RowKit
attribute [local go_sem ↓] Go.wp_at_zero Go.wp_at_succ
-- CALL: W s0
set_option maxHeartbeats 4000000 in
theorem walk_FnDeliveredOver {A : Option Addr} {n c : Nat} {zs : List Int} (w : World) (h : BS w A n c zs) :
    Calls Try.prog 9 #[.slice A n c] w fun e w' => e = .returned (.bool true) ∧ Below w.heap.size w w' := by
  have H := Lib.hid h
  clear h
  rcases Nat.lt_or_ge 1048576 n with h1 | h1
  · have h1' : (1048576 : Int) < (n : Int) := by omega
    go_enter Try.func9, Try.ntmps9
    go_wp2_with (fail)
    go_ret
    exact ⟨rfl, Below.refl _ _⟩
  have h1' : ¬ (1048576 : Int) < (n : Int) := by omega
  go_enter Try.func9, Try.ntmps9
  go_wp2_with (fail)
  refine (spec_DrawDeliveredOver_any w H.out h1).mono ?_
  rintro e w1 ⟨xs, A1, n1, c1, m, rfl, hn1, ⟨hm0, hm1⟩, hI1, hb⟩
  have B := Lib.hid hb
  have I1 := Lib.hid hI1
  clear hb hI1
  obtain ⟨os, eo⟩ : ∃ v, dlvV xs m = v := ⟨_, rfl⟩
  obtain ⟨as_, ea⟩ : ∃ v, arrV xs m = v := ⟨_, rfl⟩
  have hle := dlvV_le xs m
  have hla := arrV_le xs m
  have hct := fun v => dlv_arr xs m v
  have hnd := once_nodup (arrV xs m)
  rw [show onceL (arrV xs m) = os from eo] at hnd
  rw [eo] at hle
  rw [ea] at hla
  rw [eo, ea] at hct
  have HO := Lib.hid eo
  have HA := Lib.hid ea
  have CT := Lib.hid hct
  have ND := Lib.hid hnd
  clear eo ea hct hnd
  go_wp2_with (fail)
  refine (ints_at (impl_DeliveredOver_any m _ I1.out) HO.out).mono ?_
  rintro e w2 ⟨A2, n2, c2, rfl, ho, hb⟩
  replace I1 := Lib.hid (I1.out.below hb (Nat.le_refl _))
  replace B := Lib.hid (B.out.trans (hb.mono B.out.size))
  have I2 := Lib.hid ho.is
  clear hb
  have hn2 : n2 ≤ 40 := by have := I2.out.len; omega
  clear hle
  go_wp2_with (fail)
  refine (ints_at (spec_DeliveredOver_any m _ I1.out) HO.out).mono ?_
  rintro e w3 ⟨A3, n3, c3, rfl, ho, hb⟩
  replace I1 := Lib.hid (I1.out.below hb (Nat.le_refl _))
  replace I2 := Lib.hid (I2.out.below hb (Nat.le_refl _))
  replace B := Lib.hid (B.out.trans (hb.mono B.out.size))
  have I3 := Lib.hid ho.is
  clear hb
  go_wp2_with (fail)
  refine (equalInts_same _ I2.out I3.out).mono ?_
  rintro e w4 ⟨rfl, hb⟩
  replace I1 := Lib.hid (I1.out.below hb (Nat.le_refl _))
  replace I2 := Lib.hid (I2.out.below hb (Nat.le_refl _))
  replace I3 := Lib.hid (I3.out.below hb (Nat.le_refl _))
  replace B := Lib.hid (B.out.trans (hb.mono B.out.size))
  clear hb
  go_wp2_with (fail)
  refine (ints_at (impl_ArrivedOver_any m _ I1.out) HA.out).mono ?_
  rintro e w5 ⟨A4, n4, c4, rfl, ho, hb⟩
  replace I1 := Lib.hid (I1.out.below hb (Nat.le_refl _))
  replace I2 := Lib.hid (I2.out.below hb (Nat.le_refl _))
  replace I3 := Lib.hid (I3.out.below hb (Nat.le_refl _))
  replace B := Lib.hid (B.out.trans (hb.mono B.out.size))
  have I4 := Lib.hid ho.is
  clear hb
  have hn4 : n4 ≤ 40 := by have := I4.out.len; omega
  clear hla I1 I3
  go_wp2_with (fail)
  go_loop [7] (fun i => ∃ j : Nat, j ≤ n4 ∧ i = .int .i64 (j : Int)) (fun i => n4 - (intOf i).toNat)
  case atStart => exact ⟨0, Nat.zero_le _, rfl⟩
  case round =>
    obtain ⟨j, hj, rfl⟩ := hrel
    by_cases hlt : j < n4
    · obtain ⟨g, off, v, rfl, hx, hc⟩ := I4.out.at_ hlt
      have l1 : os.contains v = true := by
        rw [CT.out v]
        simpa using List.mem_of_getElem? hx
      clear hx
      go_wp2_with (go_at_call 24; refine (call_bool (laws_isIn_any v _ I2.out) l1).mono ?_; rintro e w' ⟨rfl, rfl⟩)
      go_round
      case rel => exact ⟨j + 1, by omega, by first | rfl | go_num⟩
      case measure => simp [intOf]; omega
    · go_wp2_with (fail)
      clear hlt hj
      go_loopw [8] (fun i wr => ∃ j mm : Nat, j ≤ n2 ∧ i = .int .i64 (j : Int) ∧ wr = w5.drewN mm) (fun i _ => n2 - (intOf i).toNat)
      case atStart => exact ⟨0, 0, Nat.zero_le _, rfl, rfl⟩
      case round =>
        obtain ⟨j, mm, hj, rfl, rfl⟩ := hrel
        by_cases hlt : j < n2
        · obtain ⟨g, off, v, rfl, hx, hc⟩ := I2.out.at_ hlt
          have l1 : as_.contains v = true := by
            rw [← CT.out v]
            simpa using List.mem_of_getElem? hx
          have l2 := nodup_take ND.out hx
          have hcap2 := I2.out.2.1
          have IU := Lib.hid (I2.out.upto (m := j) (by omega))
          have hlt' : (j : Int) < (n2 : Int) := by omega
          have zj : (0 : Int) ≤ (j : Int) := by omega
          have zc : (j : Int) ≤ (c2 : Int) := by omega
          clear hx
          go_wp2_with (fail)
          go_quiet ((go_at_call 24; (first | (with_reducible refine (call_bool (laws_isIn_any (A := A4) (n := n4) (c := c4) v _ (I4.out.drewN _)) l1).mono ?_) | (with_reducible refine (call_bool (laws_isIn_any (A := some ⟨g, off, none⟩) (n := j) (c := c2) v _ (IU.out.drewN _)) l2).mono ?_)); rintro e w' ⟨rfl, rfl⟩; exact ⟨rfl, _, rfl⟩))
          go_wp2_with (fail)
          go_roundw
          case rel => exact ⟨j + 1, _, by omega, by first | rfl | go_num, rfl⟩
          case measure => simp [intOf]; omega
        · go_wp2_with (fail)
          go_ret
          exact ⟨rfl, below_drewN B.out _⟩
end Go.Proofs.Ytgeakfdhmogeoaa
