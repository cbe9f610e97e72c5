/-
  The walk of FnArrivedOver. (Its words were written by a program of my own.)
-/
import Derived.Deep.DrawnRows
import Derived.Test.YtgeakfdhmogeoaaLawL
import Derived.Lib.QuietBelow
import Derived.Deep.DeepMust
namespace Go.Proofs.Ytgeakfdhmogeoaa
open Go.RowKit
attribute [local go_sem ↓] Go.wp_at_zero Go.wp_at_succ
-- CALL: W s0
set_option maxHeartbeats 4000000 in
theorem walk_FnArrivedOver {A : Option Addr} {n c : Nat} {zs : List Int} (w : World) (h : BS w A n c zs) :
    Calls Try.prog 7 #[.slice A n c] w fun e w' => e = .returned (.bool true) ∧ Below w.heap.size w w' := by
  have H := Lib.hid h
  clear h
  rcases Nat.lt_or_ge 1048576 n with h1 | h1
  · have h1' : (1048576 : Int) < (n : Int) := by omega
    go_enter Try.func7, Try.ntmps7
    go_wp2_with (fail)
    go_ret
    exact ⟨rfl, Below.refl _ _⟩
  have h1' : ¬ (1048576 : Int) < (n : Int) := by omega
  go_enter Try.func7, Try.ntmps7
  go_wp2_with (fail)
  refine (spec_DrawArrivedOver_any w H.out h1).mono ?_
  rintro e w1 ⟨xs, A1, n1, c1, m, rfl, hn1, ⟨hm0, hm1⟩, hI1, hb⟩
  have B := Lib.hid hb
  have I1 := Lib.hid hI1
  clear hb hI1
  obtain ⟨os, eo⟩ : ∃ v, arrV xs m = v := ⟨_, rfl⟩
  have hle := arrV_le xs m
  rw [eo] at hle
  have HO := Lib.hid eo
  clear eo
  go_wp2_with (fail)
  refine (ints_at (impl_ArrivedOver_any m _ I1.out) HO.out).mono ?_
  rintro e w2 ⟨A2, n2, c2, rfl, ho, hb⟩
  replace I1 := Lib.hid (I1.out.below hb (Nat.le_refl _))
  replace B := Lib.hid (B.out.trans (hb.mono B.out.size))
  have I2 := Lib.hid ho.is
  clear hb
  have hn2 : n2 ≤ 40 := by have := I2.out.len; omega
  clear hle
  go_wp2_with (fail)
  refine (ints_at (spec_ArrivedOver_any m _ I1.out) HO.out).mono ?_
  rintro e w3 ⟨A3, n3, c3, rfl, ho, hb⟩
  replace I1 := Lib.hid (I1.out.below hb (Nat.le_refl _))
  replace I2 := Lib.hid (I2.out.below hb (Nat.le_refl _))
  replace B := Lib.hid (B.out.trans (hb.mono B.out.size))
  have I3 := Lib.hid ho.is
  clear hb
  go_wp2_with (fail)
  refine (equalInts_same _ I2.out I3.out).mono ?_
  rintro e w4 ⟨rfl, hb⟩
  replace I1 := Lib.hid (I1.out.below hb (Nat.le_refl _))
  replace I2 := Lib.hid (I2.out.below hb (Nat.le_refl _))
  replace I3 := Lib.hid (I3.out.below hb (Nat.le_refl _))
  replace B := Lib.hid (B.out.trans (hb.mono B.out.size))
  clear hb
  have HXL := Lib.hid I2.out.len
  go_wp2_with (fail)
  go_loop [6] (fun i => ∃ j : Nat, j ≤ n2 ∧ i = .int .i64 (j : Int)) (fun i => n2 - (intOf i).toNat)
  case atStart => exact ⟨0, Nat.zero_le _, rfl⟩
  case round =>
    obtain ⟨j, hj, rfl⟩ := hrel
    by_cases hlt : j < n2
    · obtain ⟨g, off, v, rfl, hx, hc⟩ := I2.out.at_ hlt
      obtain ⟨hv0, hv1⟩ := arr_mem (xs := xs) (m := m) (x := v) (by rw [HO.out]; exact List.mem_of_getElem? hx)
      have hv0' : ¬ v < 0 := by omega
      have hv1' : ¬ m ≤ v := by omega
      clear hx
      go_wp2_with (fail)
      go_round
      case rel => exact ⟨j + 1, by omega, by first | rfl | go_num⟩
      case measure => simp [intOf]; omega
    · rcases Nat.eq_zero_or_pos n2 with h0 | h0
      · have hz : ((n2 : Int) == 0) = true := by simp [h0]
        clear h0
        go_wp2_with (fail)
        go_ret
        exact ⟨rfl, B.out⟩
      · have hz : ((n2 : Int) == 0) = false := by simp; omega
        have hk : okK xs m = true := by
          rcases h : okK xs m with _ | _
          · have h1 := HO.out
            rw [arrV_f h] at h1
            have h2 := HXL.out
            rw [← h1] at h2
            simp at h2
            omega
          · rfl
        obtain ⟨S, eS⟩ : ∃ v, sndV xs m = v := ⟨_, rfl⟩
        have h2 := arr_two hk
        have hSb := sndV_bd xs m
        rw [HO.out, eS, HXL.out] at h2
        rw [eS] at hSb
        have hwS : IntKind.i64.wrap (2 * S) = 2 * S := by rw [IntKind.wrap_i64]; omega
        go_wp2_with (fail)
        refine (int_at (impl_SendsOver_any m _ I1.out) eS).mono ?_
        rintro e wy ⟨rfl, hb⟩
        have B9 := Lib.hid (B.out.trans (hb.mono B.out.size))
        clear hb
        go_wp2_with (fail)
        go_ret
        exact ⟨ret_bool (by first | rfl | (simp; done) | (simp; omega)), B9.out⟩
end Go.Proofs.Ytgeakfdhmogeoaa
