/-
  Contracts of the laws' sum, and of the comparison of budgets.
-/
import Derived.Test.YtkmjonebjobjnaaBudC
namespace Go.Proofs.Ytkmjonebjobjnaa
open Go.RowKit
set_option maxHeartbeats 400000 in
theorem laws_sum_any {A : Option Addr} {n c : Nat} {xs : List Int} (w : World) (h : IS w A n c xs) (hr : allR xs 0 1000 = true) (hn : n ≤ 1000000) :
    Calls Try.prog 30 #[.slice A n c] w fun e w' => e = .returned (.int .i64 xs.sum) ∧ w = w' := by
  have H := Lib.hid h
  clear h
  have HR := Lib.hid hr
  clear hr
  go_enter Try.func30, Try.ntmps30
  go_wp2_with (fail)
  go_loop [3, 4] (fun t i => ∃ k : Nat, ∃ m : Int, k ≤ n ∧ 0 ≤ m ∧ m ≤ 1000 * (k : Int) ∧ i = .int .i64 k ∧ t = .int .i64 m ∧ Hid ((xs.take k).sum = m)) (fun _ i => n - (intOf i).toNat)
  case atStart => exact ⟨0, 0, Nat.zero_le _, by omega, by omega, rfl, rfl, Lib.hid (by simp)⟩
  case round =>
    obtain ⟨k, m, hk, hm0, hm1, rfl, rfl, ha⟩ := hrel
    by_cases hlt : k < n
    · obtain ⟨b, off, v, rfl, hx, hc⟩ := H.out.at_ hlt
      obtain ⟨hv0, hv1⟩ := allR_at hx HR.out
      have HX := Lib.hid hx
      clear hx
      go_wp2_with (fail)
      go_round
      case rel => exact ⟨k + 1, m + v, by omega, by omega, by omega, by go_num, by go_num, Lib.hid (by rw [sum_snoc HX.out, ha.out])⟩
      case measure => simp [intOf]; omega
    · go_wp2_with (fail)
      go_ret
      have ht := ha.out
      rw [List.take_of_length_le (by have := H.out.len; omega)] at ht
      exact ⟨ret_int ht.symm, rfl⟩
set_option maxHeartbeats 1000000 in
theorem laws_equalBudget_same {A A' B B' : Option Addr} {n c n' c' m d m' d' : Nat} {ks us : List Int} (t : Int) (w : World) (h1 : IS w A n c ks) (h2 : IS w A' n' c' us) (h3 : IS w B m d ks) (h4 : IS w B' m' d' us) :
    Calls Try.prog 24 #[.agg #[.int .i64 t, .slice A n c, .slice A' n' c'], .agg #[.int .i64 t, .slice B m d, .slice B' m' d']] w fun e w' => e = .returned (.bool true) ∧ Below w.heap.size w w' := by
  have H1 := Lib.hid ((h1.alloc (.cells #[.int .i64 t, .slice A n c, .slice A' n' c'] 25)).alloc (.cells #[.int .i64 t, .slice B m d, .slice B' m' d'] 25))
  have H2 := Lib.hid ((h2.alloc (.cells #[.int .i64 t, .slice A n c, .slice A' n' c'] 25)).alloc (.cells #[.int .i64 t, .slice B m d, .slice B' m' d'] 25))
  have H3 := Lib.hid ((h3.alloc (.cells #[.int .i64 t, .slice A n c, .slice A' n' c'] 25)).alloc (.cells #[.int .i64 t, .slice B m d, .slice B' m' d'] 25))
  have H4 := Lib.hid ((h4.alloc (.cells #[.int .i64 t, .slice A n c, .slice A' n' c'] 25)).alloc (.cells #[.int .i64 t, .slice B m d, .slice B' m' d'] 25))
  clear h1 h2 h3 h4
  have e1 : (t == t) = true := by simp
  have hb2 : Below w.heap.size w ((w.alloc (.cells #[.int .i64 t, .slice A n c, .slice A' n' c'] 25)).alloc (.cells #[.int .i64 t, .slice B m d, .slice B' m' d'] 25)) := ((Below.refl _ _).alloc (Nat.le_refl _) _).alloc (by simp) _
  have HB := Lib.hid hb2
  clear hb2
  go_enter Try.func24, Try.ntmps24
  go_wp2_with (fail)
  refine (call_b (laws_equalInts_any _ H1.out H3.out) (decide_eq_true rfl)).mono ?_
  rintro e w' ⟨rfl, m1, rfl⟩
  go_wp2_with (fail)
  refine (call_b (laws_equalInts_any _ (H2.out.drewN m1) (H4.out.drewN m1)) (decide_eq_true rfl)).mono ?_
  rintro e w' ⟨rfl, m2, rfl⟩
  go_wp2_with (fail)
  go_ret
  exact ⟨rfl, by first | exact below_drewN HB.out _ | exact below_drewN (below_drewN HB.out _) _⟩
end Go.Proofs.Ytkmjonebjobjnaa
