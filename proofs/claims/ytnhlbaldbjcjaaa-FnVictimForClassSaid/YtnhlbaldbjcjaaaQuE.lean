/-
  Contracts of queues: the oldest entry of a class, entries without one, whether one may leave.
-/
import Derived.Test.YtnhlbaldbjcjaaaQuC
import Derived.Test.YtnhlbaldbjcjaaaQuP
import Derived.Test.YtnhlbaldbjcjaaaArF0
namespace Go.Proofs.Ytnhlbaldbjcjaaa
open Go.RowKit
set_option maxHeartbeats 1000000 in
theorem spec_firstOf_any {A : Option Addr} {n c : Nat} {xs : List Tr} (cl : Int) (w : World) (h : TS w A n c xs) (hn : n ≤ 1000000000) :
    Calls Try.prog 27 #[.slice A n c, .int .i64 cl] w fun e w' => e = .returned (.int .i64 (firstC cl xs)) ∧ w = w' := by
  have H := Lib.hid h
  clear h
  go_enter Try.func27, Try.ntmps27
  go_wp2_with (fail)
  go_loop [5] (fun i => ∃ k : Nat, k ≤ n ∧ i = .int .i64 k ∧ Hid (∀ j, j < k → ∀ y, xs[j]? = some y → y.b ≠ cl)) (fun i => n - (intOf i).toNat)
  case atStart => exact ⟨0, Nat.zero_le _, rfl, Lib.hid (fun j hj => absurd hj (by omega))⟩
  case round =>
    obtain ⟨k, hk, rfl, hp⟩ := hrel
    by_cases hlt : k < n
    · obtain ⟨b, off, x, rfl, hx, ca, cb, cc⟩ := H.out.at_ hlt
      have HX := Lib.hid hx
      clear hx
      by_cases hv : x.b = cl
      · subst hv
        go_wp2_with (fail)
        go_ret
        exact ⟨ret_int (firstC_at HX.out rfl hp.out).symm, rfl⟩
      · have hv2 : ¬ x.b = cl := hv
        go_wp2_with (fail)
        go_round
        case rel =>
          refine ⟨k + 1, by omega, by go_num, Lib.hid fun j hj y hy => ?_⟩
          rcases Nat.lt_or_ge j k with h1 | h1
          · exact hp.out j h1 y hy
          · obtain rfl : j = k := by omega
            obtain rfl : x = y := by have h2 := HX.out; rw [hy] at h2; injection h2 with h2; exact h2.symm
            exact hv2
        case measure => simp [intOf]; omega
    · go_wp2_with (fail)
      go_ret
      have ek : k = n := by omega
      subst ek
      exact ⟨ret_int (firstC_none fun j hj => hp.out j (by have := H.out.len; omega)).symm, rfl⟩
end Go.Proofs.Ytnhlbaldbjcjaaa
