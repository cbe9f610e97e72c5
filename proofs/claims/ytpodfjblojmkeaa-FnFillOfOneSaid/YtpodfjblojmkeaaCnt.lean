/-
  Contracts of counters: three numbers in a range, their sum.
-/
import Derived.Test.YtpodfjblojmkeaaOwn
import Derived.Lib.MinMax
namespace Go.Proofs.Ytpodfjblojmkeaa
open Go.RowKit

theorem allR_wide {xs : List Int} {lo hi lo' hi' : Int} (h : allR xs lo hi = true) (h1 : lo' ≤ lo) (h2 : hi ≤ hi') : allR xs lo' hi' = true := by
  unfold allR at *
  rw [List.all_eq_true] at *
  intro x hx
  have := inR_iff.1 (h x hx)
  exact inR_t (by omega) (by omega)
theorem sum_snoc {xs : List Int} {k : Nat} {v : Int} (h : xs[k]? = some v) : (xs.take (k + 1)).sum = (xs.take k).sum + v := by
  have hk : k < xs.length := (List.getElem?_eq_some_iff.1 h).1
  have hx : xs[k] = v := (List.getElem?_eq_some_iff.1 h).2
  rw [List.take_succ_eq_append_getElem hk, List.sum_append, hx]
  simp
/-- Three numbers in a range. -/
def cnt (xs : List Int) (lo hi : Int) : Bool := decide (xs.length = 3) && allR xs lo hi
theorem cnt_iff {xs : List Int} {lo hi : Int} : cnt xs lo hi = true ↔ xs.length = 3 ∧ allR xs lo hi = true := by simp [cnt]
set_option maxHeartbeats 400000 in
theorem spec_sum_any {A : Option Addr} {n c : Nat} {xs : List Int} (w : World) (h : IS w A n c xs) (hr : allR xs 0 1000 = true) (hn : n ≤ 1000000) :
    Calls Try.prog 37 #[.slice A n c] w fun e w' => e = .returned (.int .i64 xs.sum) ∧ w = w' := by
  have H := Lib.hid h
  clear h
  have HR := Lib.hid hr
  clear hr
  go_enter Try.func37, Try.ntmps37
  go_wp2_with (fail)
  go_loop [3, 4] (fun t i => ∃ k : Nat, ∃ m : Int, k ≤ n ∧ 0 ≤ m ∧ m ≤ 1000 * (k : Int) ∧ i = .int .i64 k ∧ t = .int .i64 m ∧ Hid ((xs.take k).sum = m)) (fun _ i => n - (intOf i).toNat)
  case atStart => exact ⟨0, 0, Nat.zero_le _, by omega, by omega, rfl, rfl, Lib.hid (by simp)⟩
  case round =>
    obtain ⟨k, m, hk, hm0, hm1, rfl, rfl, ha⟩ := hrel
    by_cases hlt : k < n
    · obtain ⟨b, off, v, rfl, hx, hc⟩ := H.out.at_ hlt
      obtain ⟨hv0, hv1⟩ := allR_at hx HR.out
      have HX := Lib.hid hx
      clear hx
      go_wp2_with (fail)
      go_round
      case rel => exact ⟨k + 1, m + v, by omega, by omega, by omega, by go_num, by go_num, Lib.hid (by rw [sum_snoc HX.out, ha.out])⟩
      case measure => simp [intOf]; omega
    · go_wp2_with (fail)
      go_ret
      have ht := ha.out
      rw [List.take_of_length_le (by have := H.out.len; omega)] at ht
      exact ⟨ret_int ht.symm, rfl⟩
set_option maxHeartbeats 400000 in
theorem impl_sumOf_any {A : Option Addr} {n c : Nat} {xs : List Int} (w : World) (h : IS w A n c xs) (hr : allR xs 0 1000 = true) (hn : n ≤ 1000000) :
    Calls Try.prog 38 #[.slice A n c] w fun e w' => e = .returned (.int .i64 xs.sum) ∧ w = w' := by
  have H := Lib.hid h
  clear h
  have HR := Lib.hid hr
  clear hr
  go_enter Try.func38, Try.ntmps38
  go_wp2_with (fail)
  go_loop [3, 8] (fun t i => ∃ k : Nat, ∃ m : Int, k ≤ n ∧ 0 ≤ m ∧ m ≤ 1000 * (k : Int) ∧ i = .int .i64 k ∧ t = .int .i64 m ∧ Hid ((xs.take k).sum = m)) (fun _ i => n - (intOf i).toNat)
  case atStart => exact ⟨0, 0, Nat.zero_le _, by omega, by omega, rfl, rfl, Lib.hid (by simp)⟩
  case round =>
    obtain ⟨k, m, hk, hm0, hm1, rfl, rfl, ha⟩ := hrel
    by_cases hlt : k < n
    · obtain ⟨b, off, v, rfl, hx, hc⟩ := H.out.at_ hlt
      obtain ⟨hv0, hv1⟩ := allR_at hx HR.out
      have HX := Lib.hid hx
      clear hx
      go_wp2_with (fail)
      go_round
      case rel => exact ⟨k + 1, m + v, by omega, by omega, by omega, by go_num, by go_num, Lib.hid (by rw [sum_snoc HX.out, ha.out])⟩
      case measure => simp [intOf]; omega
    · go_wp2_with (fail)
      go_ret
      have ht := ha.out
      rw [List.take_of_length_le (by have := H.out.len; omega)] at ht
      exact ⟨ret_int ht.symm, rfl⟩
end Go.Proofs.Ytpodfjblojmkeaa
