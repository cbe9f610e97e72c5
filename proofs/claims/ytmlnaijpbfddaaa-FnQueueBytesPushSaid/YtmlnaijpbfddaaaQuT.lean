/-
  The laws' sum, and mathematics of the laws on queues.
-/
import Derived.Test.YtmlnaijpbfddaaaQuR
import Derived.Test.YtmlnaijpbfddaaaQuD
namespace Go.Proofs.Ytmlnaijpbfddaaa
open Go.RowKit
set_option maxHeartbeats 400000 in
theorem laws_sum_any {A : Option Addr} {n c : Nat} {xs : List Int} (w : World) (h : IS w A n c xs) (hr : allR xs 0 1000 = true) (hn : n ≤ 1000000) :
    Calls Try.prog 14 #[.slice A n c] w fun e w' => e = .returned (.int .i64 xs.sum) ∧ w = w' := by
  have H := Lib.hid h
  clear h
  have HR := Lib.hid hr
  clear hr
  go_enter Try.func14, Try.ntmps14
  go_wp2_with (fail)
  go_loop [3, 4] (fun t i => ∃ k : Nat, ∃ m : Int, k ≤ n ∧ 0 ≤ m ∧ m ≤ 1000 * (k : Int) ∧ i = .int .i64 k ∧ t = .int .i64 m ∧ Hid ((xs.take k).sum = m)) (fun _ i => n - (intOf i).toNat)
  case atStart => exact ⟨0, 0, Nat.zero_le _, by omega, by omega, rfl, rfl, Lib.hid (by simp)⟩
  case round =>
    obtain ⟨k, m, hk, hm0, hm1, rfl, rfl, ha⟩ := hrel
    by_cases hlt : k < n
    · obtain ⟨b, off, v, rfl, hx, hc⟩ := H.out.at_ hlt
      obtain ⟨hv0, hv1⟩ := allR_at hx HR.out
      have HX := Lib.hid hx
      clear hx
      go_wp2_with (fail)
      go_round
      case rel => exact ⟨k + 1, m + v, by omega, by omega, by omega, by go_num, by go_num, Lib.hid (by rw [sum_snoc HX.out, ha.out])⟩
      case measure => simp [intOf]; omega
    · go_wp2_with (fail)
      go_ret
      have ht := ha.out
      rw [List.take_of_length_le (by have := H.out.len; omega)] at ht
      exact ⟨ret_int ht.symm, rfl⟩
theorem quB_yes {xs : List Tr} {sh db : List Int} {t : Int} (h : validQ xs sh db t = true) : quB xs sh db t = bytesE xs := by simp [quB, h]
theorem quB_no {xs : List Tr} {sh db : List Int} {t : Int} (h : validQ xs sh db t = false) : quB xs sh db t = [] := by simp [quB, h]
theorem bytesE_sum {xs : List Tr} (h : ∀ x ∈ xs, 0 ≤ x.b ∧ x.b ≤ 2) : (bytesE xs).sum = szE xs := by
  induction xs with
  | nil => simp [bytesE, bytesC, szE]
  | cons x xs ih =>
    have h1 := ih (fun y hy => h y (List.mem_cons_of_mem _ hy))
    have h2 := h x List.mem_cons_self
    unfold bytesE at h1 ⊢
    simp only [List.sum_cons, List.sum_nil, bytesC_cons, szE_cons] at h1 ⊢
    split <;> split <;> split <;> omega
theorem bytesE_allR {xs : List Tr} (h : ValidE xs) : allR (bytesE xs) 0 1000 = true := by
  have hb : ∀ c, 0 ≤ bytesC xs c ∧ bytesC xs c ≤ 1000 := fun c => by
    have h1 := bytesC_bd (fun x hx => (h.at_ hx).2.2) c
    have h2 := h.1
    omega
  unfold allR bytesE
  simp only [List.all_cons, List.all_nil, Bool.and_true, Bool.and_eq_true]
  exact ⟨inR_iff.2 (hb 0), inR_iff.2 (hb 1), inR_iff.2 (hb 2)⟩
end Go.Proofs.Ytmlnaijpbfddaaa
