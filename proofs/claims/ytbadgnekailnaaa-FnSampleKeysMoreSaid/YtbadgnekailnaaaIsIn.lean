/-
  Contract of isIn.
-/
import Derived.Test.YtbadgnekailnaaaOwn
import Derived.Deep.QuietTactic
namespace Go.Proofs.Ytbadgnekailnaaa
open Go.RowKit

set_option maxHeartbeats 1000000 in
theorem laws_isIn_any {A : Option Addr} {n c : Nat} {xs : List Int} (v : Int) (w : World) (h : IS w A n c xs) :
    Calls Try.prog 32 #[.slice A n c, .int .i64 v] w fun e w' => e = .returned (.bool (xs.contains v)) ∧ w = w' := by
  have hcap := h.cap
  have HL := Lib.hid h.len
  have H := Lib.hid h
  clear h
  go_enter Try.func32, Try.ntmps32
  go_wp2_with (fail)
  go_loop [5] (fun i => ∃ k : Nat, k ≤ n ∧ i = .int .i64 (k : Int) ∧ Hid ((xs.take k).contains v = false)) (fun i => n - (intOf i).toNat)
  case atStart => exact ⟨0, Nat.zero_le _, rfl, Lib.hid (by simp)⟩
  case round =>
    obtain ⟨k, hk, rfl, ha⟩ := hrel
    by_cases hlt : k < n
    · obtain ⟨g, off, u, rfl, hx, hc⟩ := H.out.at_ hlt
      have HX := Lib.hid hx
      clear hx
      by_cases hu : u = v
      · have hu' : (u == v) = true := by simp [hu]
        go_wp2_with (fail)
        go_ret
        exact ⟨ret_bool (by have := List.mem_of_getElem? HX.out; rw [hu] at this; simp [this]), rfl⟩
      · have hu' : (u == v) = false := by simp [hu]
        have HU := Lib.hid hu
        clear hu
        go_wp2_with (fail)
        go_round
        case rel => exact ⟨k + 1, by omega, by go_num, Lib.hid (by
          have hk : k < xs.length := (List.getElem?_eq_some_iff.1 HX.out).1
          have e : xs[k] = u := (List.getElem?_eq_some_iff.1 HX.out).2
          have h1 := ha.out
          rw [List.take_succ_eq_append_getElem hk, e]
          simp only [List.contains_eq_mem, List.mem_append, List.mem_singleton, decide_eq_false_iff_not] at h1 ⊢
          rintro (h2 | h2)
          · exact h1 h2
          · exact HU.out h2.symm)⟩
        case measure => simp [intOf]; omega
    · go_wp2_with (fail)
      go_ret
      have ht := ha.out
      rw [List.take_of_length_le (by have := HL.out; omega)] at ht
      exact ⟨ret_bool (by simpa using ht.symm), rfl⟩
end Go.Proofs.Ytbadgnekailnaaa
