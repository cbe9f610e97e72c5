/-
  Contracts of counters: three numbers in a range, their sum.
-/
import Derived.Test.YtmlnaijpbfddaaaOwn
import Derived.Lib.MinMax
namespace Go.Proofs.Ytmlnaijpbfddaaa
open Go.RowKit

theorem allR_wide {xs : List Int} {lo hi lo' hi' : Int} (h : allR xs lo hi = true) (h1 : lo' ≤ lo) (h2 : hi ≤ hi') : allR xs lo' hi' = true := by
  unfold allR at *
  rw [List.all_eq_true] at *
  intro x hx
  have := inR_iff.1 (h x hx)
  exact inR_t (by omega) (by omega)
theorem sum_snoc {xs : List Int} {k : Nat} {v : Int} (h : xs[k]? = some v) : (xs.take (k + 1)).sum = (xs.take k).sum + v := by
  have hk : k < xs.length := (List.getElem?_eq_some_iff.1 h).1
  have hx : xs[k] = v := (List.getElem?_eq_some_iff.1 h).2
  rw [List.take_succ_eq_append_getElem hk, List.sum_append, hx]
  simp
theorem impl_validClass_any (n : Int) (w : World) :
    Calls Try.prog 31 #[.int .i64 n] w fun e w' => e = .returned (.bool (inR n 0 2)) ∧ w = w' := by
  go_enter Try.func31, Try.ntmps31
  go_wp2_with (go_at_call 36; refine (impl_within_any _ _ _ _).mono ?_; rintro e w' ⟨rfl, rfl⟩)
  go_ret
  exact ⟨rfl, rfl⟩
/-- Three numbers in a range. -/
def cnt (xs : List Int) (lo hi : Int) : Bool := decide (xs.length = 3) && allR xs lo hi
theorem cnt_iff {xs : List Int} {lo hi : Int} : cnt xs lo hi = true ↔ xs.length = 3 ∧ allR xs lo hi = true := by simp [cnt]
theorem impl_validCounters_any {A : Option Addr} {n c : Nat} {xs : List Int} (lo hi : Int) (w : World) (h : IS w A n c xs) :
    Calls Try.prog 30 #[.slice A n c, .int .i64 lo, .int .i64 hi] w fun e w' => e = .returned (.bool (cnt xs lo hi)) ∧ w = w' := by
  have hl := h.len
  have hcap := h.cap
  have HL := Lib.hid hl
  clear hl
  have H := Lib.hid h
  clear h
  by_cases h3 : n = 3
  · have h3' : ((n : Int) == 3) = true := by simp; omega
    have H3 := Lib.hid h3
    clear h3
    go_enter Try.func30, Try.ntmps30
    go_wp2_with (go_at_call 37; refine (impl_allWithin_any _ _ _ H.out).mono ?_; rintro e w' ⟨rfl, rfl⟩)
    go_ret
    exact ⟨ret_bool (by simp [cnt, HL.out, H3.out]), rfl⟩
  · have h3' : ((n : Int) == 3) = false := by simp; omega
    have H3 := Lib.hid h3
    clear h3
    go_enter Try.func30, Try.ntmps30
    go_wp2_with (fail)
    go_ret
    exact ⟨ret_bool (by simp [cnt, HL.out, H3.out]), rfl⟩
end Go.Proofs.Ytmlnaijpbfddaaa
