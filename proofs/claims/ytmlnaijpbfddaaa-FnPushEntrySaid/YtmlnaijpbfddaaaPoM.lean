/-
  The mathematics of the laws on entries that leave.
-/
import Derived.Test.YtmlnaijpbfddaaaQuP
import Derived.Test.YtmlnaijpbfddaaaQuR
import Derived.Test.YtmlnaijpbfddaaaQuT
namespace Go.Proofs.Ytmlnaijpbfddaaa
open Go.RowKit

theorem pop_empty (sh db : List Int) (t : Int) : popOK [] sh db t = false := by simp [popOK]
theorem validQ_empty {xs : List Tr} {sh db : List Int} {t : Int} (h : validQ xs sh db t = true) : validQ [] sh db t = true := by
  obtain ⟨_, h2, h3, h4⟩ := validQ_iff.1 h
  exact validQ_iff.2 ⟨validE_nil, h2, h3, h4⟩
theorem split_at {xs : List Tr} {k : Nat} {x : Tr} (h : xs[k]? = some x) : xs = xs.take k ++ x :: xs.drop (k + 1) := by
  have hk : k < xs.length := (List.getElem?_eq_some_iff.1 h).1
  have hv : xs[k] = x := (List.getElem?_eq_some_iff.1 h).2
  rw [← hv, ← List.drop_eq_getElem_cons hk, List.take_append_drop]
theorem bytesC_append (xs ys : List Tr) (c : Int) : bytesC (xs ++ ys) c = bytesC xs c + bytesC ys c := by
  simp [bytesC, List.filter_append, List.map_append, List.sum_append]
theorem bytesC_leave {xs : List Tr} {k : Nat} {x : Tr} (h : xs[k]? = some x) (c : Int) : bytesC xs c - bytesC (leaveL xs k) c = if x.b = c then x.c else 0 := by
  have e := split_at h
  have e1 : bytesC xs c = bytesC (xs.take k) c + ((if x.b = c then x.c else 0) + bytesC (xs.drop (k + 1)) c) := by
    conv => lhs; rw [e]
    rw [bytesC_append, bytesC_cons]
  rw [e1]
  unfold leaveL
  rw [bytesC_append]
  omega
theorem leave_perm {xs : List Tr} {k : Nat} {x : Tr} (h : xs[k]? = some x) : (x :: leaveL xs k).Perm xs := by
  have e := split_at h
  conv => rhs; rw [e]
  unfold leaveL
  exact List.perm_middle.symm
theorem popOK_of {xs : List Tr} {sh db : List Int} {t : Int} (h : validQ xs sh db t = true) (hne : xs ≠ []) : popOK xs sh db t = true := popOK_iff.2 ⟨h, hne⟩
theorem popA_nil (sh db : List Int) (t : Int) : popA [] sh db t = [] := popA_no (pop_empty sh db t)
/-- All entries leave, each once. -/
theorem pop_perm {xs : List Tr} {sh db : List Int} {t : Int} (h : validQ xs sh db t = true) : (popA xs sh db t).Perm xs := by
  generalize hn : xs.length = n
  induction n generalizing xs sh db t with
  | zero =>
    obtain rfl : xs = [] := List.eq_nil_of_length_eq_zero hn
    rw [popA_nil]
  | succ n ih =>
    have hne : xs ≠ [] := by rintro rfl; simp at hn
    have hk := popOK_of h hne
    have hv := pop_valid hk
    have hl := pop_len hk
    rw [popA_yes hk]
    have h1 := ih hv (by omega)
    obtain ⟨N, u, d, k, x, L, ex, el, _⟩ := leaves_of hk
    rw [ex]
    refine List.Perm.trans (List.Perm.cons x h1) ?_
    rw [el]
    exact leave_perm L.get
theorem pop_length {xs : List Tr} {sh db : List Int} {t : Int} (h : validQ xs sh db t = true) : (popA xs sh db t).length = xs.length := (pop_perm h).length_eq
/-- Entries of a class leave in their order. -/
def clsL (c : Int) (xs : List Tr) : List Tr := xs.filter fun x => decide (x.b = c)
theorem pop_cls {xs : List Tr} {sh db : List Int} {t : Int} (h : validQ xs sh db t = true) (c : Int) : clsL c (popA xs sh db t) = clsL c xs := by
  generalize hn : xs.length = n
  induction n generalizing xs sh db t with
  | zero =>
    obtain rfl : xs = [] := List.eq_nil_of_length_eq_zero hn
    rw [popA_nil]
  | succ n ih =>
    have hne : xs ≠ [] := by rintro rfl; simp at hn
    have hk := popOK_of h hne
    have hv := pop_valid hk
    have hl := pop_len hk
    rw [popA_yes hk]
    have h1 := ih hv (by omega)
    obtain ⟨N, u, d, k, x, L, ex, el, _⟩ := leaves_of hk
    rw [el] at h1
    have e := split_at L.get
    have hb : ∀ y ∈ xs.take k, y.b ≠ x.b := fun y hy => by
      obtain ⟨j, hj, ej⟩ := List.getElem_of_mem hy
      rw [List.length_take] at hj
      rw [List.getElem_take] at ej
      rw [L.cls]
      have hj2 : j < whereC (u : Int) xs := by rw [L.place]; omega
      exact whereC_before hj2 (by rw [List.getElem?_eq_getElem (by omega), ej])
    have e2 : clsL c xs = clsL c (xs.take k) ++ clsL c (x :: xs.drop (k + 1)) := by
      conv => lhs; rw [e]
      unfold clsL
      rw [List.filter_append]
    have e3 : clsL c (leaveL xs k) = clsL c (xs.take k) ++ clsL c (xs.drop (k + 1)) := by
      unfold clsL leaveL
      rw [List.filter_append]
    have e4 : clsL c (popX xs sh db t :: popA (popL xs sh db t) (popH xs sh db t) (popD xs sh db t) (popT xs sh db t)) = (if x.b = c then [x] else []) ++ clsL c (leaveL xs k) := by
      rw [ex]
      unfold clsL at h1 ⊢
      rw [List.filter_cons, el, h1]
      by_cases hc : x.b = c <;> simp [hc]
    rw [e4, e2, e3]
    by_cases hc : x.b = c
    · have e5 : clsL c (xs.take k) = [] := by
        unfold clsL
        rw [List.filter_eq_nil_iff]
        intro y hy
        have := hb y hy
        rw [hc] at this
        simpa using this
      rw [e5, if_pos hc]
      unfold clsL
      simp [List.filter_cons, hc]
    · rw [if_neg hc]
      unfold clsL
      simp [List.filter_cons, hc]
theorem szE_perm {xs ys : List Tr} (h : ys.Perm xs) : szE ys = szE xs := by
  induction h with
  | nil => rfl
  | cons x _ ih => rw [szE_cons, szE_cons, ih]
  | swap x y l => simp only [szE_cons]; omega
  | trans _ _ h1 h2 => exact h1.trans h2
theorem ValidE.perm {xs ys : List Tr} (h : ValidE xs) (p : ys.Perm xs) : ValidE ys := by
  obtain ⟨h1, h2⟩ := h
  obtain ⟨h3, h4⟩ := okEs_pairwise.1 h2
  exact ⟨by rw [p.length_eq]; exact h1, okEs_pairwise.2 ⟨fun x hx => h3 x (p.mem_iff.1 hx), (p.pairwise_iff (fun h => h.symm)).2 h4⟩⟩
end Go.Proofs.Ytmlnaijpbfddaaa
