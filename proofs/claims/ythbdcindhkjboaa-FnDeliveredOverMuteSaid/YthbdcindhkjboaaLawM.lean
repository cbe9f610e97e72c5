/-
  Mathematics of the numbers that stand once.
-/
import Derived.Test.YthbdcindhkjboaaLiM
namespace Go.Proofs.Ythbdcindhkjboaa
open Go.RowKit

theorem onceF_mem (o l : List Int) (x : Int) : x ∈ onceF o l ↔ x ∈ o ∨ x ∈ l := by
  induction l generalizing o with
  | nil => simp [onceF]
  | cons y r ih =>
    simp only [onceF]
    rw [ih]
    split
    · rename_i hy
      have hy' : y ∈ o := by simpa using hy
      constructor
      · rintro (h | h)
        · exact .inl h
        · exact .inr (by simp [h])
      · rintro (h | h)
        · exact .inl h
        · rcases List.mem_cons.1 h with rfl | h
          · exact .inl hy'
          · exact .inr h
    · simp only [List.mem_append, List.mem_cons, or_assoc, List.not_mem_nil, false_or]
theorem once_mem (l : List Int) (x : Int) : x ∈ onceL l ↔ x ∈ l := by
  unfold onceL
  rw [onceF_mem]
  simp
theorem onceF_nodup (o l : List Int) (h : o.Nodup) : (onceF o l).Nodup := by
  induction l generalizing o with
  | nil => exact h
  | cons y r ih =>
    simp only [onceF]
    apply ih
    split
    · exact h
    · rename_i hy
      rw [List.nodup_append]
      refine ⟨h, by simp, ?_⟩
      intro a ha b hb e
      rw [List.mem_singleton] at hb
      apply hy
      rw [← hb, ← e]
      simpa using ha
theorem once_nodup (l : List Int) : (onceL l).Nodup := onceF_nodup [] l List.nodup_nil
/-- What stands at a place stands at none before it. -/
theorem nodup_take {l : List Int} {j : Nat} {v : Int} (h : l.Nodup) (hx : l[j]? = some v) : (l.take j).contains v = false := by
  have hj : j < l.length := (List.getElem?_eq_some_iff.1 hx).1
  have e : l[j] = v := (List.getElem?_eq_some_iff.1 hx).2
  rcases hc : (l.take j).contains v with _ | _
  · rfl
  · exfalso
    have h1 : v ∈ l.take j := by simpa using hc
    obtain ⟨i, hi, he⟩ := List.mem_iff_getElem.1 h1
    have hi2 : i < j := by rw [List.length_take] at hi; omega
    rw [List.getElem_take] at he
    have h2 := List.pairwise_iff_getElem.1 h i j (by omega) hj hi2
    exact h2 (by rw [he, e])
theorem dlv_arr (xs : List Int) (m v : Int) : (dlvV xs m).contains v = (arrV xs m).contains v := by
  have h := once_mem (arrV xs m) v
  unfold dlvV
  rcases h1 : (arrV xs m).contains v with _ | _
  · have h2 : v ∉ arrV xs m := by simpa using h1
    simpa using fun h3 => h2 (h.1 h3)
  · have h2 : v ∈ arrV xs m := by simpa using h1
    simpa using h.2 h2
end Go.Proofs.Ythbdcindhkjboaa
