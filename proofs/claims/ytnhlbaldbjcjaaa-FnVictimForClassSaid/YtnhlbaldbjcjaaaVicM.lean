/-
  The places of victims as a heap: plain mathematics.
-/
import Derived.Test.YtnhlbaldbjcjaaaVicC
namespace Go.Proofs.Ytnhlbaldbjcjaaa
open Go.RowKit
theorem goesL_asym {x y : Int} {p q : Nat} (h : goesL x y p q = true) : goesL y x q p = false := by
  unfold goesL at h ⊢
  split at h <;> split <;> simp at h ⊢ <;> omega
theorem goesL_ntrans {x y z : Int} {p q r : Nat} (h : goesL x y p q = false) (k : goesL y z q r = false) : goesL x z p r = false := by
  unfold goesL at h k ⊢
  split at h <;> split at k <;> split <;> simp at h k ⊢ <;> omega
theorem goesP_asym {xs : List Tr} {p q : Int} (h : goesP xs p q = true) : goesP xs q p = false := goesL_asym h
theorem goesP_ntrans {xs : List Tr} {p q r : Int} (h : goesP xs p q = false) (k : goesP xs q r = false) : goesP xs p r = false := goesL_ntrans h k
theorem goesP_refl {xs : List Tr} {p : Int} : goesP xs p p = false := by simp [goesP, goesL]

/-- No place goes before the place above it. -/
def HeapL (xs : List Tr) (ps : List Int) : Prop := ∀ i, 0 < i → i < ps.length → goesP xs (ps.getD i 0) (ps.getD ((i - 1) / 2) 0) = false
theorem HeapL.top {xs : List Tr} {ps : List Int} (h : HeapL xs ps) {i : Nat} (hi : i < ps.length) : goesP xs (ps.getD i 0) (ps.getD 0 0) = false := by
  induction i using Nat.strongRecOn with
  | _ i ih =>
    rcases Nat.eq_zero_or_pos i with h0 | h0
    · subst h0; exact goesP_refl
    · exact goesP_ntrans (h i h0 hi) (ih ((i - 1) / 2) (by omega) (by omega))
theorem getD_set2 {ps : List Int} {j K : Nat} {a b : Int} (hj : j < ps.length) (hK : K < ps.length) (i : Nat) : ((ps.set j a).set K b).getD i 0 = if i = K then b else if i = j then a else ps.getD i 0 := by
  simp only [List.getD_eq_getElem?_getD, List.getElem?_set, List.length_set]
  by_cases h1 : K = i
  · subst h1; simp [hK]
  · by_cases h2 : j = i
    · subst h2; simp [h1, hj, Ne.symm h1]
    · simp [h1, h2, Ne.symm h1, Ne.symm h2]
theorem upL_heap {xs : List Tr} {ps : List Int} {j : Nat} (hj : j < ps.length)
    (h1 : ∀ i, 0 < i → i < ps.length → i ≠ j → goesP xs (ps.getD i 0) (ps.getD ((i - 1) / 2) 0) = false)
    (h2 : ∀ i, 0 < j → 0 < i → i < ps.length → (i - 1) / 2 = j → goesP xs (ps.getD i 0) (ps.getD ((j - 1) / 2) 0) = false) : HeapL xs (upL xs ps j) := by
  induction j using Nat.strongRecOn generalizing ps with
  | _ j ih =>
    rw [upL]
    split
    · rename_i h0
      intro i hi hl
      exact h1 i hi hl (by omega)
    · rename_i h0
      split
      · rename_i hgo
        have hK : (j - 1) / 2 < j := by omega
        have hKl : (j - 1) / 2 < ps.length := by omega
        have hKj : (j - 1) / 2 ≠ j := by omega
        have G := getD_set2 (a := ps.getD ((j - 1) / 2) 0) (b := ps.getD j 0) hj hKl
        refine ih _ hK (by simp; omega) ?_ ?_
        · intro i hi hl hne
          simp only [List.length_set] at hl
          rw [G, G, if_neg hne]
          by_cases hij : i = j
          · subst hij
            simp
            exact goesP_asym hgo
          · rw [if_neg hij]
            by_cases hp : (i - 1) / 2 = (j - 1) / 2
            · rw [if_pos hp]
              exact goesP_ntrans (by have := h1 i hi hl hij; rw [hp] at this; exact this) (goesP_asym hgo)
            · rw [if_neg hp]
              by_cases hp2 : (i - 1) / 2 = j
              · rw [if_pos hp2]
                exact h2 i (by omega) hi hl hp2
              · rw [if_neg hp2]
                exact h1 i hi hl hij
        · intro i h0K hi hl hpi
          simp only [List.length_set] at hl
          have hKK : ((j - 1) / 2 - 1) / 2 ≠ (j - 1) / 2 := by omega
          have hKKj : ((j - 1) / 2 - 1) / 2 ≠ j := by omega
          have hiK : i ≠ (j - 1) / 2 := by omega
          rw [G, G, if_neg hKK, if_neg hKKj, if_neg hiK]
          have hKh := h1 ((j - 1) / 2) h0K hKl hKj
          by_cases hij : i = j
          · rw [if_pos hij]; exact hKh
          · rw [if_neg hij]
            have := h1 i hi hl hij
            rw [hpi] at this
            exact goesP_ntrans this hKh
      · rename_i hgo
        intro i hi hl
        by_cases hij : i = j
        · subst hij; simpa using hgo
        · exact h1 i hi hl hij
theorem HeapL.push {xs : List Tr} {ps : List Int} (h : HeapL xs ps) (p : Int) : HeapL xs (upL xs (ps ++ [p]) ps.length) := by
  refine upL_heap (by simp) ?_ ?_
  · intro i hi hl hne
    simp at hl
    have e1 : ∀ k, k < ps.length → (ps ++ [p]).getD k 0 = ps.getD k 0 := by
      intro k hk
      simp only [List.getD_eq_getElem?_getD, List.getElem?_append_left hk]
    rw [e1 i (by omega), e1 _ (by omega)]
    exact h i hi (by omega)
  · intro i _ hi hl hp
    simp at hl
    omega
theorem HeapL.nil (xs : List Tr) : HeapL xs [] := by intro i _ h; simp at h
end Go.Proofs.Ytnhlbaldbjcjaaa
