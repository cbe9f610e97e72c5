/-
  Facts of arenas: no program.
-/
import Derived.Test.YtleoncjdhlomaaaInt
import Derived.Test.YtleoncjdhlomaaaTri
namespace Go.Proofs.Ytleoncjdhlomaaa
open Go.RowKit

/-- Where the last block ends. -/
def endT (xs : List Tr) : Int := match xs.getLast? with | some x => x.b + x.c | none => 0
theorem endT_nil : endT [] = 0 := rfl
theorem endT_next {xs : List Tr} {k : Nat} {x : Tr} (h : xs[k]? = some x) : endT (xs.take (k + 1)) = x.b + x.c := by
  have hk : k < xs.length := (List.getElem?_eq_some_iff.1 h).1
  have hx : xs[k] = x := (List.getElem?_eq_some_iff.1 h).2
  simp [endT, List.take_succ_eq_append_getElem hk, hx]
/-- The block at a place fits behind the ones before it. -/
def okAt (hi : Int) (xs : List Tr) (j : Nat) : Prop :=
  ∀ x, xs[j]? = some x → (0 ≤ x.a ∧ x.a ≤ 99) ∧ (∀ y ∈ xs.take j, y.a ≠ x.a) ∧ (endT (xs.take j) ≤ x.b ∧ x.b ≤ hi) ∧ (1 ≤ x.c ∧ x.c ≤ hi - x.b)
def okPre (hi : Int) (xs : List Tr) (k : Nat) : Prop := ∀ j, j < k → okAt hi xs j
theorem okPre_zero (hi : Int) (xs : List Tr) : okPre hi xs 0 := fun j h => absurd h (Nat.not_lt_zero j)
theorem okPre_next {hi : Int} {xs : List Tr} {k : Nat} (h : okPre hi xs k) (h2 : okAt hi xs k) : okPre hi xs (k + 1) := fun j hj => by
  rcases Nat.lt_or_ge j k with h3 | h3
  · exact h j h3
  · have : j = k := by omega
    subst this
    exact h2
theorem okPre_end {hi : Int} {xs : List Tr} {k : Nat} (h : okPre hi xs k) (hk : k ≤ xs.length) (hi0 : 0 ≤ hi) : 0 ≤ endT (xs.take k) ∧ endT (xs.take k) ≤ hi := by
  induction k with
  | zero => simp [endT]; exact hi0
  | succ k ih =>
    have hx : xs[k]? = some xs[k] := List.getElem?_eq_getElem (by omega)
    obtain ⟨_, _, h1, h2⟩ := h k (Nat.lt_succ_self _) _ hx
    have h3 := ih (fun j hj => h j (by omega)) (by omega)
    rw [endT_next hx]
    omega
theorem okPre_mono {hi : Int} {xs : List Tr} {k j : Nat} (h : okPre hi xs k) (hk : k ≤ xs.length) (hj : j ≤ k) (h0 : 0 ≤ hi) : endT (xs.take j) ≤ endT (xs.take k) := by
  induction k with
  | zero => have : j = 0 := by omega
            subst this; exact Int.le_refl _
  | succ k ih =>
    rcases Nat.lt_or_ge j (k + 1) with h3 | h3
    · have h4 := ih (fun j hj => h j (by omega)) (by omega) (by omega)
      have hx : xs[k]? = some xs[k] := List.getElem?_eq_getElem (by omega)
      obtain ⟨_, _, h1, h2⟩ := h k (Nat.lt_succ_self _) _ hx
      rw [endT_next hx]
      omega
    · have : j = k + 1 := by omega
      subst this; exact Int.le_refl _
/-- An arena is valid. -/
def ValidA (s : Int) (xs : List Tr) : Prop := (0 ≤ s ∧ s ≤ 64) ∧ xs.length ≤ 10 ∧ okPre s xs xs.length
noncomputable def validA (s : Int) (xs : List Tr) : Bool := @decide (ValidA s xs) (Classical.propDecidable _)
theorem validA_iff {s : Int} {xs : List Tr} : validA s xs = true ↔ ValidA s xs := by simp [validA]
theorem validA_f {s : Int} {xs : List Tr} (h : ¬ ValidA s xs) : validA s xs = false := by simp [validA, h]
theorem validA_t {s : Int} {xs : List Tr} (h : ValidA s xs) : validA s xs = true := validA_iff.2 h
theorem okPre_wide {lo hi : Int} {xs : List Tr} {k : Nat} (h : okPre lo xs k) (hl : lo ≤ hi) : okPre hi xs k := fun j hj x hx => by
  obtain ⟨h1, h2, h3, h4⟩ := h j hj x hx
  exact ⟨h1, h2, by omega, by omega⟩
theorem okPre_narrow {s : Int} {xs : List Tr} (h : okPre 64 xs xs.length) (he : endT xs ≤ s) : okPre s xs xs.length := fun j hj x hx => by
  obtain ⟨h1, h2, h3, h4⟩ := h j hj x hx
  have h5 := okPre_mono (j := j + 1) h (Nat.le_refl _) (by omega) (by omega)
  rw [endT_next hx, List.take_of_length_le (Nat.le_refl _)] at h5
  exact ⟨h1, h2, by omega, by omega⟩
theorem validA_spec {s : Int} {xs : List Tr} (h : okPre 64 xs xs.length) : ValidA s xs ↔ xs.length ≤ 10 ∧ endT xs ≤ s ∧ s ≤ 64 := by
  have e : xs.take xs.length = xs := List.take_of_length_le (Nat.le_refl _)
  have h0 := okPre_end h (Nat.le_refl _) (by omega)
  rw [e] at h0
  constructor
  · rintro ⟨h1, h2, h3⟩
    have h4 := okPre_end h3 (Nat.le_refl _) h1.1
    rw [e] at h4
    exact ⟨h2, by omega, by omega⟩
  · rintro ⟨h1, h2, h3⟩
    exact ⟨by omega, h1, okPre_narrow h h2⟩
theorem validA_bad {s : Int} {xs : List Tr} {k : Nat} (hk : k < xs.length) (h : ¬ okAt 64 xs k) : ¬ ValidA s xs := fun hv =>
  h ((okPre_wide hv.2.2 hv.1.2) k hk)
theorem ValidA.at_ {s : Int} {xs : List Tr} (h : ValidA s xs) {x : Tr} (hx : x ∈ xs) : (0 ≤ x.a ∧ x.a ≤ 99) ∧ (0 ≤ x.b ∧ x.b ≤ 64) ∧ (1 ≤ x.c ∧ x.c ≤ 64) := by
  obtain ⟨j, hj, e⟩ := List.getElem_of_mem hx
  obtain ⟨h1, _, h3, h4⟩ := h.2.2 j hj x (by rw [← e]; exact List.getElem?_eq_getElem hj)
  have h5 := okPre_end (k := j) (fun i hi => h.2.2 i (by omega)) (by omega) h.1.1
  have h6 := h.1
  exact ⟨h1, by omega, by omega⟩
end Go.Proofs.Ytleoncjdhlomaaa
