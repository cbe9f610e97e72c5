/-
  Facts of entries and queues: no program.
-/
import Derived.Test.YtmlnaijpbfddaaaInt
import Derived.Test.YtmlnaijpbfddaaaTri
import Derived.Test.YtmlnaijpbfddaaaCnt
namespace Go.Proofs.Ytmlnaijpbfddaaa
open Go.RowKit

/-- The entry at a place is right behind the ones before it. (a: name, b: class, c: size.) -/
def okE (xs : List Tr) (j : Nat) : Prop :=
  ∀ x, xs[j]? = some x → (0 ≤ x.a ∧ x.a ≤ 99) ∧ (∀ y ∈ xs.take j, y.a ≠ x.a) ∧ (0 ≤ x.b ∧ x.b ≤ 2) ∧ (1 ≤ x.c ∧ x.c ≤ 20)
def okEs (xs : List Tr) (k : Nat) : Prop := ∀ j, j < k → okE xs j
theorem okEs_zero (xs : List Tr) : okEs xs 0 := fun j h => absurd h (Nat.not_lt_zero j)
theorem okEs_next {xs : List Tr} {k : Nat} (h : okEs xs k) (h2 : okE xs k) : okEs xs (k + 1) := fun j hj => by
  rcases Nat.lt_or_ge j k with h3 | h3
  · exact h j h3
  · have : j = k := by omega
    subst this
    exact h2
/-- Entries are valid. -/
def ValidE (xs : List Tr) : Prop := xs.length ≤ 10 ∧ okEs xs xs.length
noncomputable def validE (xs : List Tr) : Bool := @decide (ValidE xs) (Classical.propDecidable _)
theorem validE_iff {xs : List Tr} : validE xs = true ↔ ValidE xs := by simp [validE]
theorem validE_f {xs : List Tr} (h : ¬ ValidE xs) : validE xs = false := by simp [validE, h]
theorem validE_t {xs : List Tr} (h : ValidE xs) : validE xs = true := validE_iff.2 h
theorem validE_bad {xs : List Tr} {k : Nat} (hk : k < xs.length) (h : ¬ okE xs k) : ¬ ValidE xs := fun hv => h (hv.2 k hk)
theorem ValidE.at_ {xs : List Tr} (h : ValidE xs) {x : Tr} (hx : x ∈ xs) : (0 ≤ x.a ∧ x.a ≤ 99) ∧ (0 ≤ x.b ∧ x.b ≤ 2) ∧ (1 ≤ x.c ∧ x.c ≤ 20) := by
  obtain ⟨j, hj, e⟩ := List.getElem_of_mem hx
  obtain ⟨h1, _, h3, h4⟩ := h.2 j hj x (by rw [← e]; exact List.getElem?_eq_getElem hj)
  exact ⟨h1, h3, h4⟩
theorem ValidE.get {xs : List Tr} (h : ValidE xs) {j : Nat} {x : Tr} (hx : xs[j]? = some x) : (0 ≤ x.a ∧ x.a ≤ 99) ∧ (0 ≤ x.b ∧ x.b ≤ 2) ∧ (1 ≤ x.c ∧ x.c ≤ 20) :=
  h.at_ (List.mem_of_getElem? hx)
theorem validE_nil : validE [] = true := validE_t ⟨by simp, fun j h => absurd h (Nat.not_lt_zero j)⟩
/-- Names of entries are all different. -/
theorem ValidE.ne {xs : List Tr} (h : ValidE xs) {i j : Nat} {x y : Tr} (hi : xs[i]? = some x) (hj : xs[j]? = some y) (hne : i ≠ j) : x.a ≠ y.a := by
  have key : ∀ {i j : Nat} {x y : Tr}, xs[i]? = some x → xs[j]? = some y → i < j → x.a ≠ y.a := by
    intro i j x y hi hj hlt
    have hl : j < xs.length := (List.getElem?_eq_some_iff.1 hj).1
    refine (h.2 j hl y hj).2.1 x ?_
    exact List.mem_of_getElem? (i := i) (by rw [List.getElem?_take, if_pos hlt]; exact hi)
  rcases Nat.lt_or_ge i j with h1 | h1
  · exact key hi hj h1
  · exact fun e => key hj hi (by omega) e.symm
/-- A queue is valid. -/
noncomputable def validQ (xs : List Tr) (sh db : List Int) (t : Int) : Bool := validE xs && cnt sh 1 20 && cnt db 0 40 && inR t 0 2
theorem validQ_iff {xs : List Tr} {sh db : List Int} {t : Int} : validQ xs sh db t = true ↔ validE xs = true ∧ cnt sh 1 20 = true ∧ cnt db 0 40 = true ∧ inR t 0 2 = true := by
  simp [validQ, and_assoc]
/-- How many bytes of a class entries have. -/
def bytesC (xs : List Tr) (c : Int) : Int := ((xs.filter fun x => decide (x.b = c)).map Tr.c).sum
def bytesE (xs : List Tr) : List Int := [bytesC xs 0, bytesC xs 1, bytesC xs 2]
theorem bytesC_nil (c : Int) : bytesC [] c = 0 := rfl
theorem bytesC_snoc (xs : List Tr) (x : Tr) (c : Int) : bytesC (xs ++ [x]) c = bytesC xs c + if x.b = c then x.c else 0 := by
  unfold bytesC
  rw [List.filter_append, List.map_append, List.sum_append]
  by_cases h : x.b = c <;> simp [List.filter_cons, h]
theorem bytesC_next {xs : List Tr} {k : Nat} {x : Tr} (h : xs[k]? = some x) (c : Int) : bytesC (xs.take (k + 1)) c = bytesC (xs.take k) c + if x.b = c then x.c else 0 := by
  have hk : k < xs.length := (List.getElem?_eq_some_iff.1 h).1
  have hx : xs[k] = x := (List.getElem?_eq_some_iff.1 h).2
  rw [List.take_succ_eq_append_getElem hk, hx, bytesC_snoc]
theorem bytesC_bd {xs : List Tr} (h : ∀ x ∈ xs, 1 ≤ x.c ∧ x.c ≤ 20) (c : Int) : 0 ≤ bytesC xs c ∧ bytesC xs c ≤ 20 * (xs.length : Int) := by
  induction xs with
  | nil => simp [bytesC]
  | cons x xs ih =>
    have h1 := ih (fun y hy => h y (List.mem_cons_of_mem _ hy))
    have h2 := h x List.mem_cons_self
    unfold bytesC at h1 ⊢
    by_cases e : x.b = c <;> simp [List.filter_cons, e] <;> omega
/-- How many bytes can be shed for a class. -/
def shedB (xs : List Tr) (c : Int) : Int := ((xs.filter fun x => decide (c < x.b)).map Tr.c).sum
theorem shedB_next {xs : List Tr} {k : Nat} {x : Tr} (h : xs[k]? = some x) (c : Int) : shedB (xs.take (k + 1)) c = shedB (xs.take k) c + if c < x.b then x.c else 0 := by
  have hk : k < xs.length := (List.getElem?_eq_some_iff.1 h).1
  have hx : xs[k] = x := (List.getElem?_eq_some_iff.1 h).2
  unfold shedB
  rw [List.take_succ_eq_append_getElem hk, hx, List.filter_append, List.map_append, List.sum_append]
  by_cases h : c < x.b <;> simp [List.filter_cons, h]
theorem shedB_bd {xs : List Tr} (h : ∀ x ∈ xs, 1 ≤ x.c ∧ x.c ≤ 20) (c : Int) : 0 ≤ shedB xs c ∧ shedB xs c ≤ 20 * (xs.length : Int) := by
  induction xs with
  | nil => simp [shedB]
  | cons x xs ih =>
    have h1 := ih (fun y hy => h y (List.mem_cons_of_mem _ hy))
    have h2 := h x List.mem_cons_self
    unfold shedB at h1 ⊢
    by_cases e : c < x.b <;> simp [List.filter_cons, e] <;> omega
noncomputable def canShed (xs : List Tr) (c : Int) : Int := if validE xs && inR c 0 2 then shedB xs c else -1
end Go.Proofs.Ytmlnaijpbfddaaa
