/-
  Mathematics of the laws on health.
-/
import Derived.Test.YtdbfccfckinjmaaDoorMkM
namespace Go.Proofs.YtdbfccfckinjmaaDoor
open Go.RowKit

theorem nh_load {a b c d h x : Int} (hv : mkV a b c d = true) : nhN a b c d h x ≤ nhN a b c d h (x + 1) := by
  have := mkV_in hv
  unfold nhN
  split <;> split <;> (try split) <;> (try split) <;> omega
theorem nh_health {a b c d h x : Int} (hv : mkV a b c d = true) (h0 : 0 ≤ h) (h1 : h ≤ 1) : nhN a b c d h x ≤ nhN a b c d (h + 1) x := by
  have := mkV_in hv
  unfold nhN
  split <;> split <;> (try split) <;> (try split) <;> omega
theorem nh_twice {a b c d h x : Int} (hv : mkV a b c d = true) : nhN a b c d (nhN a b c d h x) x = nhN a b c d h x := by
  have := mkV_in hv
  obtain ⟨v, hv⟩ : ∃ v, nhN a b c d h x = v := ⟨_, rfl⟩
  rw [hv]
  unfold nhN at hv ⊢
  split at hv
  · split <;> (try split) <;> omega
  · split at hv
    · split <;> (try split) <;> omega
    · split <;> (try split) <;> omega
theorem nh_slow {a b c d h x : Int} (hv : mkV a b c d = true) (h0 : 0 ≤ h) (h1 : h ≤ 2) (hx : a ≤ x) (hy : x < b) : nhN a b c d h x = min h 1 := by
  have := mkV_in hv
  unfold nhN
  split
  · omega
  · split <;> omega
theorem nh_full {a b c d h x : Int} (hv : mkV a b c d = true) (h0 : 0 ≤ h) (h1 : h ≤ 2) (hx : c ≤ x) (hy : x < d) : nhN a b c d h x = max h 1 := by
  have := mkV_in hv
  unfold nhN
  split
  · omega
  · split <;> omega
theorem nh_low {a b c d h x : Int} (hv : mkV a b c d = true) (hx : x < a) : nhN a b c d h x = 0 := by
  have := mkV_in hv
  unfold nhN
  rw [if_neg (by omega), if_neg (by omega)]
theorem nh_high {a b c d h x : Int} (hx : d ≤ x) : nhN a b c d h x = 2 := by
  unfold nhN
  rw [if_pos (Or.inl hx)]
theorem nh_zero {a b c d x : Int} (hv : mkV a b c d = true) : nhN a b c d 0 x = 0 ↔ x < b := by
  have := mkV_in hv
  unfold nhN
  split
  · constructor <;> intro <;> omega
  · split
    · constructor <;> intro <;> omega
    · constructor
      · intro _; omega
      · intro _; rfl
theorem hpH_take {a b c d : Int} {xs : List Int} {m : Nat} : ∀ k, k ≤ m → hpH a b c d (xs.take m) k = hpH a b c d xs k := by
  intro k
  induction k with
  | zero => intro _; rfl
  | succ k ih =>
    intro hk
    simp only [hpH]
    rw [ih (by omega)]
    congr 1
    rw [List.getD_eq_getElem?_getD, List.getD_eq_getElem?_getD, List.getElem?_take_of_lt (by omega)]
theorem hpOK_take {a b c d : Int} {xs : List Int} (h : hpOK a b c d xs = true) (m : Nat) : hpOK a b c d (xs.take m) = true := by
  obtain ⟨h1, h2, h3⟩ := hpOK_in h
  have e1 : (xs.take m).length ≤ 12 := by simp; omega
  have e2 : allR (xs.take m) 0 100 = true := by
    unfold allR at *
    rw [List.all_eq_true] at *
    exact fun x hx => h3 x (List.mem_of_mem_take hx)
  simp only [hpOK, h1, e2, decide_eq_true e1, Bool.and_self]
theorem hp_short {a b c d : Int} {xs : List Int} (h : hpOK a b c d xs = true) {m : Nat} (hm : m ≤ xs.length) : hpL a b c d (xs.take m) = (hpL a b c d xs).take m := by
  rw [hpL_t (hpOK_take h m), hpL_t h, List.length_take, Nat.min_eq_left hm]
  apply List.ext_getElem?
  intro i
  by_cases hi : i < m
  · rw [hpN_at hi, List.getElem?_take_of_lt hi, hpN_at (by omega), hpH_take _ (by omega)]
  · rw [List.getElem?_eq_none (by rw [hpN_len]; omega), List.getElem?_eq_none (by rw [List.length_take]; omega)]
theorem hp_last {a b c d : Int} {xs : List Int} (h : hpOK a b c d xs = true) {k : Nat} {v x : Int} (hv : (hpL a b c d xs)[k]? = some v) (hx : xs[k]? = some x) : (a ≤ x ∨ v = 0) ∧ (x < d ∨ v = 2) := by
  have hk : k < xs.length := (List.getElem?_eq_some_iff.1 hx).1
  rw [hpL_t h, hpN_at hk] at hv
  have hv := Option.some.inj hv
  have hx2 := hp_getD hx
  obtain ⟨h1, _, _⟩ := hpOK_in h
  simp only [hpH, hx2] at hv
  constructor
  · by_cases hxa : a ≤ x
    · exact .inl hxa
    · right; rw [← hv]; exact nh_low h1 (by omega)
  · by_cases hxd : x < d
    · exact .inl hxd
    · right; rw [← hv]; exact nh_high (by omega)
theorem hp_next {a b c d : Int} {xs : List Int} (h : hpOK a b c d xs = true) {k : Nat} {x : Int} (hx : xs[k]? = some x) : nhV a b c d (hpH a b c d xs k) x = hpH a b c d xs (k + 1) ∧ (hpL a b c d xs)[k]? = some (hpH a b c d xs (k + 1)) := by
  have hk : k < xs.length := (List.getElem?_eq_some_iff.1 hx).1
  obtain ⟨e1, e2, e3⟩ := hpOK_in h
  have e4 := hpH_bd a b c d xs k
  have e5 := allR_at hx e3
  refine ⟨?_, by rw [hpL_t h, hpN_at hk]⟩
  rw [nhV_t e1 (inR_t e4.1 e4.2) (inR_t e5.1 e5.2)]
  simp only [hpH, hp_getD hx]
theorem ctN_take {a b c d : Int} {xs : List Int} {m : Nat} : ∀ k, k ≤ m → ctN a b c d (xs.take m) k = ctN a b c d xs k := by
  intro k
  induction k with
  | zero => intro _; rfl
  | succ k ih =>
    intro hk
    simp only [ctN]
    rw [ih (by omega), hpH_take _ hk, hpH_take _ (by omega)]
theorem ct_more {a b c d : Int} {xs : List Int} (h : hpOK a b c d xs = true) {k : Nat} (hk : k + 1 = xs.length) : ctV a b c d (xs.take k) = ctV a b c d xs ∨ ctV a b c d (xs.take k) = ctV a b c d xs - 1 := by
  simp only [ctV, h, hpOK_take h k, if_true, List.length_take]
  rw [Nat.min_eq_left (by omega), ctN_take _ (Nat.le_refl _), ← hk]
  simp only [ctN]
  split <;> omega
/-- Whether the first k loads are below a mark. -/
def lowB (b : Int) (xs : List Int) (k : Nat) : Bool := (xs.take k).all fun x => decide (x < b)
theorem lowB_succ {b : Int} {xs : List Int} {k : Nat} {x : Int} (hx : xs[k]? = some x) : lowB b xs (k + 1) = (lowB b xs k && decide (x < b)) := by
  have hk : k < xs.length := (List.getElem?_eq_some_iff.1 hx).1
  have e : xs[k] = x := (List.getElem?_eq_some_iff.1 hx).2
  unfold lowB
  rw [List.take_succ_eq_append_getElem hk, e, List.all_append]
  simp
theorem ct_low {a b c d : Int} {xs : List Int} (hv : mkV a b c d = true) : ∀ k, k ≤ xs.length → (lowB b xs k = true → hpH a b c d xs k = 0 ∧ ctN a b c d xs k = 0) ∧ (ctN a b c d xs k = 0 → lowB b xs k = true ∧ hpH a b c d xs k = 0) := by
  intro k
  induction k with
  | zero => intro _; exact ⟨fun _ => ⟨rfl, rfl⟩, fun _ => ⟨rfl, rfl⟩⟩
  | succ k ih =>
    intro hk
    obtain ⟨i1, i2⟩ := ih (by omega)
    have hx : xs[k]? = some (xs.getD k 0) := by rw [List.getD_eq_getElem?_getD, List.getElem?_eq_getElem (by omega)]; rfl
    have hl := lowB_succ (b := b) hx
    constructor
    · intro h
      rw [hl, Bool.and_eq_true, decide_eq_true_eq] at h
      obtain ⟨j1, j2⟩ := i1 h.1
      have e : hpH a b c d xs (k + 1) = 0 := by simp only [hpH, j1]; exact (nh_zero hv).2 h.2
      exact ⟨e, by simp only [ctN, j1, j2, e, if_true]; rfl⟩
    · intro h
      have hb := ctN_bd a b c d xs k
      simp only [ctN] at h
      split at h
      · rename_i he
        obtain ⟨j1, j2⟩ := i2 (by omega)
        rw [j2] at he
        refine ⟨?_, he⟩
        rw [hl, j1, Bool.true_and, decide_eq_true_eq]
        simp only [hpH, j2] at he
        exact (nh_zero hv).1 he
      · omega
end Go.Proofs.YtdbfccfckinjmaaDoor
