/-
  The mathematics of the laws on samples.
-/
import Derived.Test.YtbadgnekailnaaaSaM
namespace Go.Proofs.Ytbadgnekailnaaa
open Go.RowKit

theorem keepV_in {k r : Int} (h : keepV k r = true) : inR k 0 255 = true ∧ inR r 1 16 = true ∧ keepP r k = true := by
  simp [keepV] at h
  exact ⟨h.1.1, h.1.2, h.2⟩
theorem keep_dvd {k r d : Int} (h : keepV k r = true) (h1 : 1 ≤ d) (h2 : d ≤ r) (hd : r % d = 0) : keepV k d = true := by
  obtain ⟨a, b, c⟩ := keepV_in h
  have b' := inR_iff.1 b
  have hd' : inR d 1 16 = true := inR_t h1 (by omega)
  have hk : keepP d k = true := by
    simp only [keepP, decide_eq_true_eq] at c ⊢
    exact Int.emod_eq_zero_of_dvd (Int.dvd_trans (Int.dvd_of_emod_eq_zero hd) (Int.dvd_of_emod_eq_zero c))
  simp [keepV, a, hd', hk]
/-- How many of the first keys are kept. -/
def cntN (r : Int) (k : Nat) : Nat := ((List.range k).filter fun (i : Nat) => keepP r (i : Int)).length
theorem cntN_yes {r : Int} {k : Nat} (h : keepP r (k : Int) = true) : cntN r (k + 1) = cntN r k + 1 := by
  simp [cntN, List.range_succ, h]
theorem cntN_no {r : Int} {k : Nat} (h : keepP r (k : Int) = false) : cntN r (k + 1) = cntN r k := by
  simp [cntN, List.range_succ, h]
theorem cntN_le (r : Int) (k : Nat) : cntN r k ≤ k := by
  have h := List.length_filter_le (fun i : Nat => keepP r (i : Int)) (List.range k)
  simpa [cntN] using h
theorem cnt_1 : cntN 1 256 = 256 := by decide +kernel
theorem cnt_2 : cntN 2 256 = 128 := by decide +kernel
theorem cnt_4 : cntN 4 256 = 64 := by decide +kernel
theorem cnt_8 : cntN 8 256 = 32 := by decide +kernel
theorem cnt_16 : cntN 16 256 = 16 := by decide +kernel
theorem smL_at {r v : Int} {xs : List Int} {k : Nat} (h : xs[k]? = some v) (hv : keepP r v = true) : (smL r xs)[(smL r (xs.take k)).length]? = some v := by
  have hk : k < xs.length := (List.getElem?_eq_some_iff.1 h).1
  have e : xs[k] = v := (List.getElem?_eq_some_iff.1 h).2
  have e1 : smL r xs = smL r (xs.take k) ++ smL r (xs.drop k) := by
    unfold smL
    rw [← List.filter_append, List.take_append_drop]
  have e2 : xs.drop k = v :: xs.drop (k + 1) := by rw [List.drop_eq_getElem_cons hk, e]
  rw [e1, e2, List.getElem?_append_right (Nat.le_refl _), Nat.sub_self]
  simp [smL, hv]
theorem smL_idem (r : Int) (xs : List Int) : smL r (smL r xs) = smL r xs := by simp [smL]
theorem okK_sub {xs ys : List Int} (h : okK xs = true) (hl : ys.length ≤ xs.length) (hm : ∀ x ∈ ys, x ∈ xs) : okK ys = true := by
  obtain ⟨a, b⟩ := okK_in h
  have c : allR ys 0 255 = true := by
    unfold allR at b ⊢
    rw [List.all_eq_true] at b ⊢
    exact fun x hx => b x (hm x hx)
  simp only [okK, c, Bool.and_true, decide_eq_true_eq]
  omega
theorem smOK_sub {xs ys : List Int} {r : Int} (h : smOK xs r = true) (hl : ys.length ≤ xs.length) (hm : ∀ x ∈ ys, x ∈ xs) : smOK ys r = true := by
  obtain ⟨a, b⟩ := smOK_in h
  simp [smOK, okK_sub a hl hm, b]
theorem smV_idem {xs : List Int} {r : Int} (h : smOK xs r = true) : smV (smL r xs) r = smL r xs := by
  rw [smV_t (smOK_sub h (smL_len r xs) (fun x hx => (List.mem_filter.1 hx).1)), smL_idem]
theorem smL_one (xs : List Int) : smL 1 xs = xs := by simp [smL, keepP, Int.emod_one]
theorem smV_one {xs : List Int} (h : okK xs = true) : smV xs 1 = xs := by
  rw [smV_t (by simp [smOK, h, inR]), smL_one]
theorem smV_one_no {xs : List Int} (h : okK xs = false) : smV xs 1 = [] := smV_f (by simp [smOK, h])
theorem smV_parts {xs : List Int} {r : Int} (h : smOK xs r = true) (k : Nat) : smV (xs.take k) r ++ smV (xs.drop k) r = smL r xs := by
  rw [smV_t (smOK_sub h (by rw [List.length_take]; omega) (fun x hx => List.mem_of_mem_take hx)), smV_t (smOK_sub h (by rw [List.length_drop]; omega) (fun x hx => List.mem_of_mem_drop hx))]
  unfold smL
  rw [← List.filter_append, List.take_append_drop]
theorem keep_twice {r k : Int} (h : keepP (2 * r) k = true) : keepP r k = true := by
  simp only [keepP, decide_eq_true_eq] at h ⊢
  exact Int.emod_eq_zero_of_dvd (Int.dvd_trans (Int.dvd_mul_left 2 r) (Int.dvd_of_emod_eq_zero h))
theorem smL_twice (r : Int) (xs : List Int) : smL (2 * r) xs = (smL r xs).filter (keepP (2 * r)) := by
  unfold smL
  rw [List.filter_filter]
  congr 1
  funext k
  rcases h : keepP (2 * r) k with _ | _
  · simp
  · simp [keep_twice h]
theorem twice_mem {r x : Int} {xs : List Int} (h : x ∈ smL (2 * r) xs) : x ∈ smL r xs := by
  rw [smL_twice] at h
  exact (List.mem_filter.1 h).1
theorem twice_len (r : Int) (xs : List Int) : (smL (2 * r) xs).length ≤ (smL r xs).length := by
  rw [smL_twice]
  exact List.length_filter_le _ _
theorem rf_cases (xs : List Int) (m : Nat) : (rfF xs m = -1 ∧ ∀ i, i < 5 → m < (smL ((2 : Int) ^ i) xs).length) ∨ ∃ j, j ≤ 4 ∧ rfF xs m = (2 : Int) ^ j ∧ (smL ((2 : Int) ^ j) xs).length ≤ m ∧ ∀ i, i < j → m < (smL ((2 : Int) ^ i) xs).length := by
  have key : ∀ t, t ≤ 5 → (∀ i, i < t → m < (smL ((2 : Int) ^ i) xs).length) ∨ ∃ j, j < t ∧ (smL ((2 : Int) ^ j) xs).length ≤ m ∧ ∀ i, i < j → m < (smL ((2 : Int) ^ i) xs).length := by
    intro t
    induction t with
    | zero => intro _; left; intro i hi; omega
    | succ t ih =>
      intro ht
      rcases ih (by omega) with h | ⟨j, hj, a, b⟩
      · by_cases c : (smL ((2 : Int) ^ t) xs).length ≤ m
        · right; exact ⟨t, by omega, c, h⟩
        · left
          intro i hi
          rcases Nat.lt_or_ge i t with h1 | h1
          · exact h i h1
          · obtain rfl : i = t := by omega
            omega
      · right; exact ⟨j, by omega, a, b⟩
  rcases key 5 (by omega) with h | ⟨j, hj, a, b⟩
  · left; exact ⟨rf_none h, h⟩
  · right; exact ⟨j, by omega, rf_at (by omega) a b, a, b⟩
theorem rf_more {xs : List Int} {m j : Nat} (hj : j ≤ 4) (h : (smL ((2 : Int) ^ j) xs).length ≤ m) : ∃ i, i ≤ j ∧ rfF xs (m + 1) = (2 : Int) ^ i := by
  rcases rf_cases xs (m + 1) with ⟨_, h2⟩ | ⟨i, hi, e, _, hb⟩
  · have := h2 j (by omega)
    omega
  · refine ⟨i, ?_, e⟩
    rcases Nat.lt_or_ge j i with h1 | h1
    · have := hb j h1
      omega
    · exact h1
theorem rf_all (xs : List Int) : rfF xs xs.length = 1 := rf_at (j := 0) (by omega) (smL_len _ _) (fun i hi => absurd hi (Nat.not_lt_zero _))
theorem pow_bd {i j : Nat} (hj : j ≤ 4) (hi : i ≤ j) : (1 : Int) ≤ (2 : Int) ^ i ∧ (2 : Int) ^ i ≤ (2 : Int) ^ j ∧ (2 : Int) ^ j ≤ 16 := by
  obtain rfl | rfl | rfl | rfl | rfl : j = 0 ∨ j = 1 ∨ j = 2 ∨ j = 3 ∨ j = 4 := by omega
  all_goals obtain rfl | rfl | rfl | rfl | rfl : i = 0 ∨ i = 1 ∨ i = 2 ∨ i = 3 ∨ i = 4 := by omega
  all_goals first | (exfalso; omega) | decide
end Go.Proofs.Ytbadgnekailnaaa
