/-
  Mathematics of windows for links.
-/
import Derived.Test.YthbdcindhkjboaaLiM
import Derived.Test.YthbdcindhkjboaaWiU
namespace Go.Proofs.Ythbdcindhkjboaa
open Go.RowKit
def akU (b nx : Int) (xs : List Int) (m : Int) : Int := upR (ackP xs m) b (akK b nx)
def akL (b nx : Int) (xs : List Int) (m : Int) : List Int := (ackR (ackP xs m) b (akK b nx)).2
theorem winV_of {b nx : Int} {xs : List Int} (h1 : 0 ≤ b) (h2 : b ≤ 1000) (h3 : b ≤ nx) (h4 : nx ≤ b + 8) (h5 : okA b nx xs = true) : winV b nx xs = true := by
  simp only [winV, h5, Bool.and_true, Bool.and_eq_true, inR_iff]
  omega
theorem win_no {b nx : Int} {xs : List Int} (h : winV b nx xs = true) {n : Int} (hn : n ≤ b ∨ nx ≤ n) : xs.contains n = false := by
  have h1 : ¬ n ∈ xs := fun hm => by have := okA_mem (winV_facts h).2.2.2.2 _ hm; omega
  simpa using h1
theorem sel_in {P : Int → Bool} {b : Int} {k : Nat} {n : Int} (h1 : b ≤ n) (h2 : n < b + (k : Int)) : (selL P b k).contains n = P n := by
  rcases h : P n with _ | _
  · have h3 : ¬ n ∈ selL P b k := fun hm => by have := (selL_mem.1 hm).2.2; rw [h] at this; cases this
    simpa using h3
  · have h3 : n ∈ selL P b k := selL_mem.2 ⟨h1, h2, h⟩
    simpa using h3
theorem selL_from {P : Int → Bool} {b : Int} {i j : Nat} (h : ∀ n, b ≤ n → n < b + (i : Int) → P n = false) : selL P b (i + j) = selL P (b + (i : Int)) j := by
  rw [selL_append, selL_none h, List.nil_append]
theorem ack_win {P : Int → Bool} {b nx : Int} {K : Nat} (h0 : 0 ≤ b) (hK : nx = b + (K : Int)) (hK8 : K ≤ 8) (hu : upR P b K ≤ 1000) :
    winV (upR P b K) nx (ackR P b K).2 = true ∧ openL (upR P b K) nx (ackR P b K).2 = selL (fun n => !P n) b K ∧ (∀ n, upR P b K ≤ n → n < nx → (ackR P b K).2.contains n = P n) := by
  obtain ⟨h1, h2⟩ := upR_bd P b K
  have h3 := ackR_snd P b K
  obtain ⟨u, eu⟩ : ∃ u, upR P b K = u := ⟨_, rfl⟩
  have hat := upR_at (P := P) (b := b) (k := K)
  have hbe := fun n => upR_below (P := P) (b := b) (k := K) (n := n)
  rw [eu] at h1 h2 h3 hat hbe hu ⊢
  obtain ⟨j, hj⟩ : ∃ j : Nat, b + (K : Int) - u = (j : Int) := ⟨(b + (K : Int) - u).toNat, by omega⟩
  have ej : (b + (K : Int) - u).toNat = j := by omega
  rw [h3, ej]
  have hin : ∀ n, u ≤ n → n < nx → (selL P u j).contains n = P n := fun n a1 a2 => sel_in a1 (by omega)
  have hok : okA u nx (selL P u j) = true := by
    rcases j with _ | j
    · rfl
    · have hf : P u = false := hat (by omega)
      simp only [selL]
      rw [if_neg (by simp [hf])]
      exact okA_selL P nx j (u + 1) u (by omega) (by omega)
  have hw : winV u nx (selL P u j) = true := winV_of (by omega) hu (by omega) (by omega) hok
  refine ⟨hw, ?_, hin⟩
  rw [openL_t hw]
  obtain ⟨i, hi⟩ : ∃ i : Nat, u = b + (i : Int) := ⟨(u - b).toNat, by omega⟩
  have e1 : K = i + j := by omega
  have e2 : (nx - u).toNat = j := by omega
  rw [e1, e2, selL_from (i := i) (j := j) (fun n a1 a2 => by rw [hbe n a1 (by omega)]; rfl), ← hi]
  exact selL_congr fun n a1 a2 => by simp only [opP]; rw [hin n a1 (by omega)]
theorem akOK_iff {b nx m : Int} {xs : List Int} : akOK b nx xs m = true ↔ winV b nx xs = true ∧ 0 ≤ m ∧ m < nx ∧ akU b nx xs m ≤ 1000 := by
  simp only [akOK, Bool.and_eq_true, inR_iff, decide_eq_true_eq, akU]
  constructor
  · rintro ⟨h1, h2, h3⟩; exact ⟨h1, h2.1, by omega, h3⟩
  · rintro ⟨h1, h2, h3, h4⟩; exact ⟨h1, ⟨h2, by omega⟩, h4⟩
theorem ak_facts {b nx m : Int} {xs : List Int} (h : akOK b nx xs m = true) :
    b ≤ akU b nx xs m ∧ akU b nx xs m ≤ nx ∧ akU b nx xs m ≤ 1000 ∧ winV (akU b nx xs m) nx (akL b nx xs m) = true ∧ openL (akU b nx xs m) nx (akL b nx xs m) = (openL b nx xs).filter (fun n => decide (n ≠ m)) ∧ (∀ n, akU b nx xs m ≤ n → n < nx → (akL b nx xs m).contains n = ackP xs m n) := by
  obtain ⟨h1, h2, h3, h4⟩ := akOK_iff.1 h
  obtain ⟨w1, w2, w3, w4, w5⟩ := winV_facts h1
  have hK : nx = b + (akK b nx : Int) := by unfold akK; omega
  have h5 := upR_bd (ackP xs m) b (akK b nx)
  obtain ⟨a1, a2, a3⟩ := ack_win (P := ackP xs m) w1 hK (by omega) h4
  refine ⟨h5.1, by unfold akU; omega, h4, a1, ?_, a3⟩
  rw [openL_t h1, selL_filter]
  refine a2.trans (selL_congr fun n _ _ => ?_)
  simp only [ackP, opP]
  by_cases e : n = m <;> simp [e]
theorem open_lt {b nx : Int} {xs : List Int} {n : Int} (hn : n ∈ openL b nx xs) : b ≤ n ∧ n < nx ∧ xs.contains n = false := by
  rcases h : winV b nx xs with _ | _
  · rw [openL_f h] at hn; cases hn
  · obtain ⟨w1, w2, w3, w4, w5⟩ := winV_facts h
    rw [openL_t h, selL_mem] at hn
    refine ⟨hn.1, by omega, ?_⟩
    have := hn.2.2
    simpa [opP] using this
theorem selL_asc (P : Int → Bool) (b : Int) (k : Nat) : (selL P b k).Pairwise (· < ·) := by
  induction k generalizing b with
  | zero => exact List.Pairwise.nil
  | succ k ih =>
    simp only [selL]
    split
    · refine List.pairwise_cons.2 ⟨fun y hy => ?_, ih _⟩
      have := selL_mem.1 hy
      omega
    · exact ih _
theorem open_asc (b nx : Int) (xs : List Int) : (openL b nx xs).Pairwise (· < ·) := by
  rcases h : winV b nx xs with _ | _
  · rw [openL_f h]; exact List.Pairwise.nil
  · rw [openL_t h]; exact selL_asc _ _ _
theorem open_ok {b nx : Int} {xs : List Int} (h : winV b nx xs = true) {M : Nat} (hM : nx = (M : Int)) : selL (fun n => (openL b nx xs).contains n) 0 M = openL b nx xs := by
  obtain ⟨w1, w2, w3, w4, w5⟩ := winV_facts h
  have h1 : okA (-1) nx (openL b nx xs) = true := by
    rw [openL_t h]
    exact okA_selL _ _ _ _ _ (by omega) (by omega)
  have h2 := selL_ok (k := M) h1 (by omega)
  simpa using h2
/-- The queue of a run, in order. -/
theorem open_queue {b nx : Int} {xs q : List Int} (h : winV b nx xs = true) {M : Nat} (hM : nx = (M : Int)) (hq : ∀ n, n ∈ q ↔ n ∈ openL b nx xs) : selL (fun n => q.contains n) 0 M = openL b nx xs := by
  rw [← open_ok h hM]
  conv => rhs; rw [open_ok h hM]
  refine Eq.trans (selL_congr fun n _ _ => ?_) (open_ok h hM)
  simp only [List.contains_eq_mem]
  exact decide_eq_decide.2 (hq n)
theorem open_iota (M : Nat) (hM : M ≤ 8) : winV 0 (M : Int) [] = true ∧ openL 0 (M : Int) [] = iota M := by
  have h : winV 0 (M : Int) [] = true := winV_of (by omega) (by omega) (by omega) (by omega) rfl
  refine ⟨h, ?_⟩
  rw [openL_t h]
  have e : ((M : Int) - 0).toNat = M := by omega
  rw [e]
  rfl
/-- One sending, and the open batches behind it. -/
theorem send_lost {f v : Int} {R t : List Int} (hf : f = 1 ∨ f = 2) : R ++ v :: t = (R ++ fateQ f v) ++ t := by
  have e : fateQ f v = [v] := by unfold fateQ; rw [if_pos hf]
  rw [e]; simp
theorem send_ackd {f v b nx : Int} {k R t : List Int} (hf : ¬ (f = 1 ∨ f = 2)) (hk : akOK b nx k v = true) (ho : openL b nx k = R ++ v :: t) : openL (akU b nx k v) nx (akL b nx k v) = (R ++ fateQ f v) ++ t := by
  have e : fateQ f v = [] := by unfold fateQ; rw [if_neg hf]
  rw [(ak_facts hk).2.2.2.2.1, ho, e, List.append_nil, List.filter_append, List.filter_cons_of_neg (by simp)]
  have ha := open_asc b nx k
  rw [ho] at ha
  obtain ⟨h1, h2, h3⟩ := List.pairwise_append.1 ha
  obtain ⟨h4, h5⟩ := List.pairwise_cons.1 h2
  congr 1
  · refine List.filter_eq_self.2 fun n hn => ?_
    have := h3 n hn v (by simp)
    simp; omega
  · refine List.filter_eq_self.2 fun n hn => ?_
    have := h4 n hn
    simp; omega
theorem runL_next {f v : Int} {fs t R a : List Int} {s : Nat} : runL (f :: fs) ((v :: t) ++ R) a s = runL fs (t ++ (R ++ fateQ f v)) (a ++ fateA f v) (s + 1) := by
  rw [List.cons_append, runL, List.append_assoc]
end Go.Proofs.Ythbdcindhkjboaa
