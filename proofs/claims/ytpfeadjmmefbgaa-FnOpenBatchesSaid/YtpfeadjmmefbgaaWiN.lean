/-
  Mathematics of the laws on windows.
-/
import Derived.Test.YtpfeadjmmefbgaaLawW
namespace Go.Proofs.Ytpfeadjmmefbgaa

theorem okA_mono {b nx nx' : Int} {xs : List Int} (h : okA b nx xs = true) (hn : nx ≤ nx') : okA b nx' xs = true := by
  induction xs generalizing b with
  | nil => rfl
  | cons y r ih =>
    simp only [okA, Bool.and_eq_true, inR_iff] at h ⊢
    exact ⟨by omega, ih h.2⟩
theorem okA_shift {b nx : Int} {xs : List Int} (h : okA b nx xs = true) : okA (b + 1) (nx + 1) (xs.map (· + 1)) = true := by
  induction xs generalizing b with
  | nil => rfl
  | cons y r ih =>
    simp only [okA, Bool.and_eq_true, inR_iff, List.map_cons] at h ⊢
    exact ⟨by omega, ih h.2⟩
theorem winV_of {b nx : Int} {xs : List Int} (h1 : 0 ≤ b) (h2 : b ≤ 1000) (h3 : b ≤ nx) (h4 : nx ≤ b + 8) (h5 : okA b nx xs = true) : winV b nx xs = true := by
  simp only [winV, h5, Bool.and_true, Bool.and_eq_true, inR_iff]
  omega
theorem win_no {b nx : Int} {xs : List Int} (h : winV b nx xs = true) {n : Int} (hn : n ≤ b ∨ nx ≤ n) : xs.contains n = false := by
  have h1 : ¬ n ∈ xs := fun hm => by have := okA_mem (winV_facts h).2.2.2.2 _ hm; omega
  simpa using h1
theorem send_win {b nx : Int} {xs : List Int} (h : winV b nx xs = true) (h8 : nx < b + 8) : winV b (nx + 1) xs = true := by
  obtain ⟨h1, h2, h3, h4, h5⟩ := winV_facts h
  exact winV_of h1 h2 (by omega) (by omega) (okA_mono h5 (by omega))
theorem send_open {b nx : Int} {xs : List Int} (h : winV b nx xs = true) (h8 : nx < b + 8) : openL b (nx + 1) xs = openL b nx xs ++ [nx] := by
  obtain ⟨h1, h2, h3, h4, h5⟩ := winV_facts h
  rw [openL_t h, openL_t (send_win h h8)]
  have e : (nx + 1 - b).toNat = (nx - b).toNat + 1 := by omega
  have e2 : b + ((nx - b).toNat : Int) = nx := by omega
  rw [e, selL_yes (by rw [e2]; simp only [opP]; rw [win_no h (.inr (Int.le_refl _))]; rfl), e2]
theorem sel_in {P : Int → Bool} {b : Int} {k : Nat} {n : Int} (h1 : b ≤ n) (h2 : n < b + (k : Int)) : (selL P b k).contains n = P n := by
  rcases h : P n with _ | _
  · have h3 : ¬ n ∈ selL P b k := fun hm => by have := (selL_mem.1 hm).2.2; rw [h] at this; cases this
    simpa using h3
  · have h3 : n ∈ selL P b k := selL_mem.2 ⟨h1, h2, h⟩
    simpa using h3
theorem selL_from {P : Int → Bool} {b : Int} {i j : Nat} (h : ∀ n, b ≤ n → n < b + (i : Int) → P n = false) : selL P b (i + j) = selL P (b + (i : Int)) j := by
  rw [selL_append, selL_none h, List.nil_append]
/-- What is acknowledged lies in a window again, and its open batches are the others. -/
theorem ack_win {P : Int → Bool} {b nx : Int} {K : Nat} (h0 : 0 ≤ b) (hK : nx = b + (K : Int)) (hK8 : K ≤ 8) (hu : upR P b K ≤ 1000) :
    winV (upR P b K) nx (ackR P b K).2 = true ∧ openL (upR P b K) nx (ackR P b K).2 = selL (fun n => !P n) b K ∧ (∀ n, upR P b K ≤ n → n < nx → (ackR P b K).2.contains n = P n) := by
  obtain ⟨h1, h2⟩ := upR_bd P b K
  have h3 := ackR_snd P b K
  obtain ⟨u, eu⟩ : ∃ u, upR P b K = u := ⟨_, rfl⟩
  have hat := upR_at (P := P) (b := b) (k := K)
  have hbe := fun n => upR_below (P := P) (b := b) (k := K) (n := n)
  rw [eu] at h1 h2 h3 hat hbe hu ⊢
  obtain ⟨j, hj⟩ : ∃ j : Nat, b + (K : Int) - u = (j : Int) := ⟨(b + (K : Int) - u).toNat, by omega⟩
  have ej : (b + (K : Int) - u).toNat = j := by omega
  rw [h3, ej]
  have hin : ∀ n, u ≤ n → n < nx → (selL P u j).contains n = P n := fun n a1 a2 => sel_in a1 (by omega)
  have hok : okA u nx (selL P u j) = true := by
    rcases j with _ | j
    · rfl
    · have hf : P u = false := hat (by omega)
      simp only [selL]
      rw [if_neg (by simp [hf])]
      exact okA_selL P nx j (u + 1) u (by omega) (by omega)
  have hw : winV u nx (selL P u j) = true := winV_of (by omega) hu (by omega) (by omega) hok
  refine ⟨hw, ?_, hin⟩
  rw [openL_t hw]
  obtain ⟨i, hi⟩ : ∃ i : Nat, u = b + (i : Int) := ⟨(u - b).toNat, by omega⟩
  have e1 : K = i + j := by omega
  have e2 : (nx - u).toNat = j := by omega
  rw [e1, e2, selL_from (i := i) (j := j) (fun n a1 a2 => by rw [hbe n a1 (by omega)]; rfl), ← hi]
  exact selL_congr fun n a1 a2 => by simp only [opP]; rw [hin n a1 (by omega)]
theorem akOK_iff {b nx m : Int} {xs : List Int} : akOK b nx xs m = true ↔ winV b nx xs = true ∧ 0 ≤ m ∧ m < nx ∧ akU b nx xs m ≤ 1000 := by
  simp only [akOK, Bool.and_eq_true, inR_iff, decide_eq_true_eq, akU]
  constructor
  · rintro ⟨h1, h2, h3⟩; exact ⟨h1, h2.1, by omega, h3⟩
  · rintro ⟨h1, h2, h3, h4⟩; exact ⟨h1, ⟨h2, by omega⟩, h4⟩
theorem ak_facts {b nx m : Int} {xs : List Int} (h : akOK b nx xs m = true) :
    b ≤ akU b nx xs m ∧ akU b nx xs m ≤ nx ∧ akU b nx xs m ≤ 1000 ∧ winV (akU b nx xs m) nx (akL b nx xs m) = true ∧ openL (akU b nx xs m) nx (akL b nx xs m) = (openL b nx xs).filter (fun n => decide (n ≠ m)) ∧ (∀ n, akU b nx xs m ≤ n → n < nx → (akL b nx xs m).contains n = ackP xs m n) := by
  obtain ⟨h1, h2, h3, h4⟩ := akOK_iff.1 h
  obtain ⟨w1, w2, w3, w4, w5⟩ := winV_facts h1
  have hK : nx = b + (akK b nx : Int) := by unfold akK; omega
  have h5 := upR_bd (ackP xs m) b (akK b nx)
  obtain ⟨a1, a2, a3⟩ := ack_win (P := ackP xs m) w1 hK (by omega) h4
  refine ⟨h5.1, by unfold akU; omega, h4, a1, ?_, a3⟩
  rw [openL_t h1, selL_filter]
  refine a2.trans (selL_congr fun n _ _ => ?_)
  simp only [ackP, opP]
  by_cases e : n = m <;> simp [e]
/-- Two acknowledgements: the set of both. -/
theorem upR_two {P Q : Int → Bool} {b : Int} {k : Nat} (h : ∀ n, P n = true → Q n = true) : upR Q b k = upR Q (upR P b k) (b + (k : Int) - upR P b k).toNat := by
  induction k generalizing b with
  | zero => simp [upR]
  | succ k ih =>
    simp only [upR]
    by_cases hp : P b = true
    · rw [if_pos hp, if_pos (h b hp), ih]
      congr 2
      omega
    · rw [if_neg hp]
      have e : (b + ((k + 1 : Nat) : Int) - b).toNat = k + 1 := by omega
      rw [e, upR]
theorem upR_congr {P Q : Int → Bool} {b : Int} {k : Nat} (h : ∀ n, b ≤ n → n < b + (k : Int) → P n = Q n) : upR P b k = upR Q b k := by
  rw [← ackR_fst, ← ackR_fst, ackR_congr h]
def ackP2 (xs : List Int) (m k : Int) : Int → Bool := fun n => decide (n = k) || ackP xs m n
theorem ackP2_comm (xs : List Int) (m k : Int) : ackP2 xs m k = ackP2 xs k m := by
  funext n
  simp only [ackP2, ackP]
  rw [← Bool.or_assoc, ← Bool.or_assoc, Bool.or_comm (decide (n = k))]
theorem ak_two {b nx m k : Int} {xs : List Int} (h : akOK b nx xs m = true) :
    akU (akU b nx xs m) nx (akL b nx xs m) k = upR (ackP2 xs m k) b (akK b nx) ∧ akL (akU b nx xs m) nx (akL b nx xs m) k = (ackR (ackP2 xs m k) b (akK b nx)).2 := by
  obtain ⟨h1, h2, h3, h4, h5, h6⟩ := ak_facts h
  obtain ⟨w1, w2, w3, w4, w5⟩ := winV_facts (akOK_iff.1 h).1
  have hK : nx = b + (akK b nx : Int) := by unfold akK; omega
  have hP : ∀ n, ackP xs m n = true → ackP2 xs m k n = true := fun n hn => by simp [ackP2, hn]
  have hc : ∀ n, akU b nx xs m ≤ n → n < akU b nx xs m + (akK (akU b nx xs m) nx : Int) → ackP (akL b nx xs m) k n = ackP2 xs m k n := fun n a1 a2 => by
    simp only [ackP2]
    rw [← h6 n a1 (by unfold akK at a2; omega)]
    rfl
  have hu : akU (akU b nx xs m) nx (akL b nx xs m) k = upR (ackP2 xs m k) b (akK b nx) := by
    rw [upR_two (P := ackP xs m) hP]
    show upR (ackP (akL b nx xs m) k) (akU b nx xs m) (akK (akU b nx xs m) nx) = _
    rw [upR_congr hc]
    have e : (b + (akK b nx : Int) - upR (ackP xs m) b (akK b nx)).toNat = akK (akU b nx xs m) nx := by rw [← hK]; rfl
    rw [e]
    rfl
  refine ⟨hu, ?_⟩
  show (ackR (ackP (akL b nx xs m) k) (akU b nx xs m) (akK (akU b nx xs m) nx)).2 = _
  rw [ackR_congr hc, ackR_snd, ackR_snd]
  have e : upR (ackP2 xs m k) (akU b nx xs m) (akK (akU b nx xs m) nx) = upR (ackP2 xs m k) b (akK b nx) := by
    rw [← hu]
    exact (upR_congr hc).symm
  rw [e]
  congr 1
  unfold akK at *
  omega
theorem ak_twice {b nx m : Int} {xs : List Int} (h : akOK b nx xs m = true) :
    akOK (akU b nx xs m) nx (akL b nx xs m) m = true ∧ akU (akU b nx xs m) nx (akL b nx xs m) m = akU b nx xs m ∧ akL (akU b nx xs m) nx (akL b nx xs m) m = akL b nx xs m := by
  obtain ⟨h1, h2, h3, h4, h5, h6⟩ := ak_facts h
  obtain ⟨t1, t2⟩ := ak_two (k := m) h
  have e : ackP2 xs m m = ackP xs m := by
    funext n
    simp only [ackP2, ackP]
    rw [← Bool.or_assoc, Bool.or_self]
  rw [e] at t1 t2
  obtain ⟨i1, i2, i3, _⟩ := akOK_iff.1 h
  exact ⟨akOK_iff.2 ⟨h4, i2, i3, by rw [t1]; exact h3⟩, t1, t2⟩
theorem ak_order {b nx m k : Int} {xs : List Int} (h : akOK b nx xs m = true) (h2 : akOK b nx xs k = true) (h3 : akOK (akU b nx xs m) nx (akL b nx xs m) k = true) :
    akOK (akU b nx xs k) nx (akL b nx xs k) m = true ∧ akU (akU b nx xs k) nx (akL b nx xs k) m = akU (akU b nx xs m) nx (akL b nx xs m) k ∧ akL (akU b nx xs k) nx (akL b nx xs k) m = akL (akU b nx xs m) nx (akL b nx xs m) k := by
  obtain ⟨t1, t2⟩ := ak_two (k := k) h
  obtain ⟨s1, s2⟩ := ak_two (k := m) h2
  rw [ackP2_comm] at s1 s2
  obtain ⟨i1, i2, i3, _⟩ := akOK_iff.1 h
  obtain ⟨_, _, _, j4⟩ := akOK_iff.1 h3
  refine ⟨akOK_iff.2 ⟨(ak_facts h2).2.2.2.1, i2, i3, ?_⟩, by rw [s1, t1], by rw [s2, t2]⟩
  rw [s1, ← t1]
  exact j4
theorem upR_open {Q : Int → Bool} {b : Int} {k : Nat} : (selL (fun n => !Q n) b k = [] → upR Q b k = b + (k : Int)) ∧ (∀ y r, selL (fun n => !Q n) b k = y :: r → upR Q b k = y) := by
  induction k generalizing b with
  | zero => exact ⟨fun _ => by simp [upR], fun y r h => by simp [selL] at h⟩
  | succ k ih =>
    simp only [selL, upR]
    by_cases h : Q b = true
    · simp only [h, Bool.not_true, Bool.false_eq_true, if_false, if_true]
      exact ⟨fun e => by rw [ih.1 e]; omega, fun y r e => ih.2 y r e⟩
    · have h' : Q b = false := by simpa using h
      simp only [h', Bool.not_false, if_true, Bool.false_eq_true, if_false]
      exact ⟨fun e => (by cases e), fun y r e => (by injection e)⟩
theorem open_head {b nx : Int} {xs : List Int} (h : winV b nx xs = true) (hn : b < nx) : ∃ r, openL b nx xs = b :: r ∧ r = selL (opP xs) (b + 1) ((nx - b).toNat - 1) := by
  obtain ⟨k, hk⟩ : ∃ k, (nx - b).toNat = k + 1 := ⟨(nx - b).toNat - 1, by omega⟩
  refine ⟨_, ?_, rfl⟩
  rw [openL_t h, hk, selL, if_pos (by simp only [opP]; rw [win_no h (.inl (Int.le_refl _))]; rfl), Nat.add_sub_cancel]
/-- What an acknowledgement of the first open batch, or of another, does to the beginning. -/
theorem ak_base {b nx m : Int} {xs : List Int} (h : akOK b nx xs m = true) :
    (m ≠ b → b < nx → akU b nx xs m = b) ∧ (m = b → ∀ r, openL b nx xs = b :: r → (r = [] → akU b nx xs m = nx) ∧ (∀ y q, r = y :: q → akU b nx xs m = y)) := by
  obtain ⟨h1, _, _, _⟩ := akOK_iff.1 h
  obtain ⟨w1, w2, w3, w4, w5⟩ := winV_facts h1
  refine ⟨fun hm hn => ?_, fun hm r hr => ?_⟩
  · unfold akU akK
    obtain ⟨k, hk⟩ : ∃ k, (nx - b).toNat = k + 1 := ⟨(nx - b).toNat - 1, by omega⟩
    rw [hk, upR, if_neg]
    simp only [ackP]
    rw [win_no h1 (.inl (Int.le_refl _))]
    simp
    omega
  · have hn : b < nx := by
      rcases Int.lt_or_le b nx with h9 | h9
      · exact h9
      · rw [openL_t h1, show (nx - b).toNat = 0 by omega] at hr
        cases hr
    obtain ⟨r', hr', e⟩ := open_head h1 hn
    rw [hr'] at hr
    injection hr with _ hr
    subst hr
    have hu : akU b nx xs m = upR (fun n => xs.contains n) (b + 1) ((nx - b).toNat - 1) := by
      unfold akU akK
      obtain ⟨k, hk⟩ : ∃ k, (nx - b).toNat = k + 1 := ⟨(nx - b).toNat - 1, by omega⟩
      rw [hk, upR, if_pos (by simp [ackP, hm]), Nat.add_sub_cancel]
      apply upR_congr
      intro n a1 _
      simp only [ackP]
      rw [decide_eq_false (by omega), Bool.false_or]
    have ho := upR_open (Q := fun n => xs.contains n) (b := b + 1) (k := (nx - b).toNat - 1)
    rw [hu, e]
    refine ⟨fun e2 => ?_, fun y q e2 => ho.2 y q e2⟩
    rw [ho.1 e2]
    omega
theorem open_lt {b nx : Int} {xs : List Int} {n : Int} (hn : n ∈ openL b nx xs) : b ≤ n ∧ n < nx ∧ xs.contains n = false := by
  rcases h : winV b nx xs with _ | _
  · rw [openL_f h] at hn; cases hn
  · obtain ⟨w1, w2, w3, w4, w5⟩ := winV_facts h
    rw [openL_t h, selL_mem] at hn
    refine ⟨hn.1, by omega, ?_⟩
    have := hn.2.2
    simpa [opP] using this
theorem send_ack_open {b nx : Int} {xs : List Int} (h : winV b nx xs = true) (h8 : nx < b + 8) (hk : akOK b (nx + 1) xs nx = true) :
    openL (akU b (nx + 1) xs nx) (nx + 1) (akL b (nx + 1) xs nx) = openL b nx xs := by
  rw [(ak_facts hk).2.2.2.2.1, send_open h h8, List.filter_append]
  have e : (openL b nx xs).filter (fun n => decide (n ≠ nx)) = openL b nx xs := List.filter_eq_self.2 fun n hn => by
    have := open_lt hn
    simp
    omega
  rw [e]
  simp
theorem selL_both (P : Int → Bool) (b : Int) (k : Nat) : (selL P b k).length + (selL (fun n => !P n) b k).length = k := by
  induction k generalizing b with
  | zero => rfl
  | succ k ih =>
    have := ih (b + 1)
    simp only [selL]
    by_cases h : P b = true
    · simp only [h, if_true, Bool.not_true, Bool.false_eq_true, if_false, List.length_cons]; omega
    · have h' : P b = false := by simpa using h
      simp only [h', Bool.false_eq_true, if_false, Bool.not_false, if_true, List.length_cons]; omega
theorem open_len {b nx : Int} {xs : List Int} (h : winV b nx xs = true) : ((openL b nx xs).length : Int) + (xs.length : Int) = nx - b := by
  obtain ⟨w1, w2, w3, w4, w5⟩ := winV_facts h
  have h1 := selL_both (fun n => xs.contains n) b (nx - b).toNat
  rw [selL_win w5 (by omega)] at h1
  rw [openL_t h]
  have h2 : (selL (opP xs) b (nx - b).toNat).length = (selL (fun n => !xs.contains n) b (nx - b).toNat).length := rfl
  omega
theorem win_short {b nx : Int} {xs : List Int} (h : winV b nx xs = true) : xs.length < 8 := by
  obtain ⟨w1, w2, w3, w4, w5⟩ := winV_facts h
  have h1 := open_len h
  rcases Int.lt_or_le b nx with h2 | h2
  · obtain ⟨r, hr, _⟩ := open_head h h2
    rw [hr, List.length_cons] at h1
    omega
  · omega
theorem selL_asc (P : Int → Bool) (b : Int) (k : Nat) : (selL P b k).Pairwise (· < ·) := by
  induction k generalizing b with
  | zero => exact List.Pairwise.nil
  | succ k ih =>
    simp only [selL]
    split
    · refine List.pairwise_cons.2 ⟨fun y hy => ?_, ih _⟩
      have := selL_mem.1 hy
      omega
    · exact ih _
theorem cntG_bd (xs : List Int) (m : Int) : 0 ≤ cntG xs m ∧ cntG xs m ≤ xs.length := by
  unfold cntG
  have := List.length_filter_le (fun x => decide (m < x)) xs
  omega
theorem cntG_anti {xs : List Int} {a b : Int} (h : a ≤ b) : cntG xs b ≤ cntG xs a := by
  unfold cntG
  have h1 : xs.filter (fun x => decide (b < x)) = (xs.filter fun x => decide (a < x)).filter (fun x => decide (b < x)) := by
    rw [List.filter_filter]
    congr 1
    funext x
    by_cases h2 : b < x
    · have : a < x := by omega
      simp [h2, this]
    · simp [h2]
  rw [h1]
  have := List.length_filter_le (fun x => decide (b < x)) (xs.filter fun x => decide (a < x))
  omega
theorem filter_take {l : List Int} {Q : Int → Bool} (hs : l.Pairwise (· < ·)) (hq : ∀ a b, a ≤ b → Q b = true → Q a = true) : l.filter Q = l.take (l.filter Q).length := by
  induction l with
  | nil => rfl
  | cons x r ih =>
    obtain ⟨h1, h2⟩ := List.pairwise_cons.1 hs
    by_cases hx : Q x = true
    · rw [List.filter_cons_of_pos hx, List.length_cons, List.take_succ_cons, ← ih h2]
    · have h3 : r.filter Q = [] := by
        rw [List.filter_eq_nil_iff]
        intro y hy hqy
        exact hx (hq x y (by have := h1 y hy; omega) hqy)
      rw [List.filter_cons_of_neg hx, h3]
      rfl
theorem lost_filter {b nx many : Int} {xs : List Int} (h : lostOK b nx xs many = true) : lostL b nx xs many = (openL b nx xs).filter (fun n => decide (many ≤ cntG xs n)) := by
  have h1 : winV b nx xs = true := by simp only [lostOK, Bool.and_eq_true] at h; exact h.1
  rw [lostL_t h, openL_t h1, selL_filter]
  rfl
theorem open_asc (b nx : Int) (xs : List Int) : (openL b nx xs).Pairwise (· < ·) := by
  rcases h : winV b nx xs with _ | _
  · rw [openL_f h]; exact List.Pairwise.nil
  · rw [openL_t h]; exact selL_asc _ _ _
theorem lost_take (b nx : Int) (xs : List Int) (many : Int) : lostL b nx xs many = (openL b nx xs).take (lostL b nx xs many).length := by
  rcases h : lostOK b nx xs many with _ | _
  · rw [lostL_f h]; rfl
  · rw [lost_filter h]
    exact filter_take (open_asc _ _ _) fun a c hac hc => by
      have h1 := cntG_anti (xs := xs) hac
      simp only [decide_eq_true_eq] at hc ⊢
      omega
theorem lost_many {b nx many : Int} {xs : List Int} (h : lostL b nx xs many ≠ []) : many ≤ xs.length := by
  rcases hk : lostOK b nx xs many with _ | _
  · exact absurd (lostL_f hk) h
  · rw [lost_filter hk] at h
    obtain ⟨x, hx⟩ := List.exists_mem_of_ne_nil _ h
    have h1 := (List.mem_filter.1 hx).2
    have h2 := (cntG_bd xs x).2
    simp only [decide_eq_true_eq] at h1
    omega
theorem lost_more {b nx many : Int} {xs : List Int} (h : lostL b nx xs many ≠ []) (h8 : many ≠ 8) : lostL b nx xs (many + 1) = (lostL b nx xs many).take (lostL b nx xs (many + 1)).length ∧ (lostL b nx xs (many + 1)).length ≤ (lostL b nx xs many).length := by
  rcases hk : lostOK b nx xs many with _ | _
  · exact absurd (lostL_f hk) h
  · have hk2 : lostOK b nx xs (many + 1) = true := by
      simp only [lostOK, Bool.and_eq_true, inR_iff] at hk ⊢
      exact ⟨hk.1, by omega, by omega⟩
    have e : lostL b nx xs (many + 1) = (lostL b nx xs many).filter (fun n => decide (many + 1 ≤ cntG xs n)) := by
      rw [lost_filter hk, lost_filter hk2, List.filter_filter]
      congr 1
      funext n
      by_cases h1 : many + 1 ≤ cntG xs n
      · have h2 : many ≤ cntG xs n := by omega
        simp [h1, h2]
      · simp [h1]
    rw [e]
    refine ⟨filter_take ?_ fun a c hac hc => ?_, List.length_filter_le _ _⟩
    · rw [lost_filter hk]
      exact (open_asc _ _ _).filter _
    · have h1 := cntG_anti (xs := xs) hac
      simp only [decide_eq_true_eq] at hc ⊢
      omega
theorem lost_mem {b nx many n : Int} {xs : List Int} (h : n ∈ lostL b nx xs many) : n ∈ openL b nx xs := by
  rcases hk : lostOK b nx xs many with _ | _
  · rw [lostL_f hk] at h; cases h
  · rw [lost_filter hk] at h
    exact (List.mem_filter.1 h).1
theorem lost_ack {b nx m many : Int} {xs : List Int} (hk : akOK b nx xs m = true) : (lostL (akU b nx xs m) nx (akL b nx xs m) many).contains m = false := by
  have h : ¬ m ∈ lostL (akU b nx xs m) nx (akL b nx xs m) many := fun hm => by
    have h1 := lost_mem hm
    rw [(ak_facts hk).2.2.2.2.1] at h1
    simpa using (List.mem_filter.1 h1).2
  simpa using h
end Go.Proofs.Ytpfeadjmmefbgaa
