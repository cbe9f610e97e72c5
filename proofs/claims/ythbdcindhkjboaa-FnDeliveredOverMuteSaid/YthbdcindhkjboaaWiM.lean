/-
  Plain mathematics of windows: selections of numbers, bits of a set, what is valid, acknowledgement.
-/
import Derived.Test.YthbdcindhkjboaaInt
namespace Go.Proofs.Ythbdcindhkjboaa

/-- The numbers from b on, k of them, for which P holds. -/
def selL (P : Int → Bool) : Int → Nat → List Int
  | _, 0 => []
  | b, k + 1 => if P b then b :: selL P (b + 1) k else selL P (b + 1) k
theorem selL_len (P : Int → Bool) (b : Int) (k : Nat) : (selL P b k).length ≤ k := by
  induction k generalizing b with
  | zero => simp [selL]
  | succ k ih =>
    simp only [selL]
    have := ih (b + 1)
    split
    · rw [List.length_cons]; omega
    · omega
theorem selL_mem {P : Int → Bool} {b : Int} {k : Nat} {n : Int} : n ∈ selL P b k ↔ b ≤ n ∧ n < b + (k : Int) ∧ P n = true := by
  induction k generalizing b with
  | zero => simp [selL]; omega
  | succ k ih =>
    simp only [selL]
    split
    · rename_i h
      rw [List.mem_cons, ih]
      constructor
      · rintro (rfl | h1)
        · exact ⟨by omega, by omega, h⟩
        · exact ⟨by omega, by omega, h1.2.2⟩
      · rintro ⟨h1, h2, h3⟩
        by_cases e : n = b
        · exact .inl e
        · exact .inr ⟨by omega, by omega, h3⟩
    · rename_i h
      rw [ih]
      constructor
      · rintro h1
        exact ⟨by omega, by omega, h1.2.2⟩
      · rintro ⟨h1, h2, h3⟩
        have : n ≠ b := by rintro rfl; exact h h3
        exact ⟨by omega, by omega, h3⟩
theorem selL_congr {P Q : Int → Bool} {b : Int} {k : Nat} (h : ∀ n, b ≤ n → n < b + (k : Int) → P n = Q n) : selL P b k = selL Q b k := by
  induction k generalizing b with
  | zero => rfl
  | succ k ih =>
    simp only [selL]
    rw [h b (by omega) (by omega), ih fun n h1 h2 => h n (by omega) (by omega)]
theorem selL_snoc (P : Int → Bool) (b : Int) (k : Nat) : selL P b (k + 1) = selL P b k ++ (if P (b + (k : Int)) then [b + (k : Int)] else []) := by
  induction k generalizing b with
  | zero => simp [selL]
  | succ k ih =>
    rw [selL, ih (b + 1), selL]
    have e : b + 1 + (k : Int) = b + ((k + 1 : Nat) : Int) := by omega
    rw [e]
    split <;> simp
theorem selL_yes {P : Int → Bool} {b : Int} {k : Nat} (h : P (b + (k : Int)) = true) : selL P b (k + 1) = selL P b k ++ [b + (k : Int)] := by rw [selL_snoc, if_pos h]
theorem selL_no {P : Int → Bool} {b : Int} {k : Nat} (h : P (b + (k : Int)) = false) : selL P b (k + 1) = selL P b k := by rw [selL_snoc, h]; simp
theorem selL_filter (P Q : Int → Bool) (b : Int) (k : Nat) : (selL P b k).filter Q = selL (fun n => P n && Q n) b k := by
  induction k generalizing b with
  | zero => rfl
  | succ k ih =>
    simp only [selL]
    by_cases h : P b = true
    · by_cases h2 : Q b = true
      · simp [h, h2, ih]
      · simp [h, h2, ih]
    · simp [h, ih]
theorem selL_none {P : Int → Bool} {b : Int} {k : Nat} (h : ∀ n, b ≤ n → n < b + (k : Int) → P n = false) : selL P b k = [] := by
  induction k generalizing b with
  | zero => rfl
  | succ k ih =>
    simp only [selL]
    rw [h b (by omega) (by omega), ih fun n h1 h2 => h n (by omega) (by omega)]
    simp

/-- The acknowledged numbers of a window are ascending between its ends. -/
def okA : Int → Int → List Int → Bool
  | _, _, [] => true
  | b, nx, x :: r => inR x (b + 1) (nx - 1) && okA x nx r
/-- A window is valid. -/
def winV (b nx : Int) (xs : List Int) : Bool := inR b 0 1000 && (inR nx b (b + 8) && okA b nx xs)
/-- The last of some numbers, else b. -/
def lastV : Int → List Int → Int
  | b, [] => b
  | _, x :: r => lastV x r
theorem lastV_snoc (b : Int) (l : List Int) (v : Int) : lastV b (l ++ [v]) = v := by
  induction l generalizing b with
  | nil => rfl
  | cons x r ih => exact ih x
theorem okA_append (b nx : Int) (l m : List Int) : okA b nx (l ++ m) = (okA b nx l && okA (lastV b l) nx m) := by
  induction l generalizing b with
  | nil => simp [okA, lastV]
  | cons x r ih => simp only [List.cons_append, okA, lastV, ih, Bool.and_assoc]
theorem okA_mem {b nx : Int} {xs : List Int} (h : okA b nx xs = true) : ∀ x ∈ xs, b < x ∧ x < nx := by
  induction xs generalizing b with
  | nil => intro x hx; cases hx
  | cons y r ih =>
    simp only [okA, Bool.and_eq_true, inR_iff] at h
    intro x hx
    rcases List.mem_cons.1 hx with rfl | hx
    · omega
    · have := ih h.2 x hx; omega
theorem okA_last {b nx : Int} {xs : List Int} (h : okA b nx xs = true) : b ≤ lastV b xs ∧ (lastV b xs = b ∨ lastV b xs < nx) := by
  induction xs generalizing b with
  | nil => exact ⟨Int.le_refl _, .inl rfl⟩
  | cons y r ih =>
    simp only [okA, Bool.and_eq_true, inR_iff] at h
    have := ih h.2
    simp only [lastV]
    omega
theorem okA_step {b nx v : Int} {xs : List Int} {k : Nat} (hx : xs[k]? = some v) (ha : okA b nx (xs.take k) = true) (hv : inR v (lastV b (xs.take k) + 1) (nx - 1) = true) : okA b nx (xs.take (k + 1)) = true := by
  have hk : k < xs.length := (List.getElem?_eq_some_iff.1 hx).1
  have e : xs[k] = v := (List.getElem?_eq_some_iff.1 hx).2
  rw [List.take_succ_eq_append_getElem hk, okA_append, ha, e]
  simp only [okA, hv, Bool.and_true]
theorem okA_bad {b nx v : Int} {xs : List Int} {k : Nat} (hx : xs[k]? = some v) (hv : inR v (lastV b (xs.take k) + 1) (nx - 1) = false) : okA b nx xs = false := by
  have hk : k < xs.length := (List.getElem?_eq_some_iff.1 hx).1
  have e : xs[k] = v := (List.getElem?_eq_some_iff.1 hx).2
  have h1 : xs = xs.take k ++ xs[k] :: xs.drop (k + 1) := by rw [← List.drop_eq_getElem_cons hk, List.take_append_drop]
  rw [h1, okA_append, e]
  simp only [okA, hv, Bool.false_and, Bool.and_false]
theorem last_step {b v : Int} {xs : List Int} {k : Nat} (hx : xs[k]? = some v) : lastV b (xs.take (k + 1)) = v := by
  have hk : k < xs.length := (List.getElem?_eq_some_iff.1 hx).1
  have e : xs[k] = v := (List.getElem?_eq_some_iff.1 hx).2
  rw [List.take_succ_eq_append_getElem hk, e, lastV_snoc]
/-- The ascending numbers between two ends are those that are found among them. -/
theorem selL_ok {nx : Int} {k : Nat} : ∀ {b : Int} {xs : List Int}, okA b nx xs = true → nx ≤ b + 1 + (k : Int) → selL (fun n => xs.contains n) (b + 1) k = xs := by
  induction k with
  | zero =>
    intro b xs h hn
    cases xs with
    | nil => rfl
    | cons y r => have := okA_mem h y (by simp); omega
  | succ k ih =>
    intro b xs h hn
    cases xs with
    | nil => rw [selL_none fun n _ _ => by simp]
    | cons y r =>
      have h2 := h
      simp only [okA, Bool.and_eq_true, inR_iff] at h2
      by_cases e : y = b + 1
      · subst e
        have h3 := ih h2.2 (by omega)
        simp only [selL]
        rw [if_pos (by simp), ← h3]
        congr 1
        rw [h3]
        conv => rhs; rw [← h3]
        apply selL_congr
        intro n hn1 _
        have : ¬ n = b + 1 := by omega
        simp [this]
      · have h3 : okA (b + 1) nx (y :: r) = true := by
          simp only [okA, Bool.and_eq_true, inR_iff]
          exact ⟨by omega, h2.2⟩
        have hno : ¬ (b + 1) ∈ (y :: r) := fun hm => by have := okA_mem h3 _ hm; omega
        simp only [selL]
        rw [if_neg (by simpa using hno), ih h3 (by omega)]
theorem selL_win {b nx : Int} {xs : List Int} (h : okA b nx xs = true) {k : Nat} (hk : nx ≤ b + (k : Int)) : selL (fun n => xs.contains n) b k = xs := by
  cases k with
  | zero =>
    cases xs with
    | nil => rfl
    | cons y r => have := okA_mem h y (by simp); omega
  | succ k =>
    have hno : ¬ b ∈ xs := fun hm => by have := okA_mem h _ hm; omega
    simp only [selL]
    rw [if_neg (by simpa using hno), selL_ok h (by omega)]
theorem okA_selL (P : Int → Bool) (nx : Int) : ∀ (k : Nat) (b c : Int), c < b → b + (k : Int) ≤ nx → okA c nx (selL P b k) = true := by
  intro k
  induction k with
  | zero => intro b c _ _; rfl
  | succ k ih =>
    intro b c hc hk
    simp only [selL]
    split
    · simp only [okA, Bool.and_eq_true, inR_iff]
      exact ⟨by omega, ih _ _ (by omega) (by omega)⟩
    · exact ih _ _ (by omega) (by omega)

/-- A set of numbers from b on, by bits. -/
def bitsL (b : Int) (xs : List Int) : Nat := xs.foldl (fun s n => s ||| 2 ^ (n - b).toNat) 0
theorem bitsF_test {b : Int} {xs : List Int} (h : ∀ x ∈ xs, b ≤ x) (i : Nat) (s : Nat) : (xs.foldl (fun s n => s ||| 2 ^ (n - b).toNat) s).testBit i = (s.testBit i || xs.contains (b + (i : Int))) := by
  induction xs generalizing s with
  | nil => simp
  | cons y r ih =>
    rw [List.foldl_cons, ih (fun x hx => h x (by simp [hx])), Nat.testBit_or, Nat.testBit_two_pow, List.contains_cons, Bool.or_assoc]
    congr 2
    have hy := h y (by simp)
    by_cases e : b + (i : Int) = y
    · subst e
      simp
      omega
    · have e2 : ¬ (y - b).toNat = i := by omega
      simp [e, e2]
theorem bitsL_test {b : Int} {xs : List Int} (h : ∀ x ∈ xs, b ≤ x) (i : Nat) : (bitsL b xs).testBit i = xs.contains (b + (i : Int)) := by
  unfold bitsL
  rw [bitsF_test h]
  simp
theorem bitsF_lt {b : Int} {xs : List Int} (h : ∀ x ∈ xs, x - b < 8) (s : Nat) (hs : s < 256) : xs.foldl (fun s n => s ||| 2 ^ (n - b).toNat) s < 256 := by
  induction xs generalizing s with
  | nil => exact hs
  | cons y r ih =>
    rw [List.foldl_cons]
    refine ih (fun x hx => h x (by simp [hx])) _ ?_
    have h1 : 2 ^ (y - b).toNat < 2 ^ 8 := Nat.pow_lt_pow_right (by omega) (by have := h y (by simp); omega)
    exact Nat.or_lt_two_pow (n := 8) hs h1
theorem bitsL_lt {b : Int} {xs : List Int} (h : ∀ x ∈ xs, x - b < 8) : bitsL b xs < 256 := bitsF_lt h 0 (by omega)
theorem bitsL_step {b v : Int} {xs : List Int} {k : Nat} (hx : xs[k]? = some v) : bitsL b (xs.take (k + 1)) = bitsL b (xs.take k) ||| 2 ^ (v - b).toNat := by
  have hk : k < xs.length := (List.getElem?_eq_some_iff.1 hx).1
  have e : xs[k] = v := (List.getElem?_eq_some_iff.1 hx).2
  unfold bitsL
  rw [List.take_succ_eq_append_getElem hk, List.foldl_append, e]
  rfl

/-- Where a window begins after an acknowledgement, and what is acknowledged behind: P tells what is acknowledged. -/
def ackR (P : Int → Bool) : Int → Nat → Int × List Int
  | b, 0 => (b, [])
  | b, k + 1 => if P b then ackR P (b + 1) k else (b, selL P b (k + 1))
theorem ackR_congr {P Q : Int → Bool} {b : Int} {k : Nat} (h : ∀ n, b ≤ n → n < b + (k : Int) → P n = Q n) : ackR P b k = ackR Q b k := by
  induction k generalizing b with
  | zero => rfl
  | succ k ih =>
    simp only [ackR]
    rw [h b (by omega) (by omega), ih fun n h1 h2 => h n (by omega) (by omega), selL_congr h]
/-- Where the run of acknowledged numbers from b on ends. -/
def upR (P : Int → Bool) : Int → Nat → Int
  | b, 0 => b
  | b, k + 1 => if P b then upR P (b + 1) k else b
theorem ackR_fst (P : Int → Bool) (b : Int) (k : Nat) : (ackR P b k).1 = upR P b k := by
  induction k generalizing b with
  | zero => rfl
  | succ k ih => simp only [ackR, upR]; split <;> simp [ih]
theorem upR_bd (P : Int → Bool) (b : Int) (k : Nat) : b ≤ upR P b k ∧ upR P b k ≤ b + (k : Int) := by
  induction k generalizing b with
  | zero => simp [upR]
  | succ k ih =>
    simp only [upR]
    split
    · have := ih (b + 1); omega
    · omega
theorem upR_below {P : Int → Bool} {b : Int} {k : Nat} {n : Int} (h1 : b ≤ n) (h2 : n < upR P b k) : P n = true := by
  induction k generalizing b with
  | zero => simp [upR] at h2; omega
  | succ k ih =>
    simp only [upR] at h2
    split at h2
    · rename_i h
      by_cases e : n = b
      · exact e ▸ h
      · exact ih (by omega) h2
    · omega
theorem upR_at {P : Int → Bool} {b : Int} {k : Nat} (h : upR P b k < b + (k : Int)) : P (upR P b k) = false := by
  induction k generalizing b with
  | zero => simp [upR] at h
  | succ k ih =>
    simp only [upR] at h ⊢
    split at h
    · rename_i h1
      rw [if_pos h1]
      exact ih (by omega)
    · rename_i h1
      rw [if_neg h1]
      simpa using h1
theorem ackR_snd (P : Int → Bool) (b : Int) (k : Nat) : (ackR P b k).2 = selL P (upR P b k) (b + (k : Int) - upR P b k).toNat := by
  induction k generalizing b with
  | zero => simp [ackR, upR, selL]
  | succ k ih =>
    simp only [ackR, upR]
    split
    · rw [ih]
      congr 2
      omega
    · have e : (b + ((k + 1 : Nat) : Int) - b).toNat = k + 1 := by omega
      rw [e]
/-- The first numbers of a list that follow each other from b on are taken away. -/
def advL : Int → List Int → Int × List Int
  | b, [] => (b, [])
  | b, x :: r => if x = b then advL (b + 1) r else (b, x :: r)
theorem advL_sel (P : Int → Bool) (b : Int) (k : Nat) : advL b (selL P b k) = ackR P b k := by
  induction k generalizing b with
  | zero => rfl
  | succ k ih =>
    simp only [ackR]
    by_cases h : P b = true
    · rw [if_pos h, selL, if_pos h, advL, if_pos rfl, ih]
    · rw [if_neg h]
      have h1 : ∀ x ∈ selL P b (k + 1), x ≠ b := by
        rintro x hx rfl
        exact h (selL_mem.1 hx).2.2
      cases hs : selL P b (k + 1) with
      | nil => rfl
      | cons y r =>
        rw [advL, if_neg (h1 y (by rw [hs]; simp))]
end Go.Proofs.Ythbdcindhkjboaa
