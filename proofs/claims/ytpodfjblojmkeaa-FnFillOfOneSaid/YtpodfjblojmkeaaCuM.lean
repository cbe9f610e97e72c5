/-
  Mathematics of batches by their sizes.
-/
import Derived.Test.YtpodfjblojmkeaaInt
namespace Go.Proofs.Ytpodfjblojmkeaa

theorem getD_of {xs : List Int} {k : Nat} {v : Int} (h : xs[k]? = some v) : xs.getD k 0 = v := by
  rw [List.getD_eq_getElem?_getD, h]; rfl
theorem drop_of {xs : List Int} {k : Nat} {v : Int} (h : xs[k]? = some v) : xs.drop k = v :: xs.drop (k + 1) := by
  have hk : k < xs.length := (List.getElem?_eq_some_iff.1 h).1
  have e : xs[k] = v := (List.getElem?_eq_some_iff.1 h).2
  rw [List.drop_eq_getElem_cons hk, e]
theorem allR_drop {xs : List Int} {lo hi : Int} (h : allR xs lo hi = true) (k : Nat) : allR (xs.drop k) lo hi = true := by
  unfold allR at *
  rw [List.all_eq_true] at *
  exact fun x hx => h x (List.mem_of_mem_drop hx)
theorem allR_take {xs : List Int} {lo hi : Int} (h : allR xs lo hi = true) (k : Nat) : allR (xs.take k) lo hi = true := by
  unfold allR at *
  rw [List.all_eq_true] at *
  exact fun x hx => h x (List.mem_of_mem_take hx)
/-- How many of the first sizes one batch has. -/
def fitN : Int → Nat → List Int → Nat
  | _, 0, _ => 0
  | _, _ + 1, [] => 0
  | left, m + 1, x :: l => if x ≤ left then fitN (left - x) m l + 1 else 0
theorem fit_le : ∀ (m : Nat) (left : Int) (xs : List Int), fitN left m xs ≤ m ∧ fitN left m xs ≤ xs.length
  | 0, _, _ => by simp [fitN]
  | _ + 1, _, [] => by simp [fitN]
  | m + 1, left, x :: l => by
    have := fit_le m (left - x) l
    simp only [fitN, List.length_cons]
    split <;> omega
theorem fit_nil (left : Int) (m : Nat) : fitN left m [] = 0 := by cases m <;> rfl
theorem fit_yes {left : Int} {m : Nat} {xs : List Int} {k : Nat} {v : Int} (h : xs[k]? = some v) (hv : v ≤ left) (hm : 0 < m) : fitN left m (xs.drop k) = fitN (left - v) (m - 1) (xs.drop (k + 1)) + 1 := by
  obtain ⟨m, rfl⟩ : ∃ j, m = j + 1 := ⟨m - 1, by omega⟩
  rw [drop_of h]
  simp [fitN, hv]
theorem fit_no {left : Int} {m : Nat} {xs : List Int} {k : Nat} {v : Int} (h : xs[k]? = some v) (hv : left < v) : fitN left m (xs.drop k) = 0 := by
  rw [drop_of h]
  cases m with
  | zero => rfl
  | succ m => simp only [fitN]; rw [if_neg (by omega)]
theorem fit_pos {left : Int} {m : Nat} {xs : List Int} (h : xs ≠ []) (hr : allR xs 1 20 = true) (hl : 20 ≤ left) (hm : 1 ≤ m) : 1 ≤ fitN left m xs := by
  obtain ⟨m, rfl⟩ : ∃ j, m = j + 1 := ⟨m - 1, by omega⟩
  cases xs with
  | nil => exact absurd rfl h
  | cons x l =>
    have := allR_at (k := 0) (v := x) rfl hr
    simp only [fitN]
    rw [if_pos (by omega)]
    omega
def bbF (bytes : Int) (m : Nat) : Nat → List Int → List (List Int)
  | 0, _ => []
  | f + 1, ys => if ys = [] then [] else ys.take (fitN bytes m ys) :: bbF bytes m f (ys.drop (fitN bytes m ys))
/-- The batches. -/
def BB (bytes : Int) (m : Nat) (ys : List Int) : List (List Int) := bbF bytes m ys.length ys
theorem BB_nil (bytes : Int) (m : Nat) : BB bytes m [] = [] := rfl
theorem bbF_fuel {bytes : Int} {m : Nat} (hb : 20 ≤ bytes) (hm : 1 ≤ m) : ∀ (f g : Nat) (ys : List Int), allR ys 1 20 = true → ys.length ≤ f → ys.length ≤ g → bbF bytes m f ys = bbF bytes m g ys
  | 0, g, ys, _, h, _ => by
    obtain rfl : ys = [] := List.eq_nil_of_length_eq_zero (by omega)
    cases g <;> simp [bbF]
  | f + 1, 0, ys, _, _, h => by
    obtain rfl : ys = [] := List.eq_nil_of_length_eq_zero (by omega)
    simp [bbF]
  | f + 1, g + 1, ys, hr, h1, h2 => by
    by_cases e : ys = []
    · subst e; simp [bbF]
    · have hp := fit_pos e hr hb hm
      simp only [bbF, if_neg e]
      rw [bbF_fuel hb hm f g _ (allR_drop hr _) (by rw [List.length_drop]; omega) (by rw [List.length_drop]; omega)]
theorem BB_next {bytes : Int} {m : Nat} {ys : List Int} (h : ys ≠ []) (hr : allR ys 1 20 = true) (hb : 20 ≤ bytes) (hm : 1 ≤ m) : BB bytes m ys = ys.take (fitN bytes m ys) :: BB bytes m (ys.drop (fitN bytes m ys)) := by
  have hp := fit_pos h hr hb hm
  obtain ⟨k, hk⟩ : ∃ k, ys.length = k + 1 := ⟨ys.length - 1, by have := List.length_pos_iff.2 h; omega⟩
  unfold BB
  rw [hk]
  simp only [bbF, if_neg h]
  rw [bbF_fuel hb hm k _ _ (allR_drop hr _) (by rw [List.length_drop]; omega) (Nat.le_refl _)]
/-- Induction over the batches. -/
theorem bb_ind {bytes : Int} {m : Nat} (hb : 20 ≤ bytes) (hm : 1 ≤ m) {P : List Int → Prop} (h0 : P [])
    (h1 : ∀ ys, ys ≠ [] → allR ys 1 20 = true → P (ys.drop (fitN bytes m ys)) → P ys) : ∀ (n : Nat) (ys : List Int), ys.length ≤ n → allR ys 1 20 = true → P ys
  | 0, ys, h, _ => by
    obtain rfl : ys = [] := List.eq_nil_of_length_eq_zero (by omega)
    exact h0
  | n + 1, ys, h, hr => by
    by_cases e : ys = []
    · subst e; exact h0
    · have hp := fit_pos e hr hb hm
      exact h1 ys e hr (bb_ind hb hm h0 h1 n _ (by rw [List.length_drop]; omega) (allR_drop hr _))
def cntL (L : List (List Int)) : List Int := L.map fun l => (l.length : Int)
def sumL2 (L : List (List Int)) : List Int := L.map List.sum
theorem cntL_app (L M : List (List Int)) : cntL (L ++ M) = cntL L ++ cntL M := by simp [cntL]
theorem sumL2_app (L M : List (List Int)) : sumL2 (L ++ M) = sumL2 L ++ sumL2 M := by simp [sumL2]
theorem BB_len {bytes : Int} {m : Nat} (hb : 20 ≤ bytes) (hm : 1 ≤ m) {ys : List Int} (hr : allR ys 1 20 = true) : (BB bytes m ys).length ≤ ys.length := by
  refine bb_ind hb hm (P := fun ys => (BB bytes m ys).length ≤ ys.length) (by simp [BB_nil]) ?_ _ ys (Nat.le_refl _) hr
  intro ys h hr ih
  have hp := fit_pos h hr hb hm
  have hl := (fit_le m bytes ys).2
  rw [BB_next h hr hb hm, List.length_cons]
  rw [List.length_drop] at ih
  omega
def cutOK (xs : List Int) (bytes many : Int) : Bool := (decide (xs.length ≤ 12) && allR xs 1 20) && (inR bytes 20 200 && inR many 1 12)
theorem cut_in {xs : List Int} {bytes many : Int} (h : cutOK xs bytes many = true) : xs.length ≤ 12 ∧ allR xs 1 20 = true ∧ inR bytes 20 200 = true ∧ inR many 1 12 = true := by
  simp [cutOK] at h
  exact ⟨h.1.1, h.1.2, h.2.1, h.2.2⟩
def bbV (xs : List Int) (bytes many : Int) : List (List Int) := if cutOK xs bytes many then BB bytes many.toNat xs else []
theorem bbV_le (xs : List Int) (bytes many : Int) : (bbV xs bytes many).length ≤ 12 := by
  rcases h : cutOK xs bytes many with _ | _
  · simp [bbV, h]
  · obtain ⟨h1, h2, h3, h4⟩ := cut_in h
    have a3 := inR_iff.1 h3
    have a4 := inR_iff.1 h4
    simp only [bbV, h, if_true]
    have := BB_len (bytes := bytes) (m := many.toNat) (by omega) (by omega) h2
    omega
def cbV (xs : List Int) (bytes many : Int) : List Int := cntL (bbV xs bytes many)
def bsV (xs : List Int) (bytes many : Int) : List Int := sumL2 (bbV xs bytes many)
theorem bbV_no {xs : List Int} {bytes many : Int} (h : cutOK xs bytes many = false) : bbV xs bytes many = [] := by simp [bbV, h]
theorem cbV_no {xs : List Int} {bytes many : Int} (h : cutOK xs bytes many = false) : cbV xs bytes many = [] := by simp [cbV, bbV_no h, cntL]
theorem bsV_no {xs : List Int} {bytes many : Int} (h : cutOK xs bytes many = false) : bsV xs bytes many = [] := by simp [bsV, bbV_no h, sumL2]
theorem cbV_le (xs : List Int) (bytes many : Int) : (cbV xs bytes many).length ≤ 12 := by simp [cbV, cntL]; exact bbV_le xs bytes many
theorem bsV_le (xs : List Int) (bytes many : Int) : (bsV xs bytes many).length ≤ 12 := by simp [bsV, sumL2]; exact bbV_le xs bytes many
theorem sum_bd {lo hi : Int} : ∀ (xs : List Int), allR xs lo hi = true → lo * xs.length ≤ xs.sum ∧ xs.sum ≤ hi * xs.length
  | [], _ => by simp
  | x :: l, h => by
    have hx := allR_at (k := 0) (v := x) rfl h
    have hl := sum_bd l (by unfold allR at *; simp at h ⊢; exact h.2)
    simp only [List.sum_cons, List.length_cons]
    have e1 : lo * ((l.length + 1 : Nat) : Int) = lo * (l.length : Int) + lo := by rw [Int.natCast_add, Int.mul_add]; simp
    have e2 : hi * ((l.length + 1 : Nat) : Int) = hi * (l.length : Int) + hi := by rw [Int.natCast_add, Int.mul_add]; simp
    rw [e1, e2]
    omega
noncomputable def fillV (xs : List Int) (bytes many : Int) : Int := if cutOK xs bytes many then (if xs = [] then 100 else 100 * xs.sum / ((bbV xs bytes many).length * bytes)) else -1
end Go.Proofs.Ytpodfjblojmkeaa
