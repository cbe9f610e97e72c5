/-
  Mathematics of the laws on times of batches.
-/
import Derived.Test.YtdfhhjdefmogbaaFlM
namespace Go.Proofs.Ytdfhhjdefmogbaa

theorem getD_drop {xs : List Int} (k i : Nat) : (xs.drop k).getD i 0 = xs.getD (k + i) 0 := by
  rw [List.getD_eq_getElem?_getD, List.getElem?_drop, List.getD_eq_getElem?_getD]
theorem asc_drop {xs : List Int} (h : ascB xs = true) (k : Nat) : ascB (xs.drop k) = true := by
  refine asc_iff.2 fun i hi => ?_
  rw [List.length_drop] at hi
  rw [getD_drop, getD_drop]
  have := asc_iff.1 h (k + i) (by omega)
  rw [Nat.add_assoc] at this
  exact this
theorem asc_le {xs : List Int} (h : ascB xs = true) {i : Nat} : ∀ (d : Nat), i + d < xs.length → xs.getD i 0 ≤ xs.getD (i + d) 0
  | 0, _ => Int.le_refl _
  | d + 1, hd => by
    have h1 := asc_le h (i := i) d (by omega)
    have h2 := asc_iff.1 h (i + d) (by omega)
    have e : i + (d + 1) = i + d + 1 := by omega
    rw [e]
    omega
theorem asc_lt {xs : List Int} (h : ascB xs = true) {i j : Nat} (hij : i ≤ j) (hj : j < xs.length) : xs.getD i 0 ≤ xs.getD j 0 := by
  have := asc_le h (i := i) (j - i) (by omega)
  have e : i + (j - i) = j := by omega
  rwa [e] at this
theorem asc_cons {x : Int} {l : List Int} (h1 : l ≠ [] → x ≤ l.getD 0 0) (h2 : ascB l = true) : ascB (x :: l) = true := by
  refine asc_iff.2 fun i hi => ?_
  cases i with
  | zero =>
    simp only [List.length_cons] at hi
    have : l ≠ [] := by rintro rfl; simp at hi
    simpa using h1 this
  | succ i =>
    simp only [List.length_cons] at hi
    simpa using asc_iff.1 h2 i (by omega)
theorem upN_all (last : Int) : ∀ (m : Nat) (xs : List Int) (i : Nat), i < upN last m xs → xs.getD i 0 ≤ last
  | 0, _, i, h => by simp [upN] at h
  | _ + 1, [], i, h => by simp [upN] at h
  | m + 1, x :: l, i, h => by
    simp only [upN] at h
    split at h
    · cases i with
      | zero => simpa using ‹x ≤ last›
      | succ i => simpa using upN_all last m l i (by omega)
    · omega
theorem upN_stop (last : Int) : ∀ (m : Nat) (xs : List Int), upN last m xs < m → upN last m xs < xs.length → last < xs.getD (upN last m xs) 0
  | 0, _, h, _ => by omega
  | _ + 1, [], _, h => by simp at h
  | m + 1, x :: l, h1, h2 => by
    simp only [upN] at h1 h2 ⊢
    split at h1
    · rename_i hx
      rw [if_pos hx] at h2 ⊢
      simp only [List.length_cons] at h2
      simpa using upN_stop last m l (by omega) (by omega)
    · rename_i hx
      rw [if_neg hx]
      simp
      omega
section
variable {age : Int} {M : Nat} {ys : List Int}
theorem due_bd (h : ys ≠ []) (ha : 0 ≤ age) (hm : 1 ≤ M) (hs : ascB ys = true) : ys.getD 0 0 ≤ dueL age M ys ∧ dueL age M ys ≤ ys.getD 0 0 + age := by
  have hp := nL_pos h ha hm
  have hl := (nL_le age M ys).2
  unfold dueL
  split
  · exact ⟨asc_lt hs (Nat.zero_le _) (by omega), upN_all _ M ys _ (by show nL age M ys - 1 < nL age M ys; omega)⟩
  · omega
theorem due_next (h : ys ≠ []) (ha : 0 ≤ age) (hm : 1 ≤ M) (hs : ascB ys = true) (hn : nL age M ys < ys.length) : dueL age M ys ≤ ys.getD (nL age M ys) 0 := by
  have hp := nL_pos h ha hm
  have hl := (nL_le age M ys).1
  unfold dueL
  split
  · exact asc_lt hs (by omega) hn
  · have := upN_stop (ys.getD 0 0 + age) M ys (by show nL age M ys < M; omega) hn
    exact Int.le_of_lt this
theorem due_last (h : ys ≠ []) (ha : 0 ≤ age) (hm : 1 ≤ M) (hs : ascB ys = true) (hn : nL age M ys = ys.length) : ys.getD (ys.length - 1) 0 ≤ dueL age M ys ∧ dueL age M ys ≤ ys.getD (ys.length - 1) 0 + age := by
  have hp := nL_pos h ha hm
  have h0 := asc_lt hs (i := 0) (j := ys.length - 1) (Nat.zero_le _) (by omega)
  unfold dueL
  split
  · rw [hn]; omega
  · have := upN_all (ys.getD 0 0 + age) M ys (ys.length - 1) (by show ys.length - 1 < nL age M ys; omega)
    omega
/-- What the law asks of the times at which batches are sent. -/
theorem FL_props (ha : 0 ≤ age) (hm : 1 ≤ M) : ∀ (n : Nat) (ys : List Int), ys.length ≤ n → ys ≠ [] → ascB ys = true →
    FL age M ys ≠ [] ∧ (FL age M ys).getD 0 0 = dueL age M ys ∧ ascB (FL age M ys) = true ∧ ys.getD (ys.length - 1) 0 ≤ (FL age M ys).getD ((FL age M ys).length - 1) 0 ∧ (FL age M ys).getD ((FL age M ys).length - 1) 0 ≤ ys.getD (ys.length - 1) 0 + age
  | 0, ys, h, h0, _ => by
    exact absurd (List.eq_nil_of_length_eq_zero (by omega)) h0
  | n + 1, ys, h, h0, hs => by
    have hp := nL_pos h0 ha hm
    have hl := (nL_le age M ys).2
    rw [FL_next h0 ha hm]
    refine ⟨by simp, by simp, ?_⟩
    by_cases e : nL age M ys = ys.length
    · rw [List.drop_of_length_le (by omega), FL_nil]
      have := due_last h0 ha hm hs e
      refine ⟨asc_cons (fun h => absurd rfl h) rfl, ?_⟩
      simpa using this
    · have hd : (ys.drop (nL age M ys)).length = ys.length - nL age M ys := List.length_drop
      have hz : ys.drop (nL age M ys) ≠ [] := by intro h2; rw [h2] at hd; simp at hd; omega
      obtain ⟨p1, p2, p3, p4, p5⟩ := FL_props ha hm n (ys.drop (nL age M ys)) (by omega) hz (asc_drop hs _)
      have hx := due_next h0 ha hm hs (by omega)
      have hb := (due_bd hz ha hm (asc_drop hs _)).1
      rw [getD_drop, Nat.add_zero] at hb
      have e2 : nL age M ys + (ys.length - nL age M ys - 1) = ys.length - 1 := by omega
      rw [getD_drop, hd, e2] at p4 p5
      have hlen : 0 < (FL age M (ys.drop (nL age M ys))).length := List.length_pos_iff.2 p1
      refine ⟨asc_cons (fun _ => by rw [p2]; omega) p3, ?_⟩
      have e3 : (dueL age M ys :: FL age M (ys.drop (nL age M ys))).length - 1 = ((FL age M (ys.drop (nL age M ys))).length - 1) + 1 := by simp only [List.length_cons]; omega
      rw [e3, List.getD_cons_succ]
      exact ⟨p4, p5⟩
theorem FL_one (ha : 0 ≤ age) : ∀ (n : Nat) (ys : List Int), ys.length ≤ n → FL age 1 ys = ys
  | 0, ys, h => by
    obtain rfl : ys = [] := List.eq_nil_of_length_eq_zero (by omega)
    rfl
  | n + 1, ys, h => by
    cases ys with
    | nil => rfl
    | cons y l =>
      have hp := nL_pos (age := age) (many := 1) (ys := y :: l) (by simp) ha (Nat.le_refl _)
      have hl := (nL_le age 1 (y :: l)).1
      have e : nL age 1 (y :: l) = 1 := by omega
      rw [FL_next (by simp) ha (Nat.le_refl _)]
      simp only [dueL, e]
      simp only [List.length_cons] at h
      rw [List.drop_succ_cons, List.drop_zero, FL_one ha n l (by omega)]
      simp
def upL1 (xs : List Int) : List Int := xs.map (· + 1)
theorem up_len (xs : List Int) : (upL1 xs).length = xs.length := by simp [upL1]
theorem up_getD {xs : List Int} {k : Nat} (h : k < xs.length) : (upL1 xs).getD k 0 = xs.getD k 0 + 1 := by
  simp [upL1, List.getD_eq_getElem?_getD, List.getElem?_map, List.getElem?_eq_getElem h]
theorem up_drop (xs : List Int) (k : Nat) : (upL1 xs).drop k = upL1 (xs.drop k) := by simp [upL1, List.map_drop]
theorem up_upN (last : Int) : ∀ (m : Nat) (xs : List Int), upN (last + 1) m (upL1 xs) = upN last m xs
  | 0, _ => rfl
  | _ + 1, [] => rfl
  | m + 1, x :: l => by
    have e : upL1 (x :: l) = (x + 1) :: upL1 l := rfl
    rw [e]
    simp only [upN]
    rw [up_upN last m l]
    by_cases h : x ≤ last
    · rw [if_pos h, if_pos (by omega)]
    · rw [if_neg h, if_neg (by omega)]
theorem up_FL (ha : 0 ≤ age) (hm : 1 ≤ M) : ∀ (n : Nat) (ys : List Int), ys.length ≤ n → FL age M (upL1 ys) = upL1 (FL age M ys)
  | 0, ys, h => by
    obtain rfl : ys = [] := List.eq_nil_of_length_eq_zero (by omega)
    rfl
  | n + 1, ys, h => by
    by_cases h0 : ys = []
    · subst h0; rfl
    · have hl0 : 0 < ys.length := List.length_pos_iff.2 h0
      have h1 : upL1 ys ≠ [] := by intro e; have := up_len ys; rw [e] at this; simp at this; omega
      have hp := nL_pos (age := age) (many := M) h0 ha hm
      have hl := (nL_le age M ys).2
      have eN : nL age M (upL1 ys) = nL age M ys := by
        unfold nL
        have e : ys.getD 0 0 + 1 + age = (ys.getD 0 0 + age) + 1 := by omega
        rw [up_getD hl0, e, up_upN]
      have eD : dueL age M (upL1 ys) = dueL age M ys + 1 := by
        unfold dueL
        rw [eN]
        split
        · exact up_getD (by omega)
        · rw [up_getD hl0]; omega
      rw [FL_next h1 ha hm, FL_next h0 ha hm, eN, eD, up_drop, up_FL ha hm n _ (by rw [List.length_drop]; omega)]
      rfl
theorem up_ok {xs : List Int} {many : Int} (h : flOK xs age many = true) (h0 : xs ≠ []) (h1 : xs.getD (xs.length - 1) 0 ≠ 1000) : flOK (upL1 xs) age many = true := by
  obtain ⟨p1, p2, p3, p4, p5⟩ := fl_in h
  have hl0 : 0 < xs.length := List.length_pos_iff.2 h0
  have hx : ∀ i, i < xs.length → 0 ≤ xs.getD i 0 ∧ xs.getD i 0 ≤ 1000 := fun i hi =>
    allR_at (k := i) (by rw [List.getElem?_eq_getElem hi, List.getD_eq_getElem?_getD, List.getElem?_eq_getElem hi]; rfl) p2
  have q1 : ascB (upL1 xs) = true := asc_iff.2 fun i hi => by
    rw [up_len] at hi
    rw [up_getD (by omega), up_getD hi]
    have := asc_iff.1 p3 i hi
    omega
  have q2 : allR (upL1 xs) 0 1000 = true := by
    unfold allR
    rw [List.all_eq_true]
    intro x hx2
    obtain ⟨i, hi, rfl⟩ := List.mem_iff_getElem.1 hx2
    rw [up_len] at hi
    have e : (upL1 xs)[i]'(by rw [up_len]; exact hi) = xs.getD i 0 + 1 := by
      rw [← up_getD hi, List.getD_eq_getElem?_getD, List.getElem?_eq_getElem (by rw [up_len]; exact hi)]; rfl
    rw [e]
    have a := hx i hi
    have b := hx (xs.length - 1) (by omega)
    have c := asc_lt p3 (i := i) (j := xs.length - 1) (by omega) (by omega)
    exact inR_t (by omega) (by omega)
  simp [flOK, okT, q1, q2, p4, p5, up_len, p1]
end
end Go.Proofs.Ytdfhhjdefmogbaa
