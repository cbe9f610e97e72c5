/-
  Mathematics of the laws on buckets.
-/
import Derived.Test.YtokajigaicdffaaBkM
namespace Go.Proofs.Ytokajigaicdffaa
open Go.RowKit

theorem lv_last {s r l t : Int} (h : bkV s r l t = true) : lvV s r l t t = l := by
  obtain ⟨h1, h2, h3, h4⟩ := bkV_in h
  rw [lvV_t h (inR_t (Int.le_refl _) h4.2)]
  unfold lvN
  rw [Int.sub_self, Int.mul_zero]
  omega
theorem lv_mono {s r l t a b : Int} (h : bkV s r l t = true) (hab : a ≤ b) : lvN s r l t a ≤ lvN s r l t b := by
  obtain ⟨h1, h2, h3, h4⟩ := bkV_in h
  have := Int.mul_le_mul_of_nonneg_left (show a - t ≤ b - t by omega) (show (0 : Int) ≤ r by omega)
  unfold lvN
  omega
theorem lv_next {s r l t now v : Int} (h : bkV s r l t = true) (hn : inR now t 1000 = true) (hv : lvV s r l t now = v) (hm : now ≠ 1000) : inR (now + 1) t 1000 = true ∧ lvV s r l t (now + 1) = min s (v + r) := by
  obtain ⟨h1, h2, h3, h4⟩ := bkV_in h
  obtain ⟨n1, n2⟩ := inR_iff.1 hn
  have hn2 : inR (now + 1) t 1000 = true := inR_t (by omega) (by omega)
  refine ⟨hn2, ?_⟩
  subst hv
  rw [lvV_t h hn, lvV_t h hn2]
  unfold lvN
  have e : r * (now + 1 - t) = r * (now - t) + r := by rw [show now + 1 - t = (now - t) + 1 by omega, Int.mul_add, Int.mul_one]
  rw [e]
  omega
theorem lv_full {s r l t : Int} (h : bkV s r l t = true) (hm : t + s ≤ 1000) : inR (t + s) t 1000 = true ∧ lvV s r l t (t + s) = s := by
  obtain ⟨h1, h2, h3, h4⟩ := bkV_in h
  have hn2 : inR (t + s) t 1000 = true := inR_t (by omega) (by omega)
  refine ⟨hn2, ?_⟩
  rw [lvV_t h hn2]
  have := Int.mul_le_mul_of_nonneg_right (show (1 : Int) ≤ r by omega) (show (0 : Int) ≤ s by omega)
  unfold lvN
  rw [show t + s - t = s by omega]
  omega
/-- Something is taken: the bucket behind it. -/
theorem tk_next {s r l t x now : Int} (h : tkOK s r l t x now = true) : bkV s r (lvV s r l t now - x) now = true := by
  obtain ⟨o1, o2, o3, o4, o5⟩ := tkOK_in h
  have h1 := bkV_in o1
  have h2 := lvN_bd o1 o2
  have h3 := inR_iff.1 o2
  rw [o3]
  exact bkV_of h1.1 h1.2.1 (by omega) (by omega)
theorem lv_take {s r l t now v m : Int} (h : bkV s r l t = true) (hn : inR now t 1000 = true) (hv : lvV s r l t now = v) (hm : m = (t + now).tdiv 2) :
    tkOK s r l t 0 m = true ∧ lvV s r (lvV s r l t m - 0) m now = v := by
  obtain ⟨h1, h2, h3, h4⟩ := bkV_in h
  obtain ⟨n1, n2⟩ := inR_iff.1 hn
  have hm2 : t ≤ m ∧ m ≤ now := by
    subst hm
    rw [Int.tdiv_eq_ediv_of_nonneg (by omega)]
    omega
  have hmn : inR m t 1000 = true := inR_t (by omega) (by omega)
  have hb := lvN_bd h hmn
  have ho : tkOK s r l t 0 m = true := by
    unfold tkOK
    rw [lvV_t h hmn]
    exact inR_t (Int.le_refl _) hb.1
  refine ⟨ho, ?_⟩
  have h5 := tk_next ho
  rw [lvV_t h5 (inR_t hm2.2 n2), ← hv, lvV_t h hn, lvV_t h hmn]
  unfold lvN
  have e : r * (now - t) = r * (m - t) + r * (now - m) := by rw [← Int.mul_add]; congr 1; omega
  have e2 : 0 ≤ r * (now - m) := Int.mul_nonneg (by omega) (by omega)
  rw [e]
  omega
theorem tk_parts {s r l t x now k : Int} (h : tkOK s r l t x now = true) (hk : k = x.tdiv 2) :
    tkOK s r l t k now = true ∧ tkOK s r (lvV s r l t now - k) now (x - k) now = true ∧ lvV s r (lvV s r l t now - k) now now - (x - k) = lvV s r l t now - x := by
  obtain ⟨o1, o2, o3, o4, o5⟩ := tkOK_in h
  have hk2 : 0 ≤ k ∧ k ≤ x := by
    subst hk
    rw [Int.tdiv_eq_ediv_of_nonneg o4]
    omega
  have h1 : tkOK s r l t k now = true := by
    unfold tkOK
    rw [o3]
    exact inR_t hk2.1 (by omega)
  have h2 := tk_next h1
  have h3 := lv_last h2
  refine ⟨h1, ?_, ?_⟩
  · unfold tkOK
    rw [h3, o3]
    exact inR_t (by omega) (by omega)
  · rw [h3]; omega
theorem rd_at {s r l t x n : Int} (hb : bkV s r l t = true) (hx : inR x 0 s = true) (hn : rdV s r l t x = n) : t ≤ n ∧ n ≤ 1300 ∧
    (n ≤ 1000 → inR n t 1000 = true ∧ x ≤ lvV s r l t n ∧ (n ≠ t → inR (n - 1) t 1000 = true ∧ lvV s r l t (n - 1) < x)) := by
  obtain ⟨h1, h2, h3, h4⟩ := bkV_in hb
  obtain ⟨x0, x1⟩ := inR_iff.1 hx
  simp only [rdV, hb, hx, Bool.and_self, if_true] at hn
  obtain ⟨m, hm⟩ : ∃ m, max (x - l) 0 = m := ⟨_, rfl⟩
  rw [hm, Int.tdiv_eq_ediv_of_nonneg (by omega)] at hn
  obtain ⟨q, hq⟩ : ∃ q, (m + r - 1) / r = q := ⟨_, rfl⟩
  rw [hq] at hn
  have e1 : q * r ≤ m + r - 1 := by rw [← hq]; exact Int.ediv_mul_le _ (by omega)
  have e2 : m + r - 1 < (q + 1) * r := by rw [← hq]; exact Int.lt_ediv_add_one_mul_self _ (by omega)
  rw [Int.add_mul, Int.one_mul] at e2
  have q0 : 0 ≤ q := by rw [← hq]; exact Int.ediv_nonneg (by omega) (by omega)
  have q1 : q ≤ m + r - 1 := by rw [← hq]; exact Int.ediv_le_self _ (by omega)
  subst hn
  refine ⟨by omega, by omega, fun hle => ?_⟩
  have hin : inR (t + q) t 1000 = true := inR_t (by omega) hle
  refine ⟨hin, ?_, fun hne => ?_⟩
  · rw [lvV_t hb hin]
    unfold lvN
    rw [show t + q - t = q by omega, Int.mul_comm]
    omega
  · have hin2 : inR (t + q - 1) t 1000 = true := inR_t (by omega) (by omega)
    refine ⟨hin2, ?_⟩
    rw [lvV_t hb hin2]
    unfold lvN
    rw [show t + q - 1 - t = q - 1 by omega, Int.mul_comm, Int.sub_mul, Int.one_mul]
    have : m ≠ 0 := by
      intro h0
      have : q = 0 := by
        rw [← hq, h0]
        exact Int.ediv_eq_zero_of_lt (by omega) (by omega)
      omega
    omega
theorem rd_more {s r l t x : Int} (hb : bkV s r l t = true) (hx : inR x 0 s = true) (hxs : x ≠ s) : inR (x + 1) 0 s = true ∧ rdV s r l t x ≤ rdV s r l t (x + 1) ∧ rdV s r l t (x + 1) ≤ 1300 ∧ inR l 0 s = true ∧ rdV s r l t l = t := by
  obtain ⟨h1, h2, h3, h4⟩ := bkV_in hb
  obtain ⟨x0, x1⟩ := inR_iff.1 hx
  have hx2 : inR (x + 1) 0 s = true := inR_t (by omega) (by omega)
  have hl2 : inR l 0 s = true := inR_t h3.1 h3.2
  refine ⟨hx2, ?_, (rd_at hb hx2 rfl).2.1, hl2, ?_⟩
  · simp only [rdV, hb, hx, hx2, Bool.and_self, if_true]
    rw [Int.tdiv_eq_ediv_of_nonneg (by omega), Int.tdiv_eq_ediv_of_nonneg (by omega)]
    have := Int.ediv_le_ediv (show (0 : Int) < r by omega) (show max (x - l) 0 + r - 1 ≤ max (x + 1 - l) 0 + r - 1 by omega)
    omega
  · simp only [rdV, hb, hl2, Bool.and_self, if_true]
    rw [Int.sub_self, Int.tdiv_eq_ediv_of_nonneg (by omega)]
    have : (max (0 : Int) 0 + r - 1) / r = 0 := Int.ediv_eq_zero_of_lt (by omega) (by omega)
    omega
/-- What has passed so far. -/
def paS (s r l t : Int) (xs ys : List Int) : Nat → Int
  | 0 => 0
  | k + 1 => paS s r l t xs ys k + toI (paB s r l t xs ys k) * xs.getD k 0
theorem paS_bd {s r l t : Int} {xs ys : List Int} (h : paOK s r l t xs ys = true) : ∀ k, k ≤ xs.length → 0 ≤ paS s r l t xs ys k ∧ paS s r l t xs ys k ≤ 20 * (k : Int) := by
  obtain ⟨hb, hl, h12, hx, hy, ha⟩ := paOK_in h
  intro k
  induction k with
  | zero => intro _; simp [paS]
  | succ k ih =>
    intro hk
    have h1 := ih (by omega)
    have h2 := allR_getD hx (show k < xs.length by omega)
    simp only [paS]
    rcases paB s r l t xs ys k with _ | _
    · simp only [toI, Bool.false_eq_true, if_false, Int.zero_mul]; omega
    · simp only [toI, if_true, Int.one_mul]; omega
theorem paS_inv {s r l t : Int} {xs ys : List Int} (h : paOK s r l t xs ys = true) : ∀ k, k ≤ xs.length → paS s r l t xs ys k + (paP s r l t xs ys k).1 ≤ l + r * ((paP s r l t xs ys k).2 - t) := by
  intro k
  induction k with
  | zero => intro _; simp [paS, paP]
  | succ k ih =>
    intro hk
    have h1 := ih (by omega)
    have h2 := paP_ok h k (by omega)
    simp only [paS]
    rcases hb : paB s r l t xs ys k with _ | _
    · rw [paP_no hb]
      simp [toI]
      exact h1
    · rw [paP_yes hb]
      simp only [toI, if_true, Int.one_mul]
      have h3 := lvV_t h2.1 (paP_in h (show k < xs.length by omega))
      rw [h3]
      unfold lvN
      have h4 := bkV_in h2.1
      generalize (paP s r l t xs ys k).1 = L at *
      generalize (paP s r l t xs ys k).2 = T at *
      generalize ys.getD k 0 = y at *
      have e : r * (y - t) = r * (y - T) + r * (T - t) := by rw [← Int.mul_add]; congr 1; omega
      rw [e]
      omega
theorem paS_le {s r l t : Int} {xs ys : List Int} (h : paOK s r l t xs ys = true) {k : Nat} (hk : k < xs.length) : paS s r l t xs ys (k + 1) ≤ l + r * (ys.getD k 0 - t) := by
  have h1 := paS_inv h (k + 1) (by omega)
  obtain ⟨p1, p2, p3⟩ := paP_ok h (k + 1) (by omega)
  have h2 := bkV_in p1
  rcases hb : paB s r l t xs ys k with _ | _
  · have h3 := paP_ok h k (by omega)
    have e : (paP s r l t xs ys (k + 1)).2 = (paP s r l t xs ys k).2 := by rw [paP_no hb]
    have h4 := h3.2.2 k (Nat.le_refl _) hk
    rw [e] at h1
    have := Int.mul_le_mul_of_nonneg_left (show (paP s r l t xs ys k).2 - t ≤ ys.getD k 0 - t by omega) (show (0 : Int) ≤ r by omega)
    omega
  · have e : (paP s r l t xs ys (k + 1)).2 = ys.getD k 0 := by rw [paP_yes hb]
    rw [e] at h1
    omega
theorem allR_drop1 {xs : List Int} {lo hi : Int} (h : allR xs lo hi = true) : allR (xs.drop 1) lo hi = true := by
  unfold allR at *
  rw [List.all_eq_true] at *
  exact fun x hx => h x (List.mem_of_mem_drop hx)
theorem getD_drop1 (xs : List Int) (k : Nat) : (xs.drop 1).getD k 0 = xs.getD (k + 1) 0 := by
  rw [List.getD_eq_getElem?_getD, List.getD_eq_getElem?_getD, List.getElem?_drop, Nat.add_comm]
theorem pa_shift {s r l t l1 t1 : Int} {xs ys : List Int} (h : paP s r l t xs ys 1 = (l1, t1)) : ∀ k, paP s r l1 t1 (xs.drop 1) (ys.drop 1) k = paP s r l t xs ys (k + 1) := by
  intro k
  induction k with
  | zero => rw [h]; rfl
  | succ k ih =>
    rw [paP, ih, getD_drop1, getD_drop1]
    rfl
theorem paN_shift {s r l t l1 t1 : Int} {xs ys : List Int} (h : paP s r l t xs ys 1 = (l1, t1)) (n : Nat) : paN s r l1 t1 (xs.drop 1) (ys.drop 1) n = (paN s r l t xs ys (n + 1)).drop 1 := by
  apply List.ext_getElem?
  intro i
  rw [List.getElem?_drop]
  simp only [paN, List.getElem?_map]
  by_cases hi : i < n
  · rw [List.getElem?_range hi, List.getElem?_range (by omega)]
    simp only [Option.map_some, Option.some.injEq]
    unfold paB
    rw [pa_shift h, getD_drop1, getD_drop1, Nat.add_comm 1 i]
  · rw [List.getElem?_eq_none (by simp; omega), List.getElem?_eq_none (by simp; omega)]
    rfl
theorem pa_tail {s r l t l1 t1 : Int} {xs ys : List Int} (h : paOK s r l t xs ys = true) (hn : 0 < xs.length) (h1 : paP s r l t xs ys 1 = (l1, t1)) : paL s r l1 t1 (xs.drop 1) (ys.drop 1) = (paL s r l t xs ys).drop 1 := by
  obtain ⟨hb, hl, h12, hx, hy, ha⟩ := paOK_in h
  obtain ⟨p1, p2, p3⟩ := paP_ok h 1 (by omega)
  rw [h1] at p1 p2 p3
  have hk : paOK s r l1 t1 (xs.drop 1) (ys.drop 1) = true := by
    have e1 : (xs.drop 1).length = (ys.drop 1).length := by simp; omega
    have e2 : (xs.drop 1).length ≤ 12 := by simp; omega
    have e3 : allR (ys.drop 1) t1 1000 = true := by
      unfold allR
      rw [List.all_eq_true]
      intro x hx
      obtain ⟨i, hi, rfl⟩ := List.getElem_of_mem hx
      have h4 := allR_getD (allR_drop1 hy) hi
      have h5 := p3 (i + 1) (by omega) (by simp at hi; omega)
      have e : (ys.drop 1).getD i 0 = (ys.drop 1)[i] := by rw [List.getD_eq_getElem?_getD, List.getElem?_eq_getElem hi]; rfl
      rw [← getD_drop1, e] at h5
      rw [e] at h4
      exact inR_t h5 h4.2
    have e4 : ascB (ys.drop 1) = true := asc_iff.2 fun i hi => by
      rw [getD_drop1, getD_drop1]
      exact asc_iff.1 ha (i + 1) (by simp at hi; omega)
    simp only [paOK, p1, allR_drop1 hx, e3, e4, decide_eq_true e1, decide_eq_true e2, Bool.and_self]
  rw [paL_t hk, paL_t h, paN_shift h1]
  congr 1
  congr 1
  simp; omega
theorem pa_one {s r l t : Int} {xs ys : List Int} (h : paOK s r l t xs ys = true) (hn : 0 < xs.length) : paL s r l t (xs.take 1) (ys.take 1) = [toI (paB s r l t xs ys 0)] := by
  obtain ⟨hb, hl, h12, hx, hy, ha⟩ := paOK_in h
  have e1 : (xs.take 1).length = 1 := by simp; omega
  have e2 : (ys.take 1).length = 1 := by simp; omega
  have e3 : allR (xs.take 1) 1 20 = true := by
    unfold allR at *
    rw [List.all_eq_true] at *
    exact fun x hx' => hx x (List.mem_of_mem_take hx')
  have e4 : allR (ys.take 1) t 1000 = true := by
    unfold allR at *
    rw [List.all_eq_true] at *
    exact fun x hx' => hy x (List.mem_of_mem_take hx')
  have e5 : ascB (ys.take 1) = true := asc_iff.2 fun i hi => by omega
  have hk : paOK s r l t (xs.take 1) (ys.take 1) = true := by
    have d1 : (xs.take 1).length = (ys.take 1).length := by omega
    have d2 : (xs.take 1).length ≤ 12 := by omega
    simp only [paOK, hb, e3, e4, e5, decide_eq_true d1, decide_eq_true d2, Bool.and_self]
  rw [paL_t hk, e1]
  simp only [paN, List.range_one, List.map_cons, List.map_nil]
  unfold paB
  have g1 : (xs.take 1).getD 0 0 = xs.getD 0 0 := by rw [List.getD_eq_getElem?_getD, List.getD_eq_getElem?_getD, List.getElem?_take_of_lt (by omega)]
  have g2 : (ys.take 1).getD 0 0 = ys.getD 0 0 := by rw [List.getD_eq_getElem?_getD, List.getD_eq_getElem?_getD, List.getElem?_take_of_lt (by omega)]
  rw [g1, g2]
  rfl
end Go.Proofs.Ytokajigaicdffaa
