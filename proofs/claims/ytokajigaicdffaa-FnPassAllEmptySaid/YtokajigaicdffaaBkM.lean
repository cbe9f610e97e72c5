/-
  Mathematics of buckets.
-/
import Derived.Test.YtokajigaicdffaaOwn
import Derived.Test.YtokajigaicdffaaFlM
import Derived.KernelRfl
namespace Go.Proofs.Ytokajigaicdffaa
open Go.RowKit

def bkV (s r l t : Int) : Bool := inR s 1 200 && inR r 1 20 && inR l 0 s && inR t 0 1000
theorem bkV_in {s r l t : Int} (h : bkV s r l t = true) : (1 ≤ s ∧ s ≤ 200) ∧ (1 ≤ r ∧ r ≤ 20) ∧ (0 ≤ l ∧ l ≤ s) ∧ (0 ≤ t ∧ t ≤ 1000) := by
  simpa [bkV, inR_iff, and_assoc] using h
theorem bkV_of {s r l t : Int} (h1 : 1 ≤ s ∧ s ≤ 200) (h2 : 1 ≤ r ∧ r ≤ 20) (h3 : 0 ≤ l ∧ l ≤ s) (h4 : 0 ≤ t ∧ t ≤ 1000) : bkV s r l t = true := by
  simp [bkV, inR_t h1.1 h1.2, inR_t h2.1 h2.2, inR_t h3.1 h3.2, inR_t h4.1 h4.2]
theorem mul_bd' {a b m n : Int} (h0 : 0 ≤ a) (h1 : a ≤ m) (h2 : 0 ≤ b) (h3 : b ≤ n) : 0 ≤ a * b ∧ a * b ≤ m * n :=
  ⟨Int.mul_nonneg h0 h2, Int.mul_le_mul h1 h3 h2 (by omega)⟩
def lvN (s r l t now : Int) : Int := min (l + r * (now - t)) s
def lvV (s r l t now : Int) : Int := if bkV s r l t && inR now t 1000 then lvN s r l t now else -1
theorem lvV_t {s r l t now : Int} (h : bkV s r l t = true) (hn : inR now t 1000 = true) : lvV s r l t now = lvN s r l t now := by simp [lvV, h, hn]
theorem lvV_b {s r l t now : Int} (h : bkV s r l t = false) : lvV s r l t now = -1 := by simp [lvV, h]
theorem lvV_n {s r l t now : Int} (h : inR now t 1000 = false) : lvV s r l t now = -1 := by simp [lvV, h]
theorem fill_bd {s r l t now : Int} (h : bkV s r l t = true) (hn : inR now t 1000 = true) : 0 ≤ r * (now - t) ∧ r * (now - t) ≤ 20000 := by
  obtain ⟨h1, h2, h3, h4⟩ := bkV_in h
  obtain ⟨n1, n2⟩ := inR_iff.1 hn
  have := mul_bd' (a := r) (b := now - t) (m := 20) (n := 1000) (by omega) (by omega) (by omega) (by omega)
  omega
theorem lvN_bd {s r l t now : Int} (h : bkV s r l t = true) (hn : inR now t 1000 = true) : 0 ≤ lvN s r l t now ∧ lvN s r l t now ≤ s := by
  have h1 := fill_bd h hn
  obtain ⟨h2, h3, h4, h5⟩ := bkV_in h
  unfold lvN
  omega
theorem lvV_bd (s r l t now : Int) : -1 ≤ lvV s r l t now ∧ lvV s r l t now ≤ 200 := by
  rcases h : bkV s r l t with _ | _
  · rw [lvV_b h]; omega
  rcases hn : inR now t 1000 with _ | _
  · rw [lvV_n hn]; omega
  have h1 := lvN_bd h hn
  have h2 := bkV_in h
  rw [lvV_t h hn]; omega
/-- Whether something can be taken, and what is left. -/
def tkOK (s r l t x now : Int) : Bool := inR x 0 (lvV s r l t now)
theorem tkOK_in {s r l t x now : Int} (h : tkOK s r l t x now = true) : bkV s r l t = true ∧ inR now t 1000 = true ∧ lvV s r l t now = lvN s r l t now ∧ 0 ≤ x ∧ x ≤ lvN s r l t now := by
  have h1 := inR_iff.1 h
  rcases hb : bkV s r l t with _ | _
  · rw [lvV_b hb] at h1; omega
  rcases hn : inR now t 1000 with _ | _
  · rw [lvV_n hn] at h1; omega
  rw [lvV_t hb hn] at h1
  exact ⟨rfl, rfl, lvV_t hb hn, h1.1, h1.2⟩
def tkS (s r l t x now : Int) : Int := if tkOK s r l t x now then s else 0
def tkR (s r l t x now : Int) : Int := if tkOK s r l t x now then r else 0
def tkL (s r l t x now : Int) : Int := if tkOK s r l t x now then lvV s r l t now - x else 0
def tkT (s r l t x now : Int) : Int := if tkOK s r l t x now then now else 0
def rdV (s r l t x : Int) : Int := if bkV s r l t && inR x 0 s then t + (max (x - l) 0 + r - 1).tdiv r else -1
theorem tdiv_bd {a b m : Int} (h0 : 0 ≤ a) (h1 : a ≤ m) (hb : 1 ≤ b) : 0 ≤ a.tdiv b ∧ a.tdiv b ≤ m := by
  rw [Int.tdiv_eq_ediv_of_nonneg h0]
  refine ⟨Int.ediv_nonneg h0 (by omega), ?_⟩
  have := Int.ediv_le_self b h0
  omega
/-- What passes, one after the other. -/
def paP (s r l t : Int) (xs ys : List Int) : Nat → Int × Int
  | 0 => (l, t)
  | k + 1 => if tkOK s r (paP s r l t xs ys k).1 (paP s r l t xs ys k).2 (xs.getD k 0) (ys.getD k 0) then (lvV s r (paP s r l t xs ys k).1 (paP s r l t xs ys k).2 (ys.getD k 0) - xs.getD k 0, ys.getD k 0) else paP s r l t xs ys k
def paB (s r l t : Int) (xs ys : List Int) (k : Nat) : Bool := tkOK s r (paP s r l t xs ys k).1 (paP s r l t xs ys k).2 (xs.getD k 0) (ys.getD k 0)
def toI (b : Bool) : Int := if b then 1 else 0
def paN (s r l t : Int) (xs ys : List Int) (n : Nat) : List Int := (List.range n).map fun k => toI (paB s r l t xs ys k)
theorem paN_len (s r l t : Int) (xs ys : List Int) (n : Nat) : (paN s r l t xs ys n).length = n := by simp [paN]
theorem paN_succ (s r l t : Int) (xs ys : List Int) (n : Nat) : paN s r l t xs ys (n + 1) = paN s r l t xs ys n ++ [toI (paB s r l t xs ys n)] := by
  simp [paN, List.range_succ]
def paOK (s r l t : Int) (xs ys : List Int) : Bool := bkV s r l t && decide (xs.length = ys.length) && decide (xs.length ≤ 12) && allR xs 1 20 && allR ys t 1000 && ascB ys
def paL (s r l t : Int) (xs ys : List Int) : List Int := if paOK s r l t xs ys then paN s r l t xs ys xs.length else []
theorem paOK_in {s r l t : Int} {xs ys : List Int} (h : paOK s r l t xs ys = true) : bkV s r l t = true ∧ xs.length = ys.length ∧ xs.length ≤ 12 ∧ allR xs 1 20 = true ∧ allR ys t 1000 = true ∧ ascB ys = true := by
  simpa [paOK, and_assoc] using h
theorem paL_t {s r l t : Int} {xs ys : List Int} (h : paOK s r l t xs ys = true) : paL s r l t xs ys = paN s r l t xs ys xs.length := by simp [paL, h]
theorem paL_f {s r l t : Int} {xs ys : List Int} (h : paOK s r l t xs ys = false) : paL s r l t xs ys = [] := by simp [paL, h]
theorem paL_le (s r l t : Int) (xs ys : List Int) : (paL s r l t xs ys).length ≤ 12 := by
  rcases h : paOK s r l t xs ys with _ | _
  · simp [paL_f h]
  · rw [paL_t h, paN_len]; exact (paOK_in h).2.2.1
theorem asc_le {ys : List Int} (h : ascB ys = true) : ∀ {i j : Nat}, i ≤ j → j < ys.length → ys.getD i 0 ≤ ys.getD j 0 := by
  intro i j hij hj
  induction j with
  | zero => have : i = 0 := by omega
            subst this; exact Int.le_refl _
  | succ j ih =>
    rcases Nat.lt_or_ge i (j + 1) with h1 | h1
    · exact Int.le_trans (ih (by omega) (by omega)) (asc_iff.1 h j hj)
    · have : i = j + 1 := by omega
      subst this; exact Int.le_refl _
theorem allR_getD {xs : List Int} {lo hi : Int} {k : Nat} (h : allR xs lo hi = true) (hk : k < xs.length) : lo ≤ xs.getD k 0 ∧ xs.getD k 0 ≤ hi := by
  have e : xs[k]? = some (xs.getD k 0) := by rw [List.getD_eq_getElem?_getD, List.getElem?_eq_getElem hk]; rfl
  exact allR_at e h
/-- The bucket stays valid, and its time does not pass the next one. -/
theorem paP_ok {s r l t : Int} {xs ys : List Int} (h : paOK s r l t xs ys = true) : ∀ k, k ≤ xs.length → bkV s r (paP s r l t xs ys k).1 (paP s r l t xs ys k).2 = true ∧ t ≤ (paP s r l t xs ys k).2 ∧ (∀ j, k ≤ j → j < xs.length → (paP s r l t xs ys k).2 ≤ ys.getD j 0) := by
  obtain ⟨hb, hl, h12, hx, hy, ha⟩ := paOK_in h
  intro k
  induction k with
  | zero => exact fun _ => ⟨hb, Int.le_refl _, fun j _ hj => (allR_getD hy (by omega)).1⟩
  | succ k ih =>
    intro hk
    obtain ⟨i1, i2, i3⟩ := ih (by omega)
    simp only [paP]
    rcases ho : tkOK s r (paP s r l t xs ys k).1 (paP s r l t xs ys k).2 (xs.getD k 0) (ys.getD k 0) with _ | _
    · simp only [Bool.false_eq_true, if_false]
      exact ⟨i1, i2, fun j hj hj2 => i3 j (by omega) hj2⟩
    · simp only [if_true]
      obtain ⟨o1, o2, o3, o4, o5⟩ := tkOK_in ho
      have hyk := allR_getD hy (show k < ys.length by omega)
      have hlv := lvN_bd o1 o2
      have hb2 := bkV_in hb
      have h3 := i3 k (Nat.le_refl _) (by omega)
      rw [o3]
      refine ⟨bkV_of hb2.1 hb2.2.1 (by omega) (by omega), by omega, fun j hj hj2 => asc_le ha (by omega) (by omega)⟩
theorem paP_in {s r l t : Int} {xs ys : List Int} (h : paOK s r l t xs ys = true) {k : Nat} (hk : k < xs.length) : inR (ys.getD k 0) (paP s r l t xs ys k).2 1000 = true := by
  obtain ⟨_, _, h3⟩ := paP_ok h k (by omega)
  obtain ⟨_, hl, _, _, hy, _⟩ := paOK_in h
  exact inR_t (h3 k (Nat.le_refl _) hk) (allR_getD hy (by omega)).2
theorem paP_no {s r l t : Int} {xs ys : List Int} {k : Nat} (h : paB s r l t xs ys k = false) : paP s r l t xs ys (k + 1) = paP s r l t xs ys k := by
  unfold paB at h
  simp only [paP, h, Bool.false_eq_true, if_false]
theorem paP_yes {s r l t : Int} {xs ys : List Int} {k : Nat} (h : paB s r l t xs ys k = true) : paP s r l t xs ys (k + 1) = (lvV s r (paP s r l t xs ys k).1 (paP s r l t xs ys k).2 (ys.getD k 0) - xs.getD k 0, ys.getD k 0) := by
  unfold paB at h
  simp only [paP, h, if_true]
end Go.Proofs.Ytokajigaicdffaa
