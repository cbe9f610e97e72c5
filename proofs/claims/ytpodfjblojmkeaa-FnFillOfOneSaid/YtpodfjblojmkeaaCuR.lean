/-
  Mathematics of the laws on how full batches are.
-/
import Derived.Test.YtpodfjblojmkeaaCuP
namespace Go.Proofs.Ytpodfjblojmkeaa

theorem sum_full {a : Int} : ∀ (l : List Int), (∀ s ∈ l, s ≤ a) → l.sum ≤ l.length * a ∧ (l.sum = l.length * a ↔ ∀ s ∈ l, s = a)
  | [], _ => by simp
  | x :: l, h => by
    obtain ⟨h1, h2⟩ := sum_full l (fun s hs => h s (List.mem_cons_of_mem _ hs))
    have hx := h x List.mem_cons_self
    have e : ((x :: l).length : Int) * a = (l.length : Int) * a + a := by
      rw [List.length_cons, Int.natCast_add, Int.add_mul]
      simp
    rw [e, List.sum_cons]
    refine ⟨by omega, ?_⟩
    constructor
    · intro hs s hm
      have hl : l.sum = l.length * a := by omega
      rcases List.mem_cons.1 hm with rfl | hm
      · omega
      · exact h2.1 hl s hm
    · intro hs
      have := h2.2 (fun s hm => hs s (List.mem_cons_of_mem _ hm))
      have hx2 := hs x List.mem_cons_self
      omega
theorem fill_law {xs : List Int} {a m : Int} (h : cutOK xs a m = true) : fillV xs a m ≤ 100 ∧ 0 ≤ fillV xs a m ∧ (fillV xs a m = 100 ↔ ∀ s ∈ bsV xs a m, s = a) := by
  obtain ⟨h12, hr, hb, hm⟩ := cut_in h
  obtain ⟨hb0, hb1⟩ := inR_iff.1 hb
  obtain ⟨hm0, hm1⟩ := inR_iff.1 hm
  by_cases h0 : xs = []
  · subst h0
    rw [fill_nil h]
    simp [bsV, bbV, h, BB_nil, sumL2]
  have hp := bbV_pos h h0
  rw [fill_yes h h0]
  have hall : allR (bsV xs a m) 1 a = true := by
    have e : bsV xs a m = sumL2 (BB a m.toNat xs) := by simp [bsV, bbV, h]
    rw [e]
    exact bs_all hb0 (by omega) hr
  have hsum : (bsV xs a m).sum = xs.sum := by
    have e : bsV xs a m = sumL2 (BB a m.toNat xs) := by simp [bsV, bbV, h]
    rw [e]
    exact bs_sum hb0 (by omega) hr
  have hlen : (bsV xs a m).length = (bbV xs a m).length := by simp [bsV, sumL2]
  obtain ⟨s1, s2⟩ := sum_full (bsV xs a m) (fun s hs => by
    unfold allR at hall
    exact (inR_iff.1 (List.all_eq_true.1 hall s hs)).2)
  rw [hsum, hlen] at s1 s2
  have s0 := (sum_bd xs hr).1
  have hD : 0 < ((bbV xs a m).length : Int) * a := Int.mul_pos (by omega) (by omega)
  generalize ((bbV xs a m).length : Int) * a = Dn at *
  have e1 : 100 * xs.sum / Dn ≤ 100 := by
    have := Int.ediv_le_ediv hD (show 100 * xs.sum ≤ 100 * Dn by omega)
    rwa [Int.mul_ediv_cancel _ (by omega)] at this
  refine ⟨e1, Int.ediv_nonneg (by omega) (by omega), ?_⟩
  rw [← s2]
  constructor
  · intro he
    have := Int.ediv_mul_le (100 * xs.sum) (show Dn ≠ 0 by omega)
    rw [he] at this
    omega
  · intro he
    rw [he, Int.mul_ediv_cancel _ (by omega)]
theorem fill_one {x a m : Int} {xs : List Int} (h : cutOK (x :: xs) a m = true) : fillV [x] a m = 100 * x / a := by
  obtain ⟨h12, hr, hb, hm⟩ := cut_in h
  obtain ⟨hb0, hb1⟩ := inR_iff.1 hb
  obtain ⟨hm0, hm1⟩ := inR_iff.1 hm
  have hr1 : allR [x] 1 20 = true := by
    have := (allR_cons' hr).1
    simp [allR, inR_iff]
    omega
  have hok : cutOK [x] a m = true := by simp [cutOK, hr1, hb, hm]
  rw [fill_yes hok (by simp)]
  have hl : (bbV [x] a m).length = 1 := by
    have h1 := bbV_pos hok (by simp)
    have h2 := BB_len (bytes := a) (m := m.toNat) hb0 (by omega) hr1
    have e : bbV [x] a m = BB a m.toNat [x] := by simp [bbV, hok]
    rw [e] at h1 ⊢
    simp at h2
    omega
  rw [hl]
  simp
theorem all_snoc {xs : List Int} {k : Nat} {v a : Int} (h : xs[k]? = some v) : (xs.take (k + 1)).all (fun s => decide (s = a)) = ((xs.take k).all (fun s => decide (s = a)) && decide (v = a)) := by
  have hk : k < xs.length := (List.getElem?_eq_some_iff.1 h).1
  have hx : xs[k] = v := (List.getElem?_eq_some_iff.1 h).2
  rw [List.take_succ_eq_append_getElem hk, List.all_append, hx]
  simp
end Go.Proofs.Ytpodfjblojmkeaa
