/-
  Parts of a slice of triples.
-/
import Derived.Test.YtleoncjdhlomaaaTri
namespace Go.Proofs.Ytleoncjdhlomaaa
open Go.RowKit
theorem TS.cut {w : World} {b off n c : Nat} {xs : List Tr} (h : TS w (some ⟨b, off, none⟩) n c xs) {lo hi : Nat} (h1 : lo ≤ hi) (h2 : hi ≤ n) :
    TS w (some ⟨b, off + lo * 3, none⟩) (hi - lo) (c - lo) ((xs.take hi).drop lo) := by
  obtain ⟨hl, hnc, hm, hc, _⟩ := h
  refine ⟨by rw [List.length_drop, List.length_take]; omega, by omega, by simp only [maxLen] at hm ⊢; omega, fun hn => ⟨b, off + lo * 3, rfl, fun j x hj => ?_⟩, fun h => by cases h⟩
  obtain ⟨b', off', e, hc'⟩ := hc (by omega)
  simp only [Option.some.injEq, Addr.mk.injEq, and_true] at e
  obtain ⟨rfl, rfl⟩ := e
  have hlt : j < hi - lo := by
    have := (List.getElem?_eq_some_iff.1 hj).1
    rw [List.length_drop, List.length_take] at this
    omega
  rw [List.getElem?_drop, List.getElem?_take, if_pos (by omega)] at hj
  have e3 : off + lo * 3 + j * 3 = off + (lo + j) * 3 := by omega
  rw [e3]
  exact hc' _ _ hj
theorem TS.empty (w : World) (A : Option Addr) {c : Nat} (hc : c ≤ maxLen) (h : A = none → c = 0) : TS w A 0 c [] := ⟨rfl, Nat.zero_le _, hc, fun h => absurd h (by omega), h⟩
/-- The rest of a slice behind a place: the address stays where no room is behind it. -/
theorem TS.rest {w : World} {b off n c K : Nat} {xs : List Tr} (h : TS w (some ⟨b, off, none⟩) n c xs) (hK : K ≤ n) :
    TS w (if c = K then some ⟨b, off, none⟩ else some ⟨b, off + K * 3, none⟩) (n - K) (c - K) (xs.drop K) := by
  by_cases e : c = K
  · rw [if_pos e]
    have h1 := h.2.1
    have h2 := h.len
    have e1 : n - K = 0 := by omega
    have e2 : c - K = 0 := by omega
    rw [e1, e2, List.drop_of_length_le (by omega)]
    exact TS.empty w _ (Nat.zero_le _) (fun h => by cases h)
  · rw [if_neg e]
    have h1 := h.cut (lo := K) (hi := n) hK (Nat.le_refl _)
    rw [List.take_of_length_le (by have := h.len; omega)] at h1
    exact h1
end Go.Proofs.Ytleoncjdhlomaaa
