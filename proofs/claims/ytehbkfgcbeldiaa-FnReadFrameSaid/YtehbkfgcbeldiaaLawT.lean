/-
  A frame that reads is the frame of what it reads.
-/
import Derived.Test.YtehbkfgcbeldiaaRead
namespace Go.Proofs.Ytehbkfgcbeldiaa
open Go.RowKit
theorem rOK_take {bs : List Int} (h : rOK bs = true) :
    bs.take (rn bs + 1) = frameL (rC bs) (rK bs) (rX bs) ∧ rn bs + 1 ≤ bs.length ∧ validI (rC bs) (rK bs) (rX bs) = true := by
  obtain ⟨e1, e2, e3, _⟩ := r_t h
  simp only [rOK, Bool.and_eq_true, decide_eq_true_eq] at h
  obtain ⟨⟨⟨h1, h2, h3, h4⟩, h5⟩, h6⟩ := h
  refine ⟨?_, h4, by rw [e1, e2, e3]; exact h5⟩
  rw [e1, e2, e3]
  have hal : allR bs 0 255 = true := by simp [okB] at h1; exact h1.2
  rcases bs with _ | ⟨b0, _ | ⟨b1, _ | ⟨b2, _ | ⟨b3, t⟩⟩⟩⟩
  · simp at h2
  · simp at h2
  · simp at h2
  · simp at h2
  have hb1 : 0 ≤ b1 := (allR_at (k := 1) (v := b1) rfl hal).1
  obtain ⟨m, rfl⟩ := Int.eq_ofNat_of_zero_le hb1
  have hrn : rn (b0 :: (m : Int) :: b2 :: b3 :: t) = 4 + m := by simp [rn]
  have h0 : b0 = 165 := by simpa using h3
  subst h0
  rw [hrn] at h4 h6 ⊢
  have hm : m < t.length := by simp at h4; omega
  have e5 : rBody (165 :: (m : Int) :: b2 :: b3 :: t) = t.take m := by
    unfold rBody
    rw [hrn, show 4 + m = m + 4 by omega]
    simp
  have e6 : ((165 :: (m : Int) :: b2 :: b3 :: t).take (4 + m)).drop 1 = (m : Int) :: b2 :: b3 :: t.take m := by
    rw [show 4 + m = m + 4 by omega]
    simp
  have e7 : (165 :: (m : Int) :: b2 :: b3 :: t).getD (4 + m) 0 = t[m] := by
    rw [show 4 + m = m + 4 by omega]
    simp [List.getD_eq_getElem?_getD, List.getElem?_eq_getElem hm]
  have e8 : bodyL b2 b3 (t.take m) = (m : Int) :: b2 :: b3 :: t.take m := by
    have : min m t.length = m := by omega
    simp [bodyL, this]
  rw [e6, e7] at h6
  rw [e5, show 4 + m + 1 = (m + 1) + 4 by omega]
  show List.take (m + 1 + 4) _ = (165 :: bodyL b2 b3 (t.take m)) ++ [chk (bodyL b2 b3 (t.take m))]
  rw [e8, h6, List.take_succ_cons, List.take_succ_cons, List.take_succ_cons, List.take_succ_cons, List.take_succ_eq_append_getElem hm]
  rfl
end Go.Proofs.Ytehbkfgcbeldiaa
