/-
  Facts of budgets: no program.
-/
import Derived.Test.YtcbphifadokfeaaBudC
namespace Go.Proofs.Ytcbphifadokfeaa
open Go.RowKit

theorem valid3_iff {t a b c x y z : Int} : validB t [a, b, c] [x, y, z] = true ↔
    (0 ≤ t ∧ t ≤ 200) ∧ ((0 ≤ a ∧ a ≤ 200) ∧ (0 ≤ b ∧ b ≤ 200) ∧ (0 ≤ c ∧ c ≤ 200)) ∧ ((0 ≤ x ∧ x ≤ 200) ∧ (0 ≤ y ∧ y ≤ 200) ∧ (0 ≤ z ∧ z ≤ 200)) ∧ max 0 (x - a) + (max 0 (y - b) + max 0 (z - c)) ≤ t - (a + (b + c)) := by
  rw [validB_iff, cnt_iff, cnt_iff]
  simp [allR, inR_iff, shL]
theorem valid3 {t : Int} {ks us : List Int} (h : validB t ks us = true) : ∃ a b c x y z, ks = [a, b, c] ∧ us = [x, y, z] := by
  obtain ⟨h1, h2⟩ := validB_len h
  rcases ks with _ | ⟨a, _ | ⟨b, _ | ⟨c, _ | _⟩⟩⟩ <;> simp at h1
  rcases us with _ | ⟨x, _ | ⟨y, _ | ⟨z, _ | _⟩⟩⟩ <;> simp at h2
  exact ⟨a, b, c, x, y, z, rfl, rfl⟩
theorem cls3 {cl : Int} (h : inR cl 0 2 = true) : cl = 0 ∨ cl = 1 ∨ cl = 2 := by
  have := inR_iff.1 h
  omega
theorem room3 {t a b c x y z : Int} : roomL t [a, b, c] [x, y, z] 0 = max 0 (a - x) + (t - (a + (b + c)) - (max 0 (x - a) + (max 0 (y - b) + max 0 (z - c)))) ∧
    roomL t [a, b, c] [x, y, z] 1 = max 0 (b - y) + (t - (a + (b + c)) - (max 0 (x - a) + (max 0 (y - b) + max 0 (z - c)))) ∧
    roomL t [a, b, c] [x, y, z] 2 = max 0 (c - z) + (t - (a + (b + c)) - (max 0 (x - a) + (max 0 (y - b) + max 0 (z - c)))) := by
  simp [roomL, shL]
theorem add3 {x y z s : Int} : addL [x, y, z] 0 s = [x + s, y, z] ∧ addL [x, y, z] 1 s = [x, y + s, z] ∧ addL [x, y, z] 2 s = [x, y, z + s] := by
  simp [addL]
/-- Credit can be taken just if the budget behind it is valid. -/
theorem tc_valid {t : Int} {ks us : List Int} {cl s : Int} (h : validB t ks us = true) (hc : inR cl 0 2 = true) (hs : 0 ≤ s) : (s ≤ roomL t ks us cl ↔ validB t ks (addL us cl s) = true) := by
  obtain ⟨a, b, c, x, y, z, rfl, rfl⟩ := valid3 h
  have hv := valid3_iff.1 h
  obtain ⟨r0, r1, r2⟩ := @room3 t a b c x y z
  obtain ⟨a0, a1, a2⟩ := @add3 x y z s
  rcases cls3 hc with rfl | rfl | rfl
  · rw [r0, a0, valid3_iff]; omega
  · rw [r1, a1, valid3_iff]; omega
  · rw [r2, a2, valid3_iff]; omega
theorem tcOK_valid {t : Int} {ks us : List Int} {cl s : Int} (h : validB t ks us = true) (hc : inR cl 0 2 = true) (hs : 0 ≤ s) : (tcOK t ks us cl s = true ↔ validB t ks (addL us cl s) = true) := by
  rw [← tc_valid h hc hs, tcOK_iff]
  have := roomL_bd h hc
  constructor
  · exact fun h => h.2.2.2
  · exact fun h' => ⟨h, hc, ⟨hs, by omega⟩, h'⟩
theorem tc_parts {t : Int} {ks us : List Int} {cl s : Int} (h : tcOK t ks us cl s = true) : validB t ks us = true ∧ inR cl 0 2 = true ∧ 0 ≤ s ∧ s ≤ 200 ∧ validB t ks (addL us cl s) = true := by
  obtain ⟨h1, h2, h3, h4⟩ := tcOK_iff.1 h
  exact ⟨h1, h2, h3.1, h3.2, (tc_valid h1 h2 h3.1).1 h4⟩
theorem getD_addL {t : Int} {ks us : List Int} {cl s : Int} (h : validB t ks us = true) (hc : inR cl 0 2 = true) : (addL us cl s).getD cl.toNat 0 = us.getD cl.toNat 0 + s := by
  obtain ⟨a, b, c, x, y, z, rfl, rfl⟩ := valid3 h
  obtain ⟨a0, a1, a2⟩ := @add3 x y z s
  rcases cls3 hc with rfl | rfl | rfl
  · rw [a0]; simp
  · rw [a1]; simp
  · rw [a2]; simp
theorem addL_addL {t : Int} {ks us : List Int} {cl s u : Int} (h : validB t ks us = true) (hc : inR cl 0 2 = true) : addL (addL us cl s) cl u = addL us cl (s + u) := by
  obtain ⟨a, b, c, x, y, z, rfl, rfl⟩ := valid3 h
  rcases cls3 hc with rfl | rfl | rfl
  · rw [add3.1, add3.1, add3.1]; simp; omega
  · rw [add3.2.1, add3.2.1, add3.2.1]; simp; omega
  · rw [add3.2.2, add3.2.2, add3.2.2]; simp; omega
theorem addL_zero {t : Int} {ks us : List Int} {cl : Int} (h : validB t ks us = true) (hc : inR cl 0 2 = true) : addL us cl 0 = us := by
  obtain ⟨a, b, c, x, y, z, rfl, rfl⟩ := valid3 h
  rcases cls3 hc with rfl | rfl | rfl
  · rw [add3.1]; simp
  · rw [add3.2.1]; simp
  · rw [add3.2.2]; simp
theorem sum_addL {t : Int} {ks us : List Int} {cl s : Int} (h : validB t ks us = true) (hc : inR cl 0 2 = true) : (addL us cl s).sum = us.sum + s := by
  obtain ⟨a, b, c, x, y, z, rfl, rfl⟩ := valid3 h
  rcases cls3 hc with rfl | rfl | rfl
  · rw [add3.1]; simp; omega
  · rw [add3.2.1]; simp; omega
  · rw [add3.2.2]; simp; omega
theorem gc_parts {t : Int} {ks us : List Int} {cl s : Int} (h : gcOK t ks us cl s = true) : validB t ks us = true ∧ inR cl 0 2 = true ∧ 0 ≤ s ∧ s ≤ 200 ∧ s ≤ us.getD cl.toNat 0 ∧ validB t ks (addL us cl (-s)) = true := by
  obtain ⟨h1, h2, h3, h4⟩ := gcOK_iff.1 h
  refine ⟨h1, h2, h3.1, h3.2, h4, ?_⟩
  obtain ⟨a, b, c, x, y, z, rfl, rfl⟩ := valid3 h1
  have hv := valid3_iff.1 h1
  rcases cls3 h2 with rfl | rfl | rfl
  · rw [add3.1, valid3_iff]; simp at h4; omega
  · rw [add3.2.1, valid3_iff]; simp at h4; omega
  · rw [add3.2.2, valid3_iff]; simp at h4; omega
end Go.Proofs.Ytcbphifadokfeaa
