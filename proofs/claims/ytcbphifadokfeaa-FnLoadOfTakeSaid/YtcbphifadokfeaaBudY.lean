/-
  Credit taken and given, where it can be and where not; rooms.
-/
import Derived.Test.YtcbphifadokfeaaBudM
import Derived.Test.YtcbphifadokfeaaBudD
import Derived.Test.YtcbphifadokfeaaBudE
import Derived.Test.YtcbphifadokfeaaBudF
import Derived.Test.YtcbphifadokfeaaSumL
namespace Go.Proofs.Ytcbphifadokfeaa
open Go.RowKit
theorem impl_TakeCredit_yes {A A' : Option Addr} {n c n' c' : Nat} {ks us : List Int} (t cl s : Int) (w : World) (h : IS w A n c ks) (h' : IS w A' n' c' us) (ok : tcOK t ks us cl s = true) :
    Calls Try.prog 20 #[.agg #[.int .i64 t, .slice A n c, .slice A' n' c'], .int .i64 cl, .int .i64 s] w (GaveBudB 3 w t ks (addL us cl s) true) := by
  have h := impl_TakeCredit_any t cl s w h h'
  simp only [tcT, tcK, tcU, ok, if_true] at h
  exact h
theorem impl_TakeCredit_no {A A' : Option Addr} {n c n' c' : Nat} {ks us : List Int} (t cl s : Int) (w : World) (h : IS w A n c ks) (h' : IS w A' n' c' us) (ok : tcOK t ks us cl s = false) :
    Calls Try.prog 20 #[.agg #[.int .i64 t, .slice A n c, .slice A' n' c'], .int .i64 cl, .int .i64 s] w (GaveBudB 3 w 0 [] [] false) := by
  have h := impl_TakeCredit_any t cl s w h h'
  simp only [tcT, tcK, tcU, ok] at h
  simpa using h
theorem spec_TakeCredit_yes {A A' : Option Addr} {n c n' c' : Nat} {ks us : List Int} (t cl s : Int) (w : World) (h : IS w A n c ks) (h' : IS w A' n' c' us) (ok : tcOK t ks us cl s = true) :
    Calls Try.prog 21 #[.agg #[.int .i64 t, .slice A n c, .slice A' n' c'], .int .i64 cl, .int .i64 s] w (GaveBudB 3 w t ks (addL us cl s) true) := by
  have h := spec_TakeCredit_any t cl s w h h'
  simp only [tcT, tcK, tcU, ok, if_true] at h
  exact h
theorem spec_TakeCredit_no {A A' : Option Addr} {n c n' c' : Nat} {ks us : List Int} (t cl s : Int) (w : World) (h : IS w A n c ks) (h' : IS w A' n' c' us) (ok : tcOK t ks us cl s = false) :
    Calls Try.prog 21 #[.agg #[.int .i64 t, .slice A n c, .slice A' n' c'], .int .i64 cl, .int .i64 s] w (GaveBudB 3 w 0 [] [] false) := by
  have h := spec_TakeCredit_any t cl s w h h'
  simp only [tcT, tcK, tcU, ok] at h
  simpa using h
theorem roomV_pos {t cl : Int} {ks us : List Int} (h : 0 ≤ roomV t ks us cl) : validB t ks us = true ∧ inR cl 0 2 = true := by
  rcases hv : validB t ks us with _ | _
  · rw [roomV_f1 hv] at h; omega
  rcases hc : inR cl 0 2 with _ | _
  · rw [roomV_f2 hc] at h; omega
  · exact ⟨rfl, rfl⟩
theorem roomV_more {t cl : Int} {ks us : List Int} (h : 0 ≤ roomV t ks us cl) (ht : t ≠ 200) : roomV (t + 1) ks us cl = roomV t ks us cl + 1 := by
  obtain ⟨hv, hc⟩ := roomV_pos h
  obtain ⟨a, b, c, x, y, z, rfl, rfl⟩ := valid3 hv
  have hh := valid3_iff.1 hv
  have hv' : validB (t + 1) [a, b, c] [x, y, z] = true := by rw [valid3_iff]; omega
  rw [roomV_t hv hc, roomV_t hv' hc]
  rcases cls3 hc with rfl | rfl | rfl
  · rw [room3.1, room3.1]; omega
  · rw [room3.2.1, room3.2.1]; omega
  · rw [room3.2.2, room3.2.2]; omega
theorem roomL_le {t cl : Int} {ks us : List Int} (hv : validB t ks us = true) (hc : inR cl 0 2 = true) : roomL t ks us cl ≤ t := by
  obtain ⟨a, b, c, x, y, z, rfl, rfl⟩ := valid3 hv
  have hh := valid3_iff.1 hv
  rcases cls3 hc with rfl | rfl | rfl
  · rw [room3.1]; omega
  · rw [room3.2.1]; omega
  · rw [room3.2.2]; omega
theorem room_all {t cl : Int} {ks us : List Int} (hv : validB t ks us = true) (hc : inR cl 0 2 = true) : tcOK t ks us cl (roomL t ks us cl) = true ∧ tcOK t ks us cl (roomL t ks us cl + 1) = false ∧ roomV t ks (addL us cl (roomL t ks us cl)) cl = 0 := by
  have hb := roomL_bd hv hc
  have h1 : tcOK t ks us cl (roomL t ks us cl) = true := tcOK_iff.2 ⟨hv, hc, hb, Int.le_refl _⟩
  refine ⟨h1, ?_, ?_⟩
  · rcases h : tcOK t ks us cl (roomL t ks us cl + 1) with _ | _
    · rfl
    · have := (tcOK_iff.1 h).2.2.2; omega
  · rw [roomV_t (tc_parts h1).2.2.2.2 hc]
    obtain ⟨a, b, c, x, y, z, rfl, rfl⟩ := valid3 hv
    have hh := valid3_iff.1 hv
    rcases cls3 hc with rfl | rfl | rfl
    · rw [add3.1, room3.1]; rw [room3.1]; omega
    · rw [add3.2.1, room3.2.1]; rw [room3.2.1]; omega
    · rw [add3.2.2, room3.2.2]; rw [room3.2.2]; omega
theorem tc_split {t : Int} {ks us : List Int} {cl s k : Int} (h : tcOK t ks us cl s = true) (hk0 : 0 ≤ k) (hk1 : k ≤ s) :
    tcOK t ks us cl k = true ∧ tcOK t ks (addL us cl k) cl (s - k) = true ∧ addL (addL us cl k) cl (s - k) = addL us cl s := by
  obtain ⟨hv, hc, hs0, hs1, hva⟩ := tc_parts h
  obtain ⟨_, _, _, hr⟩ := tcOK_iff.1 h
  have h1 : tcOK t ks us cl k = true := tcOK_iff.2 ⟨hv, hc, ⟨hk0, by omega⟩, by omega⟩
  have e : addL (addL us cl k) cl (s - k) = addL us cl s := by rw [addL_addL hv hc]; congr 1; omega
  refine ⟨h1, ?_, e⟩
  rw [tcOK_valid (tc_parts h1).2.2.2.2 hc (by omega), e]
  exact hva
theorem tc_back {t : Int} {ks us : List Int} {cl s : Int} (h : tcOK t ks us cl s = true) :
    gcOK t ks (addL us cl s) cl s = true ∧ addL (addL us cl s) cl (-s) = us ∧ usedV t ks (addL us cl s) = usedV t ks us + s ∧ validB t ks (addL us cl s) = true ∧ 0 ≤ usedV t ks us ∧ usedV t ks us ≤ 600 := by
  obtain ⟨hv, hc, hs0, hs1, hva⟩ := tc_parts h
  obtain ⟨hc0, hc1⟩ := inR_iff.1 hc
  obtain ⟨u, _, hu2, hu3, _⟩ := cnt_at (validB_iff.1 hv).2.2.1 (j := cl.toNat) (by omega)
  have hb := sum3_bd (validB_iff.1 hv).2.2.1
  refine ⟨gcOK_iff.2 ⟨hva, hc, ⟨hs0, hs1⟩, by rw [getD_addL hv hc, hu2]; omega⟩, ?_, ?_, hva, ?_, ?_⟩
  · rw [addL_addL hv hc, show s + -s = 0 by omega, addL_zero hv hc]
  · simp only [usedV, hva, hv, if_true]
    rw [sum_addL hv hc]
  · simp only [usedV, hv, if_true]; exact hb.1
  · simp only [usedV, hv, if_true]; exact hb.2
theorem cls_next {cl : Int} (h : inR cl 0 2 = true) : inR ((cl + 1) % 3) 0 2 = true := by
  have := inR_iff.1 h
  exact inR_t (by omega) (by omega)
theorem tc_order {t : Int} {ks us : List Int} {cl s : Int} (h : tcOK t ks us cl s = true) :
    (tcOK t ks us ((cl + 1) % 3) 3 = false → tcOK t ks (addL us cl s) ((cl + 1) % 3) 3 = false) ∧
    (tcOK t ks us ((cl + 1) % 3) 3 = true → tcOK t ks (addL us cl s) ((cl + 1) % 3) 3 = tcOK t ks (addL us ((cl + 1) % 3) 3) cl s) ∧
    addL (addL us cl s) ((cl + 1) % 3) 3 = addL (addL us ((cl + 1) % 3) 3) cl s := by
  obtain ⟨hv, hc, hs0, hs1, hva⟩ := tc_parts h
  have ho := cls_next hc
  have e : addL (addL us cl s) ((cl + 1) % 3) 3 = addL (addL us ((cl + 1) % 3) 3) cl s := by
    obtain ⟨a, b, c, x, y, z, rfl, rfl⟩ := valid3 hv
    rcases cls3 hc with rfl | rfl | rfl
    · rw [show ((0 : Int) + 1) % 3 = 1 by rfl, add3.1, add3.2.1, add3.2.1, add3.1]
    · rw [show ((1 : Int) + 1) % 3 = 2 by rfl, add3.2.1, add3.2.2, add3.2.2, add3.2.1]
    · rw [show ((2 : Int) + 1) % 3 = 0 by rfl, add3.2.2, add3.1, add3.1, add3.2.2]
  have k1 := tcOK_valid hva ho (s := 3) (by omega)
  have k2 := tcOK_valid hv ho (s := 3) (by omega)
  have down : validB t ks (addL (addL us cl s) ((cl + 1) % 3) 3) = true → validB t ks (addL us ((cl + 1) % 3) 3) = true := by
    obtain ⟨a, b, c, x, y, z, rfl, rfl⟩ := valid3 hv
    have hh := valid3_iff.1 hv
    rcases cls3 hc with rfl | rfl | rfl
    · rw [show ((0 : Int) + 1) % 3 = 1 by rfl, add3.1, add3.2.1, add3.2.1, valid3_iff, valid3_iff]; omega
    · rw [show ((1 : Int) + 1) % 3 = 2 by rfl, add3.2.1, add3.2.2, add3.2.2, valid3_iff, valid3_iff]; omega
    · rw [show ((2 : Int) + 1) % 3 = 0 by rfl, add3.2.2, add3.1, add3.1, valid3_iff, valid3_iff]; omega
  refine ⟨fun h2 => ?_, fun h2 => ?_, e⟩
  · rcases h3 : tcOK t ks (addL us cl s) ((cl + 1) % 3) 3 with _ | _
    · rfl
    · rw [k2.2 (down (k1.1 h3))] at h2; cases h2
  · rw [Bool.eq_iff_iff, k1, tcOK_valid (k2.1 h2) hc hs0, e]
theorem unused_ok {t : Int} {ks us : List Int} (hv : validB t ks us = true) : validB t ks [0, 0, 0] = true ∧ usedV t ks us ≤ t ∧ 0 ≤ usedV t ks us ∧ usedV t ks us ≤ 200 := by
  have e : usedV t ks us = us.sum := by simp [usedV, hv]
  rw [e]
  obtain ⟨a, b, c, x, y, z, rfl, rfl⟩ := valid3 hv
  have hh := valid3_iff.1 hv
  rw [valid3_iff]
  simp
  omega
/-- There is room for one of the first k classes. -/
def rmB (t : Int) (ks us : List Int) (k : Nat) : Bool := (List.range k).any fun c => decide (0 < roomL t ks us (c : Int))
theorem rmB_next {t : Int} {ks us : List Int} {k : Nat} : rmB t ks us (k + 1) = (rmB t ks us k || decide (0 < roomL t ks us (k : Int))) := by simp [rmB, List.range_succ]
theorem rmB_f {t : Int} {ks us : List Int} {k : Nat} (h : rmB t ks us k = false) : rmB t ks us (k + 1) = decide (0 < roomL t ks us (k : Int)) := by rw [rmB_next, h, Bool.false_or]
theorem rmB_t {t : Int} {ks us : List Int} {k : Nat} (h : rmB t ks us k = true) : rmB t ks us (k + 1) = true := by rw [rmB_next, h, Bool.true_or]
theorem used_room {t : Int} {ks us : List Int} (hv : validB t ks us = true) : us.sum ≤ t ∧ 0 ≤ us.sum ∧ us.sum ≤ 200 ∧ rmB t ks us 3 = !decide (us.sum = t) := by
  obtain ⟨a, b, c, x, y, z, rfl, rfl⟩ := valid3 hv
  have hh := valid3_iff.1 hv
  refine ⟨by simp; omega, by simp; omega, by simp; omega, ?_⟩
  have e : rmB t [a, b, c] [x, y, z] 3 = (decide (0 < roomL t [a, b, c] [x, y, z] 0) || decide (0 < roomL t [a, b, c] [x, y, z] 1) || decide (0 < roomL t [a, b, c] [x, y, z] 2)) := by
    rw [rmB_next, rmB_next, rmB_next]
    simp [rmB]
  rw [e, room3.1, room3.2.1, room3.2.2, ← Bool.decide_or, ← Bool.decide_or, ← decide_not, decide_eq_decide]
  simp
  omega
theorem gc_room {t : Int} {ks us : List Int} {cl s : Int} (h : gcOK t ks us cl s = true) (k : Int) (hk : inR k 0 2 = true) :
    roomL t ks us k ≤ roomL t ks (addL us cl (-s)) k ∧ roomL t ks (addL us cl (-s)) k - roomL t ks us k ≤ s ∧ (k = cl → roomL t ks (addL us cl (-s)) k - roomL t ks us k = s) := by
  obtain ⟨hv, hc, hs0, hs1, hsu, hva⟩ := gc_parts h
  obtain ⟨a, b, c, x, y, z, rfl, rfl⟩ := valid3 hv
  have hh := valid3_iff.1 hv
  rcases cls3 hc with rfl | rfl | rfl
  · rw [add3.1]; simp at hsu
    rcases cls3 hk with rfl | rfl | rfl
    · rw [room3.1, room3.1]; omega
    · rw [room3.2.1, room3.2.1]; omega
    · rw [room3.2.2, room3.2.2]; omega
  · rw [add3.2.1]; simp at hsu
    rcases cls3 hk with rfl | rfl | rfl
    · rw [room3.1, room3.1]; omega
    · rw [room3.2.1, room3.2.1]; omega
    · rw [room3.2.2, room3.2.2]; omega
  · rw [add3.2.2]; simp at hsu
    rcases cls3 hk with rfl | rfl | rfl
    · rw [room3.1, room3.1]; omega
    · rw [room3.2.1, room3.2.1]; omega
    · rw [room3.2.2, room3.2.2]; omega
end Go.Proofs.Ytcbphifadokfeaa
