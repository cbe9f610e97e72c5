/-
  Drawn integers that may be spoilt, and classes.
-/
import Derived.Test.YthbdcindhkjboaaGen
import Derived.Test.YthbdcindhkjboaaCopy
namespace Go.Proofs.Ythbdcindhkjboaa
open Go.RowKit

theorem IS.kept {w w' : World} {A : Option Addr} {n c : Nat} {xs : List Int} (h : IS w A n c xs) (hk : ∀ p : Addr, A = some p → p.block < w.heap.size → w'.heap[p.block]? = w.heap[p.block]?) : IS w' A n c xs := by
  refine ⟨h.1, h.2.1, h.2.2.1, fun hn => ?_, h.2.2.2.2⟩
  obtain ⟨b, off, rfl, hc⟩ := h.2.2.2.1 hn
  refine ⟨b, off, rfl, fun j hj => ?_⟩
  have hlt := World.block_lt_of_cell? w ⟨b, off + j, none⟩ (hc j hj)
  rw [← hc j hj]
  exact World.cell?_of_block (hk ⟨b, off, none⟩ rfl hlt)
theorem IS.rd {w w' : World} {r : Nat} {A : Option Addr} {n c : Nat} {xs : List Int} (h : IS w A n c xs) (hg : Rd w w' r) (hr : Ge A (r + 1)) : IS w' A n c xs :=
  h.kept fun p hp hlt => hg.block p.block hlt (fun e => by injection e with e; have := hr p hp; omega)
theorem IS.setCell {w : World} {A : Option Addr} {n c : Nat} {xs : List Int} (h : IS w A n c xs) {p : Addr} (hd : Disj (some ⟨p.block, 0, none⟩) A) (u : Value) : IS (w.setCell p u) A n c xs :=
  h.kept fun q hq _ => Below.heap_setCell w p u q.block (fun e => hd _ _ rfl hq e.symm)
/-- Drawn integers. -/
def DrewInts (R : TypeId) (w : World) (r N m : Nat) (e : Ending) (w' : World) : Prop :=
  ∃ xs A n c, e = .returned (.slice A n c) ∧ n ≤ m ∧ IS w' A n c xs ∧ Ge A w.heap.size ∧ RD w' R r N ∧ Rd w w' r
set_option maxHeartbeats 4000000 in
theorem spoil_any {A : Option Addr} {n c : Nat} {xs : List Int} (r N : Nat) (v : Int) (w : World) (h : RD w 68 r N) (hN : N ≤ 900000) (hx : IS w A n c xs) (hn : n ≤ 1000) :
    Calls Try.prog 60 #[.pointer (some ⟨r, 0, none⟩), .slice A n c, .int .i64 v] w (DrewInts 68 w r (N + 3) (n + 1)) := by
  have hr := h.lt
  have H := Lib.hid h
  have HX := Lib.hid hx
  clear h hx
  go_enter Try.func60, Try.ntmps60
  go_wp2_with (fail)
  refine (spec_copyInts_any _ HX.out (by omega)).mono ?_
  rintro e w1 ⟨A1, n1, c1, rfl, o1, b1⟩
  have hn1 : n1 ≤ n := by have h1 := o1.len; have h2 := HX.out.len; omega
  have O1 := Lib.hid o1
  have B1 := Lib.hid b1
  have hz1 := b1.size
  clear o1 b1
  go_wp2_with (fail)
  refine (pick_any r N 20 _ (H.out.below (B1.out.mono (by omega))) (by omega) (by omega)).mono ?_
  rintro e w2 ⟨k, rfl, hk0, hk1, hr2, hw2⟩
  have HR2 := Lib.hid hr2
  have HW2 := Lib.hid ((Rd.of_below B1.out).trans hw2)
  have O2 := Lib.hid (O1.out.rd hw2 (by omega))
  have hz2 := hw2.size
  have hG2 : Hid (Ge A1 w.heap.size) := Lib.hid O1.out.ge
  clear hr2 hw2 hk1
  by_cases c0 : k = 0
  · subst c0
    have HSv : Hid (IS (w2.alloc (.cells #[.int .i64 v] 3)) (some ⟨w2.heap.size, 0, none⟩) 1 1 [v]) := Lib.hid (by simpa using (OW.lit w2 3 0 [v] (by simp) (by simp)).is)
    have O3 := Lib.hid (O2.out.alloc (.cells #[.int .i64 v] 3))
    go_wp2_with (at_builtin; go_must (refine wpList_append_is _ rfl (.tmp 14) (.tmp 16) _ rfl w.heap.size 3 infoInt Try.underlying22 _ _ _ _ rfl O3.out _ _ _ _ rfl HSv.out (by omega) (by simp; omega) ?_); intro A5 c5 w5 hown5 hg5; have O5 := Lib.hid hown5; have G5 := Lib.hid (row_of hg5); clear hown5 hg5)
    go_ret
    exact ⟨_, A5, _, c5, rfl, by omega, O5.out.is, O5.out.ge, ((HR2.out.below ((below_new w2 _).mono (by omega))).row G5.out (O1.out.ge.mono hr)).mono (by omega), (HW2.out.alloc _).row G5.out O1.out.ge⟩
  have d0 : (k == 0) = false := by simpa using c0
  by_cases c1' : k = 1
  · subst c1'
    rcases Nat.eq_zero_or_pos n1 with h0 | h0
    · subst h0
      go_wp2_with (fail)
      go_ret
      exact ⟨_, A1, _, c1, rfl, by omega, O2.out.is, hG2.out, HR2.out.mono (by omega), HW2.out⟩
    · obtain ⟨g, rfl, hg1, hg2⟩ := O2.out.pos h0
      have hnc := O2.out.is.2.1
      have hcm := O2.out.is.2.2.1
      simp only [maxLen] at hcm
      have hp0 : (0 : Int) < (n1 : Int) := by omega
      have hp1 : (1 : Int) ≤ (n1 : Int) := by omega
      have hp2 : (n1 : Int) ≤ (c1 : Int) := by omega
      by_cases hc1 : c1 = 1
      · subst hc1
        obtain rfl : n1 = 1 := by omega
        go_wp2_with (fail)
        all_goals go_ret
        all_goals exact ⟨[], _, _, _, rfl, by omega, IS.empty _ _ (by simp [maxLen]) (fun h => by cases h), (fun p hp => by cases hp; exact hg1), HR2.out.mono (by omega), HW2.out⟩
      · have HI := Lib.hid (O2.out.is.cut (lo := 1) (hi := n1) (by omega) (Nat.le_refl _))
        go_wp2_with (fail)
        all_goals go_ret
        all_goals exact ⟨_, _, _, _, rfl, by omega, by first | exact HI.out | (have := HI.out; simpa using this), (fun p hp => by cases hp; exact hg1), HR2.out.mono (by omega), HW2.out⟩
  have d1 : (k == 1) = false := by simpa using c1'
  by_cases c2 : k = 2
  · subst c2
    rcases Nat.eq_zero_or_pos n1 with h0 | h0
    · subst h0
      go_wp2_with (fail)
      go_ret
      exact ⟨_, A1, _, c1, rfl, by omega, O2.out.is, hG2.out, HR2.out.mono (by omega), HW2.out⟩
    · obtain ⟨g, rfl, hg1, hg2⟩ := O2.out.pos h0
      have hp0 : (0 : Int) < (n1 : Int) := by omega
      go_wp2_with (fail)
      refine (pick_any r _ (n1 : Int) _ HR2.out (by omega) (by omega)).mono ?_
      rintro e w3 ⟨k3, rfl, hk30, hk31, hr3, hw3⟩
      have hk32 := hk31 (by omega)
      obtain ⟨j, rfl⟩ := Int.eq_ofNat_of_zero_le hk30
      have HR3 := Lib.hid hr3
      have HW3 := Lib.hid (HW2.out.trans hw3)
      have O3 := Lib.hid (O2.out.rd hw3 (by omega))
      have hz3 := hw3.size
      clear hr3 hw3 hk31
      go_wp2_with (fail)
      refine (one_any (xs := [-1, v, 0, 1]) (fun _ => True) r _ _ (HR3.out.below ((below_new w3 _).mono (by omega))) (by omega) (by simpa using OW.lit w3 3 (r + 1) [-1, v, 0, 1] (by omega) (by simp)) (by omega) (by omega) (by simp)).mono ?_
      rintro e w4 ⟨v4, rfl, _, hr4, hw4⟩
      have HR4 := Lib.hid hr4
      have HW4 := Lib.hid ((HW3.out.alloc (.cells #[.int .i64 (-1), .int .i64 v, .int .i64 0, .int .i64 1] 3)).trans hw4)
      have O4 := Lib.hid ((O3.out.alloc (.cells #[.int .i64 (-1), .int .i64 v, .int .i64 0, .int .i64 1] 3)).rd hw4 (by omega))
      clear hr4 hw4
      have hjn : j < n1 := by omega
      obtain ⟨_, _, u, e0, hx, hcv⟩ := O4.out.is.at_ hjn
      simp only [Option.some.injEq, Addr.mk.injEq, and_true] at e0
      obtain ⟨rfl, rfl⟩ := e0
      rw [Nat.zero_add] at hcv
      have hf : w4.frozen? ⟨g, j, none⟩ = false := World.ownsRow.frozenAt O4.out j
      clear hx
      go_wp2_with (fail)
      go_ret
      exact ⟨_, _, _, c1, rfl, by omega, (O4.out.storedS j v4).is, hG2.out, (HR4.out.below ((Below.refl _ _).setCell (by show r + 1 ≤ g; omega) _)).mono (by omega), HW4.out.setCell (by show w.heap.size ≤ g; omega) _⟩
  have d2 : (k == 2) = false := by simpa using c2
  go_wp2_with (fail)
  go_ret
  exact ⟨_, A1, _, c1, rfl, by omega, O2.out.is, hG2.out, HR2.out.mono (by omega), HW2.out⟩
end Go.Proofs.Ythbdcindhkjboaa
