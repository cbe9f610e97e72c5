/-
  Drawn integers that may be spoilt, and classes.
-/
import Derived.Test.YtnhlbaldbjcjaaaGen
import Derived.Test.YtnhlbaldbjcjaaaCopy
namespace Go.Proofs.Ytnhlbaldbjcjaaa
open Go.RowKit

theorem IS.kept {w w' : World} {A : Option Addr} {n c : Nat} {xs : List Int} (h : IS w A n c xs) (hk : ∀ p : Addr, A = some p → p.block < w.heap.size → w'.heap[p.block]? = w.heap[p.block]?) : IS w' A n c xs := by
  refine ⟨h.1, h.2.1, h.2.2.1, fun hn => ?_, h.2.2.2.2⟩
  obtain ⟨b, off, rfl, hc⟩ := h.2.2.2.1 hn
  refine ⟨b, off, rfl, fun j hj => ?_⟩
  have hlt := World.block_lt_of_cell? w ⟨b, off + j, none⟩ (hc j hj)
  rw [← hc j hj]
  exact World.cell?_of_block (hk ⟨b, off, none⟩ rfl hlt)
theorem IS.rd {w w' : World} {r : Nat} {A : Option Addr} {n c : Nat} {xs : List Int} (h : IS w A n c xs) (hg : Rd w w' r) (hr : Ge A (r + 1)) : IS w' A n c xs :=
  h.kept fun p hp hlt => hg.block p.block hlt (fun e => by injection e with e; have := hr p hp; omega)
theorem IS.setCell {w : World} {A : Option Addr} {n c : Nat} {xs : List Int} (h : IS w A n c xs) {p : Addr} (hd : Disj (some ⟨p.block, 0, none⟩) A) (u : Value) : IS (w.setCell p u) A n c xs :=
  h.kept fun q hq _ => Below.heap_setCell w p u q.block (fun e => hd _ _ rfl hq e.symm)
/-- Drawn integers. -/
def DrewInts (R : TypeId) (w : World) (r N m : Nat) (e : Ending) (w' : World) : Prop :=
  ∃ xs A n c, e = .returned (.slice A n c) ∧ n ≤ m ∧ IS w' A n c xs ∧ Ge A w.heap.size ∧ RD w' R r N ∧ Rd w w' r
set_option maxHeartbeats 1000000 in
theorem someClass_any (r N : Nat) (w : World) (h : RD w 44 r N) (hN : N ≤ 900000) :
    Calls Try.prog 12 #[.pointer (some ⟨r, 0, none⟩)] w (Oned 44 w r N (fun x => -1 ≤ x ∧ x ≤ 3)) := by
  have hr := h.lt
  have H := Lib.hid h
  clear h
  go_enter Try.func12, Try.ntmps12
  go_wp2_with (fail)
  refine (one_any (xs := [0, 1, 2, 0, 1, 2, 3, -1]) (fun x => -1 ≤ x ∧ x ≤ 3) r N _ (H.out.below ((below_new w _).mono (by omega))) (by omega) (by simpa using OW.lit w 3 (r + 1) [0, 1, 2, 0, 1, 2, 3, -1] (by omega) (by simp)) (by omega) (by omega) (by simp)).mono ?_
  rintro e w1 ⟨k, rfl, hk, hr1, hw1⟩
  have HK := Lib.hid hk
  have HR1 := Lib.hid hr1
  have HW1 := Lib.hid ((Rd.of_below (below_new w _)).trans hw1)
  clear hk hr1 hw1
  go_wp2_with (fail)
  go_ret
  exact ⟨k, rfl, HK.out, HR1.out, HW1.out⟩
end Go.Proofs.Ytnhlbaldbjcjaaa
