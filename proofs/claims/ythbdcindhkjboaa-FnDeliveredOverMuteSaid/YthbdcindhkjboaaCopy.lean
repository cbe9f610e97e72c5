/-
  Contracts of copies of integers: copyInts, slices.Clone.
-/
import Derived.Test.YthbdcindhkjboaaOwn
import Derived.Lib.AppendZeros
import Derived.Deep.DeepMust
import Derived.Lib.SliceRun
namespace Go.Proofs.Ythbdcindhkjboaa
open Go.RowKit

set_option maxHeartbeats 1000000 in
theorem spec_copyInts_any {A : Option Addr} {n c : Nat} {xs : List Int} (w : World) (h : IS w A n c xs) (hn : n ≤ 1073741824) :
    Calls Try.prog 38 #[.slice A n c] w (GaveInts 3 w xs) := by
  have H := Lib.hid h
  clear h
  have HO := Lib.hid (OW.lit w 3 w.heap.size [] (Nat.le_refl _) (by simp))
  go_enter Try.func38, Try.ntmps38
  go_wp2_with (at_builtin; refine wpList_append_is _ rfl (.tmp 3) (.tmp 4) _ rfl w.heap.size 3 infoInt Try.underlying22 _ _ _ [] rfl HO.out _ _ _ xs rfl (H.out.alloc _) (by omega) (by simp) ?_; intro A' c' w1 hown1 hg1)
  go_ret
  have e : [] ++ xs = xs := List.nil_append _
  rw [Nat.zero_add, e] at hown1
  exact ⟨A', n, c', rfl, hown1, HO.out.below_grown hg1 (below_new _ _) (Nat.le_refl _) (by simp)⟩
end Go.Proofs.Ythbdcindhkjboaa
