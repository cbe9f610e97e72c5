/-
  Contracts of copies of integers: copyInts, slices.Clone.
-/
import Derived.Test.YtmlnaijpbfddaaaOwn
import Derived.Lib.AppendZeros
import Derived.Deep.DeepMust
import Derived.Lib.SliceRun
namespace Go.Proofs.Ytmlnaijpbfddaaa
open Go.RowKit

set_option maxHeartbeats 1000000 in
theorem spec_copyInts_any {A : Option Addr} {n c : Nat} {xs : List Int} (w : World) (h : IS w A n c xs) (hn : n ≤ 1073741824) :
    Calls Try.prog 34 #[.slice A n c] w (GaveInts 3 w xs) := by
  have H := Lib.hid h
  clear h
  have HO := Lib.hid (OW.lit w 3 w.heap.size [] (Nat.le_refl _) (by simp))
  go_enter Try.func34, Try.ntmps34
  go_wp2_with (at_builtin; refine wpList_append_is _ rfl (.tmp 3) (.tmp 4) _ rfl w.heap.size 3 infoInt Try.underlying24 _ _ _ [] rfl HO.out _ _ _ xs rfl (H.out.alloc _) (by omega) (by simp) ?_; intro A' c' w1 hown1 hg1)
  go_ret
  have e : [] ++ xs = xs := List.nil_append _
  rw [Nat.zero_add, e] at hown1
  exact ⟨A', n, c', rfl, hown1, HO.out.below_grown hg1 (below_new _ _) (Nat.le_refl _) (by simp)⟩
set_option maxHeartbeats 1000000 in
theorem clone_any {A : Option Addr} {n c : Nat} {xs : List Int} (w : World) (h : IS w A n c xs) (hn : n ≤ 1073741824) :
    Calls Try.prog 28 #[.slice A n c] w (GaveInts 3 w xs) := by
  have H := Lib.hid h
  clear h
  rcases A with _ | a
  · have hxs : xs = [] := by
      have h1 := H.out.2.2.2.2 rfl
      have h2 := H.out.2.1
      exact List.eq_nil_of_length_eq_zero (by have := H.out.len; omega)
    have HX := Lib.hid hxs
    clear hxs
    have hE := fun (W : World) (n c n' c' : Nat) => Lib.run_eql_slice_nil (P := Try.prog) W 24 3 none n c n' c' Try.underlying24
    go_enter Try.func28, Try.ntmps28
    go_wp2_with (fail)
    go_ret
    exact ⟨none, 0, 0, rfl, by rw [HX.out]; exact ⟨rfl, .inl ⟨rfl, rfl⟩⟩, Below.refl _ _⟩
  · have HO := Lib.hid (OW.lit w 3 w.heap.size [] (Nat.le_refl _) (by simp))
    have hE := fun (W : World) (n c n' c' : Nat) => Lib.run_eql_slice_nil (P := Try.prog) W 24 3 (some a) n c n' c' Try.underlying24
    go_enter Try.func28, Try.ntmps28
    go_wp2_with (at_builtin; refine wpList_append_is _ rfl (.tmp 5) (.tmp 6) _ rfl w.heap.size 3 infoInt Try.underlying24 _ _ _ [] rfl HO.out _ _ _ xs rfl (H.out.alloc _) (by omega) (by simp) ?_; intro A' c' w1 hown1 hg1)
    go_ret
    have e : [] ++ xs = xs := List.nil_append _
    rw [Nat.zero_add, e] at hown1
    exact ⟨A', n, c', rfl, hown1, HO.out.below_grown hg1 (below_new _ _) (Nat.le_refl _) (by simp)⟩
end Go.Proofs.Ytmlnaijpbfddaaa
