/-
  The drawn item: DrawValidItem, DrawFrameOf.
-/
import Derived.Test.YtdlhibpogbfpaaaGenA
namespace Go.Proofs.Ytdlhibpogbfpaaa
open Go.RowKit
/-- A drawn item, and nothing old written. -/
def DrewIt (T : TypeId) (w : World) (e : Ending) (w' : World) : Prop :=
  ∃ cl ky xs A n c, e = .returned (.agg #[.int .i64 cl, .int .i64 ky, .slice A n c]) ∧ n ≤ 10 ∧ OW w' T w.heap.size A n c xs ∧ Below w.heap.size w w'
set_option maxHeartbeats 1000000 in
theorem spec_DrawValidItem_any {A : Option Addr} {n c : Nat} {zs : List Int} (w : World) (h : BS w A n c zs) (hn : n ≤ 1048576) :
    Calls Try.prog 9 #[.slice A n c] w (DrewIt 3 w) := by
  have H := Lib.hid h
  clear h
  go_enter Try.func9, Try.ntmps9
  go_wp2_with (fail)
  refine (newReader_any _ (H.out.alloc _) hn).mono ?_
  rintro e w1 ⟨rfl, hr1, hb1⟩
  have R1 : Hid (RD w1 44 (w.heap.size + 1) 0) := Lib.hid (by simpa using hr1)
  have B1 := Lib.hid hb1
  have Q1 := Lib.hid ((Blk.new w 25 #[.int .i64 0, .int .i64 0, .slice none 0 0]).on hb1)
  have hz1 := hb1.size
  simp at hz1
  clear hr1 hb1
  go_wp2_with (fail)
  refine (anyItem_any (w.heap.size + 1) 0 w1 R1.out (by omega)).mono ?_
  rintro e w2 ⟨cl, ky, xs, A2, n2, c2, rfl, _, hn2, ho2, hr2, hw2⟩
  have O2 := Lib.hid ho2
  have W2 := Lib.hid hw2
  have Q2 := Lib.hid (Q1.out.rd hw2 (by omega))
  clear ho2 hr2 hw2
  have hz2 := W2.out.size
  obtain ⟨qa, qb, qc⟩ := Q2.out.c3
  have f0 := Q2.out.frozen 0
  have f1 := Q2.out.frozen 1
  have f2 := Q2.out.frozen 2
  go_wp2_with (fail)
  refine bodyPost_ret (v := .agg #[.int .i64 cl, .int .i64 ky, .slice A2 n2 c2]) (by simp [results, Try.results9, go_sem, qa, qb, qc]) rfl ?_
  refine ⟨cl, ky, xs, A2, n2, c2, rfl, hn2, ?_, ?_⟩
  · refine OW.base_le (base := w.heap.size + 1) ?_ (Nat.le_succ w.heap.size)
    repeat' (first | exact (O2.out.base_le hz1) | refine OW.setCell2 ?_ ?_ _ | exact Or.inl (Nat.lt_succ_self _))
  · have hb : Below w.heap.size w w2 := (below_new w _).trans ((B1.out.mono (by simp)).trans ((W2.out.below hz1).mono (by simp)))
    repeat' (first | exact hb | refine Below.setCell ?_ ?_ _ | exact Nat.le_refl _)
set_option maxHeartbeats 1000000 in
theorem spec_DrawFrameOf_any {A : Option Addr} {n c : Nat} {zs : List Int} (w : World) (h : BS w A n c zs) (hn : n ≤ 1048576) :
    Calls Try.prog 12 #[.slice A n c] w (DrewIt 3 w) := by
  have H := Lib.hid h
  clear h
  go_enter Try.func12, Try.ntmps12
  go_wp2_with (fail)
  refine (newReader_any _ (H.out.alloc _) hn).mono ?_
  rintro e w1 ⟨rfl, hr1, hb1⟩
  have R1 : Hid (RD w1 44 (w.heap.size + 1) 0) := Lib.hid (by simpa using hr1)
  have B1 := Lib.hid hb1
  have Q1 := Lib.hid ((Blk.new w 25 #[.int .i64 0, .int .i64 0, .slice none 0 0]).on hb1)
  have hz1 := hb1.size
  simp at hz1
  clear hr1 hb1
  go_wp2_with (fail)
  refine (anyItem_any (w.heap.size + 1) 0 w1 R1.out (by omega)).mono ?_
  rintro e w2 ⟨cl, ky, xs, A2, n2, c2, rfl, _, hn2, ho2, hr2, hw2⟩
  have O2 := Lib.hid ho2
  have W2 := Lib.hid hw2
  have Q2 := Lib.hid (Q1.out.rd hw2 (by omega))
  clear ho2 hr2 hw2
  have hz2 := W2.out.size
  obtain ⟨qa, qb, qc⟩ := Q2.out.c3
  have f0 := Q2.out.frozen 0
  have f1 := Q2.out.frozen 1
  have f2 := Q2.out.frozen 2
  go_wp2_with (fail)
  refine bodyPost_ret (v := .agg #[.int .i64 cl, .int .i64 ky, .slice A2 n2 c2]) (by simp [results, Try.results12, go_sem, qa, qb, qc]) rfl ?_
  refine ⟨cl, ky, xs, A2, n2, c2, rfl, hn2, ?_, ?_⟩
  · refine OW.base_le (base := w.heap.size + 1) ?_ (Nat.le_succ w.heap.size)
    repeat' (first | exact (O2.out.base_le hz1) | refine OW.setCell2 ?_ ?_ _ | exact Or.inl (Nat.lt_succ_self _))
  · have hb : Below w.heap.size w w2 := (below_new w _).trans ((B1.out.mono (by simp)).trans ((W2.out.below hz1).mono (by simp)))
    repeat' (first | exact hb | refine Below.setCell ?_ ?_ _ | exact Nat.le_refl _)
end Go.Proofs.Ytdlhibpogbfpaaa
