/-
  Drawn arguments of the laws on windows.
-/
import Derived.Test.YtpfeadjmmefbgaaGenW
namespace Go.Proofs.Ytpfeadjmmefbgaa
open Go.RowKit

/-- A drawn window. -/
def DrewW (w : World) (e : Ending) (w' : World) : Prop :=
  ∃ b nx xs A n c, e = .returned (.agg #[.int .i64 b, .int .i64 nx, .slice A n c]) ∧ (-1 ≤ b ∧ b ≤ 1001) ∧ (-1 ≤ nx ∧ nx ≤ 1100) ∧ n ≤ 9 ∧ IS w' A n c xs ∧ Below w.heap.size w w'
/-- A drawn window and a number. -/
def DrewWI (w : World) (e : Ending) (w' : World) : Prop :=
  ∃ b nx xs A n c m, e = .returned (.tuple #[.agg #[.int .i64 b, .int .i64 nx, .slice A n c], .int .i64 m]) ∧ (-1 ≤ b ∧ b ≤ 1001) ∧ (-1 ≤ nx ∧ nx ≤ 1100) ∧ n ≤ 9 ∧ (-2 ≤ m ∧ m ≤ 1010) ∧ IS w' A n c xs ∧ Below w.heap.size w w'
set_option maxHeartbeats 4000000 in
theorem spec_DrawSendNext_any {A : Option Addr} {n c : Nat} {zs : List Int} (w : World) (h : BS w A n c zs) (hn : n ≤ 1048576) :
    Calls Try.prog 6 #[.slice A n c] w (DrewW w) := by
  have H := Lib.hid h
  clear h
  go_enter Try.func6, Try.ntmps6
  go_wp2_with (fail)
  refine (newReader_any _ (H.out.alloc _) hn).mono ?_
  rintro e w1 ⟨rfl, hr1, hb1⟩
  have R1 : Hid (RD w1 50 (w.heap.size + 1) 0) := Lib.hid (by simpa using hr1)
  have B1 := Lib.hid (below_then (below_new w _) hb1)
  have Q1 := Lib.hid ((Blk.new w 25 #[.int .i64 0, .int .i64 0, .slice none 0 0]).on hb1)
  have hz1 := R1.out.lt
  clear hr1 hb1
  go_wp2_with (fail)
  refine (someWindow_any (w.heap.size + 1) 0 w1 R1.out (by omega)).mono ?_
  rintro e w2 ⟨b, nx, xs, A2, n2, c2, rfl, hb, hx, hn2, i1, ge1, hr2, hw2⟩
  have I2 := Lib.hid i1
  have D2 : Hid (Disj (some ⟨w.heap.size, 0, none⟩) A2) := Lib.hid (ge_disj (show w.heap.size < w1.heap.size + 1 by omega) ge1)
  have B2 := Lib.hid (B1.out.trans ((hw2.below (by omega)).mono (by omega)))
  have Q2 := Lib.hid (Q1.out.rd hw2 (by omega))
  clear i1 ge1 hr2 hw2
  obtain ⟨q0, q1, q2⟩ := Q2.out.c3
  have f0 := Q2.out.frozen 0
  have f1 := Q2.out.frozen 1
  have f2 := Q2.out.frozen 2
  go_wp2_with (fail)
  refine bodyPost_ret (v := .agg #[.int .i64 b, .int .i64 nx, .slice A2 n2 c2]) (by simp [results, Try.results6, go_sem, q0, q1, q2]) rfl ?_
  refine ⟨b, nx, xs, A2, n2, c2, rfl, hb, hx, hn2, ?_, ?_⟩
  · repeat' (first | with_reducible exact I2.out | with_reducible refine IS.setCell ?_ ?_ _ | exact D2.out)
  · repeat' (first | with_reducible exact B2.out | with_reducible refine Below.setCell ?_ ?_ _ | exact Nat.le_refl _)
set_option maxHeartbeats 4000000 in
theorem spec_DrawOpenBatches_any {A : Option Addr} {n c : Nat} {zs : List Int} (w : World) (h : BS w A n c zs) (hn : n ≤ 1048576) :
    Calls Try.prog 13 #[.slice A n c] w (DrewW w) := by
  have H := Lib.hid h
  clear h
  go_enter Try.func13, Try.ntmps13
  go_wp2_with (fail)
  refine (newReader_any _ (H.out.alloc _) hn).mono ?_
  rintro e w1 ⟨rfl, hr1, hb1⟩
  have R1 : Hid (RD w1 50 (w.heap.size + 1) 0) := Lib.hid (by simpa using hr1)
  have B1 := Lib.hid (below_then (below_new w _) hb1)
  have Q1 := Lib.hid ((Blk.new w 25 #[.int .i64 0, .int .i64 0, .slice none 0 0]).on hb1)
  have hz1 := R1.out.lt
  clear hr1 hb1
  go_wp2_with (fail)
  refine (someWindow_any (w.heap.size + 1) 0 w1 R1.out (by omega)).mono ?_
  rintro e w2 ⟨b, nx, xs, A2, n2, c2, rfl, hb, hx, hn2, i1, ge1, hr2, hw2⟩
  have I2 := Lib.hid i1
  have D2 : Hid (Disj (some ⟨w.heap.size, 0, none⟩) A2) := Lib.hid (ge_disj (show w.heap.size < w1.heap.size + 1 by omega) ge1)
  have B2 := Lib.hid (B1.out.trans ((hw2.below (by omega)).mono (by omega)))
  have Q2 := Lib.hid (Q1.out.rd hw2 (by omega))
  clear i1 ge1 hr2 hw2
  obtain ⟨q0, q1, q2⟩ := Q2.out.c3
  have f0 := Q2.out.frozen 0
  have f1 := Q2.out.frozen 1
  have f2 := Q2.out.frozen 2
  go_wp2_with (fail)
  refine bodyPost_ret (v := .agg #[.int .i64 b, .int .i64 nx, .slice A2 n2 c2]) (by simp [results, Try.results13, go_sem, q0, q1, q2]) rfl ?_
  refine ⟨b, nx, xs, A2, n2, c2, rfl, hb, hx, hn2, ?_, ?_⟩
  · repeat' (first | with_reducible exact I2.out | with_reducible refine IS.setCell ?_ ?_ _ | exact D2.out)
  · repeat' (first | with_reducible exact B2.out | with_reducible refine Below.setCell ?_ ?_ _ | exact Nat.le_refl _)
end Go.Proofs.Ytpfeadjmmefbgaa
