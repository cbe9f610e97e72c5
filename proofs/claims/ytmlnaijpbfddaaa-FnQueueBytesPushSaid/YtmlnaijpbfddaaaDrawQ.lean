/-
  What draws a queue alone.
-/
import Derived.Test.YtmlnaijpbfddaaaGenS
namespace Go.Proofs.Ytmlnaijpbfddaaa
open Go.RowKit

/-- A drawn queue of a law. -/
def DrewQ (w : World) (e : Ending) (w' : World) : Prop :=
  ∃ xs sh db t A n c A2 n2 c2 A3 n3 c3, e = .returned (.agg #[.slice A n c, .slice A2 n2 c2, .slice A3 n3 c3, .int .i64 t]) ∧ n ≤ 11 ∧ n2 ≤ 4 ∧ n3 ≤ 4 ∧ (-1 ≤ t ∧ t ≤ 3) ∧ TS w' A n c xs ∧ IS w' A2 n2 c2 sh ∧ IS w' A3 n3 c3 db ∧ Below w.heap.size w w'
set_option maxHeartbeats 4000000 in
theorem spec_DrawQueueBytes_any {A : Option Addr} {n c : Nat} {zs : List Int} (w : World) (h : BS w A n c zs) (hn : n ≤ 1048576) :
    Calls Try.prog 11 #[.slice A n c] w (DrewQ w) := by
  have H := Lib.hid h
  clear h
  go_enter Try.func11, Try.ntmps11
  go_wp2_with (fail)
  refine (newReader_any _ (H.out.alloc _) hn).mono ?_
  rintro e w1 ⟨rfl, hr1, hb1⟩
  have R1 : Hid (RD w1 48 (w.heap.size + 1) 0) := Lib.hid (by simpa using hr1)
  have B1 := Lib.hid (below_then (below_new w _) hb1)
  have Q1 := Lib.hid ((Blk.new w 26 #[.slice none 0 0, .slice none 0 0, .slice none 0 0, .int .i64 0]).on hb1)
  have hz1 := R1.out.lt
  clear hr1 hb1
  go_wp2_with (fail)
  refine (anyQueue_any (w.heap.size + 1) 0 w1 R1.out (by omega)).mono ?_
  rintro e w2 ⟨xs, sh, db, t, A1, n1, c1, A2, n2, c2, A3, n3, c3, rfl, hn1, hn2, hn3, ⟨ht0, ht1⟩, i1, i2, i3, g1, g2, g3, hr2, hw2⟩
  have I1 := Lib.hid i1
  have I2 := Lib.hid i2
  have I3 := Lib.hid i3
  have D1 : Hid (Disj (some ⟨w.heap.size, 0, none⟩) A1) := Lib.hid (qfar (show w.heap.size < w1.heap.size by omega) g1)
  have D2 : Hid (Disj (some ⟨w.heap.size, 0, none⟩) A2) := Lib.hid (qfar (show w.heap.size < w1.heap.size by omega) g2)
  have D3 : Hid (Disj (some ⟨w.heap.size, 0, none⟩) A3) := Lib.hid (qfar (show w.heap.size < w1.heap.size by omega) g3)
  have B2 := Lib.hid (B1.out.trans ((hw2.below (by omega)).mono (by omega)))
  have Q2 := Lib.hid (Q1.out.rd hw2 (by omega))
  clear i1 i2 i3 g1 g2 g3 hr2 hw2
  obtain ⟨qa, qb, qc, qd⟩ := Q2.out.c4
  have f0 := Q2.out.frozen 0
  have f1 := Q2.out.frozen 1
  have f2 := Q2.out.frozen 2
  have f3 := Q2.out.frozen 3
  go_wp2_with (fail)
  refine bodyPost_ret (v := .agg #[.slice A1 n1 c1, .slice A2 n2 c2, .slice A3 n3 c3, .int .i64 t]) (by simp [results, Try.results11, go_sem, qa, qb, qc, qd]) rfl ?_
  refine ⟨xs, sh, db, t, A1, n1, c1, A2, n2, c2, A3, n3, c3, rfl, hn1, hn2, hn3, ⟨ht0, ht1⟩, ?_, ?_, ?_, ?_⟩
  · repeat' (first | with_reducible exact I1.out | refine TS.setCell ?_ ?_ _ | exact D1.out)
  · repeat' (first | with_reducible exact I2.out | refine IS.setCell ?_ ?_ _ | exact D2.out)
  · repeat' (first | with_reducible exact I3.out | refine IS.setCell ?_ ?_ _ | exact D3.out)
  · repeat' (first | with_reducible exact B2.out | refine Below.setCell ?_ ?_ _ | exact Nat.le_refl _)
end Go.Proofs.Ytmlnaijpbfddaaa
