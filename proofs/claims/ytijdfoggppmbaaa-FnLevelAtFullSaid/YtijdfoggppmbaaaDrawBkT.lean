/-
  Drawn arguments of the laws on buckets: TakeFrom. (Its words were written by a program of my own.)
-/
import Derived.Test.YtijdfoggppmbaaaDrawBk
namespace Go.Proofs.Ytijdfoggppmbaaa
open Go.RowKit
set_option maxHeartbeats 2000000 in
theorem spec_DrawTakeFrom_any {A : Option Addr} {n c : Nat} {zs : List Int} (w : World) (h : BS w A n c zs) (hn : n ≤ 1048576) :
    Calls Try.prog 18 #[.slice A n c] w (DrewB3 w) := by
  have H := Lib.hid h
  clear h
  go_enter Try.func18, Try.ntmps18
  go_wp2_with (fail)
  refine (newReader_any _ (H.out.alloc _) hn).mono ?_
  rintro e w1 ⟨rfl, hr1, hb1⟩
  have R1 : Hid (RD w1 44 (w.heap.size + 1) 0) := Lib.hid (by simpa using hr1)
  have B1 := Lib.hid (below_then (below_new w _) hb1)
  have Q1 := Lib.hid ((Blk.new w 24 #[.int .i64 0, .int .i64 0, .int .i64 0, .int .i64 0]).on hb1)
  have hz1 := R1.out.lt
  clear hr1 hb1
  go_wp2_with (fail)
  refine (someBucket_any (w.heap.size + 1) 0 w1 R1.out (by omega)).mono ?_
  rintro e w2 ⟨s, p, l, t, rfl, ⟨hs0, hs1⟩, ⟨hp0, hp1⟩, ⟨hl0, hl1⟩, ⟨ht0, ht1⟩, hr2, hw2⟩
  have hz2 := hw2.size
  have B2 := Lib.hid ((B1.out.trans ((hw2.below (by omega)).mono (by omega))).alloc (by have := B1.out.size; omega) (.cells #[.int .i64 s, .int .i64 p, .int .i64 l, .int .i64 t] 24))
  have Q2 := Lib.hid ((Q1.out.rd hw2 (by omega)).alloc (.cells #[.int .i64 s, .int .i64 p, .int .i64 l, .int .i64 t] 24))
  have R2 := Lib.hid (hr2.below ((below_new w2 (.cells #[.int .i64 s, .int .i64 p, .int .i64 l, .int .i64 t] 24)).mono hr2.lt))
  have X2 := Lib.hid (Blk.new w2 24 #[.int .i64 s, .int .i64 p, .int .i64 l, .int .i64 t])
  clear hr2 hw2
  go_wp2_with (fail)
  refine (one_any (xs := [0, 1, 5, 10, 20, 200, 201, -1]) (fun x => -1 ≤ x ∧ x ≤ 201) (w.heap.size + 1) _ _ (R2.out.below ((below_new (w2.alloc (.cells #[.int .i64 s, .int .i64 p, .int .i64 l, .int .i64 t] 24)) _).mono (by simp; omega))) (by omega) (by simpa using OW.lit (w2.alloc (.cells #[.int .i64 s, .int .i64 p, .int .i64 l, .int .i64 t] 24)) 3 (w.heap.size + 1 + 1) [0, 1, 5, 10, 20, 200, 201, -1] (by simp; omega) (by simp)) (by omega) (by omega) (by simp)).mono ?_
  rintro e wy ⟨u, rfl, ⟨hu0, hu1⟩, hr3, hw3⟩
  replace B2 := Lib.hid (B2.out.trans ((((Rd.of_below (below_new (w2.alloc (.cells #[.int .i64 s, .int .i64 p, .int .i64 l, .int .i64 t] 24)) _)).trans hw3).below (by simp; omega)).mono (by omega)))
  replace Q2 := Lib.hid ((Q2.out.alloc _).rd hw3 (by omega))
  replace X2 := Lib.hid ((X2.out.alloc _).rd hw3 (by omega))
  replace R2 := Lib.hid hr3
  replace hxl := X2.out.lt
  clear hr3 hw3
  go_wp2_with (fail)
  obtain ⟨xa, xb, xc, xd⟩ := X2.out.c4
  go_region_law (go_simp; go_at_call 27; go_must (refine (one_any (n := 6) (c := 6) (xs := [0, 1, 5, 10, 100, -1]) (fun x => -1 ≤ x ∧ x ≤ 1001) (w.heap.size + 1) _ _ (R2.out.below (by repeat (first | exact Below.refl _ _ | with_reducible refine Below.drew ?_ | with_reducible refine Below.alloc ?_ (by first | omega | (simp; done) | (simp; omega)) _ | with_reducible refine Below.setCell ?_ (by first | (show w.heap.size + 1 + 1 ≤ w2.heap.size; omega) | omega) _))) (by omega) (by first | exact (OW.lit wy 3 (w.heap.size + 1 + 1) [0, 1, 5, 10, 100, -1] (by omega) (by simp)).drew | exact OW.lit wy.drew 3 (w.heap.size + 1 + 1) [0, 1, 5, 10, 100, -1] (by show w.heap.size + 1 + 1 ≤ wy.heap.size; omega) (by simp) | exact OW.lit wy 3 (w.heap.size + 1 + 1) [0, 1, 5, 10, 100, -1] (by omega) (by simp)) (by omega) (by omega) (by first | (simp; done) | (simp; omega))).mono ?_; rintro e w6 ⟨v, rfl, ⟨hv0, hv1⟩, hr6, hw6⟩; have HW6 : Hid (Rd wy w6 (w.heap.size + 1)) := Lib.hid ((Rd.of_below (a := wy) (by repeat (first | exact Below.refl _ _ | with_reducible refine Below.drew ?_ | with_reducible refine Below.alloc ?_ (by first | omega | (simp; done) | (simp; omega)) _))).trans hw6); have hwv : IntKind.i64.wrap (t + v) = t + v := (by rw [IntKind.wrap_i64]; omega); have B6 := Lib.hid (B2.out.trans ((HW6.out.below (by omega)).mono (by omega))); have X6 := Lib.hid (X2.out.rd HW6.out (by omega)); have Q6 := Lib.hid (Q2.out.rd HW6.out (by omega)); clear hr6 hw6 xa xb xc xd; obtain ⟨xa, xb, xc, xd⟩ := X6.out.c4; obtain ⟨qa, qb, qc, qd⟩ := Q6.out.c4; have f0 := Q6.out.frozen 0; have f1 := Q6.out.frozen 1; have f2 := Q6.out.frozen 2; have f3 := Q6.out.frozen 3))
  all_goals (
    go_wp2_with (fail)
    refine bodyPost_ret (v := .tuple #[.agg #[.int .i64 s, .int .i64 p, .int .i64 l, .int .i64 t], .int .i64 u, .int .i64 (t + v)]) (by simp [results, Try.results18, go_sem, qa, qb, qc, qd]) rfl ?_
    refine ⟨s, p, l, t, u, (t + v), rfl, ⟨hs0, hs1⟩, ⟨hp0, hp1⟩, ⟨hl0, hl1⟩, ⟨ht0, ht1⟩, ⟨hu0, hu1⟩, by omega, ?_⟩
    repeat' (first | with_reducible exact B6.out | with_reducible refine Below.setCell ?_ ?_ _ | exact Nat.le_refl _))
end Go.Proofs.Ytijdfoggppmbaaa
