/-
  Drawn arguments of the laws on windows.
-/
import Derived.Test.YtjljnjhdbojdeaaGenW
namespace Go.Proofs.Ytjljnjhdbojdeaa
open Go.RowKit

/-- A drawn window. -/
def DrewW (w : World) (e : Ending) (w' : World) : Prop :=
  ∃ b nx xs A n c, e = .returned (.agg #[.int .i64 b, .int .i64 nx, .slice A n c]) ∧ (-1 ≤ b ∧ b ≤ 1001) ∧ (-1 ≤ nx ∧ nx ≤ 1100) ∧ n ≤ 9 ∧ IS w' A n c xs ∧ Below w.heap.size w w'
/-- A drawn window and a number. -/
def DrewWI (w : World) (e : Ending) (w' : World) : Prop :=
  ∃ b nx xs A n c m, e = .returned (.tuple #[.agg #[.int .i64 b, .int .i64 nx, .slice A n c], .int .i64 m]) ∧ (-1 ≤ b ∧ b ≤ 1001) ∧ (-1 ≤ nx ∧ nx ≤ 1100) ∧ n ≤ 9 ∧ (-2 ≤ m ∧ m ≤ 1010) ∧ IS w' A n c xs ∧ Below w.heap.size w w'
set_option maxHeartbeats 4000000 in
theorem spec_DrawLostBatches_any {A : Option Addr} {n c : Nat} {zs : List Int} (w : World) (h : BS w A n c zs) (hn : n ≤ 1048576) :
    Calls Try.prog 4 #[.slice A n c] w (DrewWI w) := by
  have H := Lib.hid h
  clear h
  go_enter Try.func4, Try.ntmps4
  go_wp2_with (fail)
  refine (newReader_any _ (H.out.alloc _) hn).mono ?_
  rintro e w1 ⟨rfl, hr1, hb1⟩
  have R1 : Hid (RD w1 45 (w.heap.size + 1) 0) := Lib.hid (by simpa using hr1)
  have B1 := Lib.hid (below_then (below_new w _) hb1)
  have Q1 := Lib.hid ((Blk.new w 25 #[.int .i64 0, .int .i64 0, .slice none 0 0]).on hb1)
  have hz1 := R1.out.lt
  clear hr1 hb1
  go_wp2_with (fail)
  refine (someWindow_any (w.heap.size + 1) 0 w1 R1.out (by omega)).mono ?_
  rintro e w2 ⟨b, nx, xs, A2, n2, c2, rfl, hb, hx, hn2, i1, ge1, hr2, hw2⟩
  have I2 := Lib.hid (i1.alloc (.cells #[.int .i64 b, .int .i64 nx, .slice A2 n2 c2] 25))
  have G2 := Lib.hid ge1
  have D2 : Hid (Disj (some ⟨w.heap.size, 0, none⟩) A2) := Lib.hid (ge_disj (show w.heap.size < w1.heap.size + 1 by omega) ge1)
  have hz2 := hw2.size
  have B2 := Lib.hid ((B1.out.trans ((hw2.below (by omega)).mono (by omega))).alloc (by have := B1.out.size; omega) (.cells #[.int .i64 b, .int .i64 nx, .slice A2 n2 c2] 25))
  have Q2 := Lib.hid ((Q1.out.rd hw2 (by omega)).alloc (.cells #[.int .i64 b, .int .i64 nx, .slice A2 n2 c2] 25))
  have R2 := Lib.hid (hr2.below ((below_new w2 (.cells #[.int .i64 b, .int .i64 nx, .slice A2 n2 c2] 25)).mono hr2.lt))
  have X2 := Lib.hid (Blk.new w2 25 #[.int .i64 b, .int .i64 nx, .slice A2 n2 c2])
  clear i1 ge1 hr2 hw2
  go_wp2_with (fail)
  obtain ⟨wy, eW⟩ : ∃ v, v = w2.alloc (.cells #[.int .i64 b, .int .i64 nx, .slice A2 n2 c2] 25) := ⟨_, rfl⟩
  have hzy : w2.heap.size + 1 = wy.heap.size := by rw [eW]; simp
  rw [← eW] at I2 B2 Q2 R2 X2 ⊢
  have hxl : w2.heap.size < wy.heap.size := by omega
  clear eW hzy
  obtain ⟨xa, xb, xc⟩ := X2.out.c3
  go_region_law (go_simp; go_at_call 10; go_must (refine (one_any (n := 6) (c := 6) (xs := [1, 2, 3, 8, 0, 9]) (fun x => 0 ≤ x ∧ x ≤ 9) (w.heap.size + 1) _ _ (R2.out.below (by repeat (first | exact Below.refl _ _ | with_reducible refine Below.drew ?_ | with_reducible refine Below.alloc ?_ (by first | omega | (simp; done) | (simp; omega)) _))) (by omega) (by first | exact (OW.lit wy 3 (w.heap.size + 1 + 1) [1, 2, 3, 8, 0, 9] (by omega) (by decide)).drew | exact OW.lit wy.drew 3 (w.heap.size + 1 + 1) [1, 2, 3, 8, 0, 9] (by show w.heap.size + 1 + 1 ≤ wy.heap.size; omega) (by decide) | exact OW.lit wy 3 (w.heap.size + 1 + 1) [1, 2, 3, 8, 0, 9] (by omega) (by decide)) (by omega) (by omega) (by simp)).mono ?_; rintro e w6 ⟨v, rfl, ⟨hv0, hv1⟩, hr6, hw6⟩; have HW6 : Hid (Rd wy w6 (w.heap.size + 1)) := Lib.hid ((Rd.of_below (a := wy) (by repeat (first | exact Below.refl _ _ | with_reducible refine Below.drew ?_ | with_reducible refine Below.alloc ?_ (by first | omega | (simp; done) | (simp; omega)) _))).trans hw6); have hwv : IntKind.i64.wrap (b + v) = b + v := (by rw [IntKind.wrap_i64]; omega); have B6 := Lib.hid (B2.out.trans ((HW6.out.below (by omega)).mono (by omega))); have X6 := Lib.hid (X2.out.rd HW6.out (by omega)); have Q6 := Lib.hid (Q2.out.rd HW6.out (by omega)); have I6 := Lib.hid (I2.out.rd HW6.out (G2.out.mono (by omega))); clear hr6 hw6 xa xb xc; obtain ⟨xa, xb, xc⟩ := X6.out.c3; obtain ⟨qa, qb, qc⟩ := Q6.out.c3; have f0 := Q6.out.frozen 0; have f1 := Q6.out.frozen 1; have f2 := Q6.out.frozen 2))
  all_goals (
    go_wp2_with (fail)
    refine bodyPost_ret (v := .tuple #[.agg #[.int .i64 b, .int .i64 nx, .slice A2 n2 c2], .int .i64 v]) (by simp [results, Try.results4, go_sem, qa, qb, qc]) rfl ?_
    refine ⟨b, nx, xs, A2, n2, c2, v, rfl, hb, hx, hn2, by omega, ?_, ?_⟩
    · repeat' (first | with_reducible exact I6.out | with_reducible refine IS.setCell ?_ ?_ _ | exact D2.out)
    · repeat' (first | with_reducible exact B6.out | with_reducible refine Below.setCell ?_ ?_ _ | exact Nat.le_refl _))
end Go.Proofs.Ytjljnjhdbojdeaa
