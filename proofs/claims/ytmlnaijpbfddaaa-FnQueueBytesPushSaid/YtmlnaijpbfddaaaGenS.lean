/-
  Drawn queues: anyQueue, and what draws a queue alone. (Its words were written by a program of my own.)
-/
import Derived.Test.YtmlnaijpbfddaaaGenR
import Derived.Deep.RegionHeld3
import Derived.Deep.DeepMust
namespace Go.Proofs.Ytmlnaijpbfddaaa
open Go.RowKit

theorem qfar {g : Nat} {A : Option Addr} {B : Nat} (h : g < B) (k : Ge A B) : Disj (some ⟨g, 0, none⟩) A := Disj.mk (B := B) (fun p hp => by cases hp; exact h) k
theorem qup {g : Nat} {A : Option Addr} {B : Nat} (h : B ≤ g) (k : Lt A B) : Disj (some ⟨g, 0, none⟩) A := (Disj.mk (B := B) k (fun p hp => by cases hp; exact h)).symm
/-- A drawn queue. -/
def DrewQu (R : TypeId) (w : World) (r N : Nat) (e : Ending) (w' : World) : Prop :=
  ∃ xs sh db t A n c A2 n2 c2 A3 n3 c3, e = .returned (.agg #[.slice A n c, .slice A2 n2 c2, .slice A3 n3 c3, .int .i64 t]) ∧ n ≤ 11 ∧ n2 ≤ 4 ∧ n3 ≤ 4 ∧ (-1 ≤ t ∧ t ≤ 3) ∧ TS w' A n c xs ∧ IS w' A2 n2 c2 sh ∧ IS w' A3 n3 c3 db ∧ Ge A w.heap.size ∧ Ge A2 w.heap.size ∧ Ge A3 w.heap.size ∧ RD w' R r N ∧ Rd w w' r
set_option maxHeartbeats 16000000 in
theorem anyQueue_any (r N : Nat) (w : World) (h : RD w 48 r N) (hN : N ≤ 600000) :
    Calls Try.prog 16 #[.pointer (some ⟨r, 0, none⟩)] w (DrewQu 48 w r (N + 45)) := by
  have hr := h.lt
  have H := Lib.hid h
  clear h
  go_enter Try.func16, Try.ntmps16
  go_wp2_with (fail)
  refine (someEntries_any r N _ (H.out.below ((below_new w _).mono hr)) (by omega)).mono ?_
  rintro e w1 ⟨xs, A1, n1, c1, rfl, hn1, o1, hr1, hw1⟩
  have O1 := Lib.hid o1
  have R1 := Lib.hid hr1
  have W1 := Lib.hid ((Rd.of_below (below_new w _)).trans hw1)
  have Q1 := Lib.hid ((Blk.new w 26 #[.slice none 0 0, .slice none 0 0, .slice none 0 0, .int .i64 0]).rd hw1 (by omega))
  have hz1 := hw1.size
  simp at hz1
  clear o1 hr1 hw1
  go_wp2_with (fail)
  refine (pick_any r _ 20 _ R1.out (by omega) (by omega)).mono ?_
  rintro e w2 ⟨a, rfl, ha0, ha1, hr2, hw2⟩
  have ha2 := ha1 (by omega)
  have R2 := Lib.hid hr2
  have W2 := Lib.hid (W1.out.trans hw2)
  have hz2 := hw2.size
  have Z2 := Lib.hid hw2
  clear ha1 hr2 hw2
  go_wp2_with (fail)
  refine (pick_any r _ 20 _ R2.out (by omega) (by omega)).mono ?_
  rintro e w3 ⟨b, rfl, hb0, hb1, hr3, hw3⟩
  have hb2 := hb1 (by omega)
  have R3 := Lib.hid hr3
  have W3 := Lib.hid (W2.out.trans hw3)
  have hz3 := hw3.size
  have Z3 := Lib.hid hw3
  clear hb1 hr3 hw3
  go_wp2_with (fail)
  refine (pick_any r _ 20 _ R3.out (by omega) (by omega)).mono ?_
  rintro e w4 ⟨c, rfl, hc0, hc1, hr4, hw4⟩
  have hc2 := hc1 (by omega)
  have R4 := Lib.hid hr4
  have W4 := Lib.hid (W3.out.trans hw4)
  have hz4 := hw4.size
  have Z4 := Lib.hid hw4
  clear hc1 hr4 hw4
  have ZA := Lib.hid (Z2.out.trans (Z3.out.trans Z4.out))
  have R4 := Lib.hid (R4.out.below ((below_new w4 (.cells #[.int .i64 (1 + a), .int .i64 (1 + b), .int .i64 (1 + c)] 3)).mono R4.out.lt))
  have W4 := Lib.hid (W4.out.alloc (.cells #[.int .i64 (1 + a), .int .i64 (1 + b), .int .i64 (1 + c)] 3))
  have ZA := Lib.hid (ZA.out.alloc (.cells #[.int .i64 (1 + a), .int .i64 (1 + b), .int .i64 (1 + c)] 3))
  have S4 : Hid (OW (w4.alloc (.cells #[.int .i64 (1 + a), .int .i64 (1 + b), .int .i64 (1 + c)] 3)) 3 w4.heap.size (some ⟨w4.heap.size, 0, none⟩) 3 3 [1 + a, 1 + b, 1 + c]) := Lib.hid (by simpa using OW.lit w4 3 w4.heap.size [1 + a, 1 + b, 1 + c] (Nat.le_refl _) (by simp))
  have hy4 : (w4.alloc (.cells #[.int .i64 (1 + a), .int .i64 (1 + b), .int .i64 (1 + c)] 3)).heap.size = w4.heap.size + 1 := by simp
  clear Z2 Z3 Z4
  go_wp2_with (fail)
  refine (pick_any r _ 41 _ R4.out (by omega) (by omega)).mono ?_
  rintro e w5 ⟨d, rfl, hd0, hd1, hr5, hw5⟩
  have hd2 := hd1 (by omega)
  have R5 := Lib.hid hr5
  have W5 := Lib.hid (W4.out.trans hw5)
  have hz5 := hw5.size
  have Z5 := Lib.hid hw5
  clear hd1 hr5 hw5
  go_wp2_with (fail)
  refine (pick_any r _ 20 _ R5.out (by omega) (by omega)).mono ?_
  rintro e w6 ⟨e1, rfl, he10, he11, hr6, hw6⟩
  have he12 := he11 (by omega)
  have R6 := Lib.hid hr6
  have W6 := Lib.hid (W5.out.trans hw6)
  have hz6 := hw6.size
  have Z6 := Lib.hid hw6
  clear he11 hr6 hw6
  go_wp2_with (fail)
  refine (pick_any r _ 20 _ R6.out (by omega) (by omega)).mono ?_
  rintro e w7 ⟨f, rfl, hf0, hf1, hr7, hw7⟩
  have hf2 := hf1 (by omega)
  have R7 := Lib.hid hr7
  have W7 := Lib.hid (W6.out.trans hw7)
  have hz7 := hw7.size
  have Z7 := Lib.hid hw7
  clear hf1 hr7 hw7
  have ZB := Lib.hid (Z5.out.trans (Z6.out.trans Z7.out))
  have R7 := Lib.hid (R7.out.below ((below_new w7 (.cells #[.int .i64 d, .int .i64 e1, .int .i64 f] 3)).mono R7.out.lt))
  have W7 := Lib.hid (W7.out.alloc (.cells #[.int .i64 d, .int .i64 e1, .int .i64 f] 3))
  have ZB := Lib.hid (ZB.out.alloc (.cells #[.int .i64 d, .int .i64 e1, .int .i64 f] 3))
  have S7 : Hid (OW (w7.alloc (.cells #[.int .i64 d, .int .i64 e1, .int .i64 f] 3)) 3 w7.heap.size (some ⟨w7.heap.size, 0, none⟩) 3 3 [d, e1, f]) := Lib.hid (by simpa using OW.lit w7 3 w7.heap.size [d, e1, f] (Nat.le_refl _) (by simp))
  have hy77 : (w7.alloc (.cells #[.int .i64 d, .int .i64 e1, .int .i64 f] 3)).heap.size = w7.heap.size + 1 := by simp
  clear Z5 Z6 Z7
  go_wp2_with (fail)
  refine (pick_any r _ 3 _ R7.out (by omega) (by omega)).mono ?_
  rintro e w8 ⟨t, rfl, ht0, ht1, hr8, hw8⟩
  have ht2 := ht1 (by omega)
  have R8 := Lib.hid hr8
  have W8 := Lib.hid (W7.out.trans hw8)
  have hz8 := hw8.size
  have Z8 := Lib.hid hw8
  clear ht1 hr8 hw8
  have R8 := Lib.hid (R8.out.below ((below_new w8 (.cells #[.slice A1 n1 c1, .slice (some ⟨w4.heap.size, 0, none⟩) 3 3, .slice (some ⟨w7.heap.size, 0, none⟩) 3 3, .int .i64 t] 26)).mono R8.out.lt))
  have W8 := Lib.hid (W8.out.alloc (.cells #[.slice A1 n1 c1, .slice (some ⟨w4.heap.size, 0, none⟩) 3 3, .slice (some ⟨w7.heap.size, 0, none⟩) 3 3, .int .i64 t] 26))
  have Z8 := Lib.hid (Z8.out.alloc (.cells #[.slice A1 n1 c1, .slice (some ⟨w4.heap.size, 0, none⟩) 3 3, .slice (some ⟨w7.heap.size, 0, none⟩) 3 3, .int .i64 t] 26))
  have X8 := Lib.hid (Blk.new w8 26 #[.slice A1 n1 c1, .slice (some ⟨w4.heap.size, 0, none⟩) 3 3, .slice (some ⟨w7.heap.size, 0, none⟩) 3 3, .int .i64 t])
  have hx8 : (w8.alloc (.cells #[.slice A1 n1 c1, .slice (some ⟨w4.heap.size, 0, none⟩) 3 3, .slice (some ⟨w7.heap.size, 0, none⟩) 3 3, .int .i64 t] 26)).heap.size = w8.heap.size + 1 := by simp
  have h48 : w4.heap.size < w7.heap.size := by omega
  have h78 : w7.heap.size < w8.heap.size := by omega
  go_wp2_with (fail)
  refine (pick_any r _ 24 _ R8.out (by omega) (by omega)).mono ?_
  rintro e w10 ⟨k, rfl, hk0, hk1, hr10, hw10⟩
  have R := Lib.hid hr10
  have W := Lib.hid (W8.out.trans hw10)
  have Z9 := Lib.hid (Z8.out.trans hw10)
  have X := Lib.hid (X8.out.rd hw10 (by omega))
  have S2 := Lib.hid (S4.out.rd (ZB.out.trans Z9.out) (by omega))
  have S3 := Lib.hid (S7.out.rd Z9.out (by omega))
  have O := Lib.hid (O1.out.rd (ZA.out.trans (ZB.out.trans Z9.out)) (by simp; omega))
  have Q0 := Lib.hid (Q1.out.rd (ZA.out.trans (ZB.out.trans Z9.out)) (by omega))
  have hz10 := hw10.size
  have L1 := Lib.hid O1.out.lt
  have G1 := Lib.hid (O1.out.ge.mono (show w.heap.size + 1 ≤ _ by simp))
  clear hr10 hw10 hk1 R1 R2 R3 R4 R5 R6 R7 R8 W1 W2 W3 W4 W5 W6 W7 W8 ZA ZB Z8 Z9 X8 S4 S7 O1 Q1
  have hl14 : w1.heap.size ≤ w8.heap.size := by omega
  obtain ⟨x, hx⟩ : ∃ x, w8.heap.size = x := ⟨_, rfl⟩
  obtain ⟨ga, hga⟩ : ∃ x, w4.heap.size = x := ⟨_, rfl⟩
  obtain ⟨gb, hgb⟩ : ∃ x, w7.heap.size = x := ⟨_, rfl⟩
  rw [hga] at X S2 ⊢
  rw [hgb] at X S3 ⊢
  rw [hx] at X ⊢
  have hxz : x < w10.heap.size := X.out.lt
  have hqx : w.heap.size < x := by omega
  have hrx : r < x := by omega
  have hqn : w.heap.size ≠ x := by omega
  have hxr : x ≠ r := by omega
  have hqr : w.heap.size ≠ r := by omega
  have hgx : gb < x := by omega
  have hga1 : w.heap.size < ga := by omega
  have hab : ga < gb := by omega
  have DX1 : Hid (Disj (some ⟨x, 0, none⟩) A1) := Lib.hid (qup (by omega) L1.out)
  have DQ1 : Hid (Disj (some ⟨w.heap.size, 0, none⟩) A1) := Lib.hid (qfar (Nat.lt_succ_self _) G1.out)
  have DX2 : Hid (Disj (some ⟨x, 0, none⟩) (some ⟨ga, 0, none⟩)) := Lib.hid (fun p q hp hq => by cases hp; cases hq; show x ≠ ga; omega)
  have DQ2 : Hid (Disj (some ⟨w.heap.size, 0, none⟩) (some ⟨ga, 0, none⟩)) := Lib.hid (fun p q hp hq => by cases hp; cases hq; show w.heap.size ≠ ga; omega)
  have DX3 : Hid (Disj (some ⟨x, 0, none⟩) (some ⟨gb, 0, none⟩)) := Lib.hid (fun p q hp hq => by cases hp; cases hq; show x ≠ gb; omega)
  have DQ3 : Hid (Disj (some ⟨w.heap.size, 0, none⟩) (some ⟨gb, 0, none⟩)) := Lib.hid (fun p q hp hq => by cases hp; cases hq; show w.heap.size ≠ gb; omega)
  have GA2 : Hid (Ge (some ⟨ga, 0, none⟩) (w.heap.size + 1)) := Lib.hid (fun p hp => by cases hp; show w.heap.size + 1 ≤ ga; omega)
  have GA3 : Hid (Ge (some ⟨gb, 0, none⟩) (w.heap.size + 1)) := Lib.hid (fun p hp => by cases hp; show w.heap.size + 1 ≤ gb; omega)
  have hrw : r < w.heap.size := hr
  have hrz : r < w10.heap.size := by omega
  clear hx hga hgb hl14 h48 h78 hy4 hy77 hx8 hz1 hz2 hz3 hz4 hz5 hz6 hz7 hz8 hz10

  by_cases kk0 : k = 0
  · subst kk0
    obtain ⟨xa, xb, xc, xd⟩ := X.out.c4
    go_wp2_with (fail)
    refine (spoil_any r _ 21 _ R.out (by omega) S2.out.is (by omega)).mono ?_
    clear xa xb xc xd
    rintro e w5 ⟨ys, A5, n5, c5, rfl, hn5, i5, ge5, hr5, hw5⟩
    have I5 := Lib.hid i5
    have R5 := Lib.hid hr5
    have W5 := Lib.hid (W.out.trans hw5)
    have X5 := Lib.hid (X.out.rd hw5 hxr)
    have Q5 := Lib.hid (Q0.out.rd hw5 hqr)
    have T5 := Lib.hid (O.out.rd hw5 (by simp; omega)).ts
    have J5 := Lib.hid (S3.out.rd hw5 (by omega)).is
    have DX5 : Hid (Disj (some ⟨x, 0, none⟩) A5) := Lib.hid (qfar hxz ge5)
    have DQ5 : Hid (Disj (some ⟨w.heap.size, 0, none⟩) A5) := Lib.hid (qfar (show w.heap.size < w10.heap.size by omega) ge5)
    have G5 : Hid (Ge A5 w.heap.size) := Lib.hid (ge5.mono (by omega))
    clear i5 ge5 hr5 hw5
    obtain ⟨xa, xb, xc, xd⟩ := X5.out.c4
    obtain ⟨qa, qb, qc, qd⟩ := Q5.out.c4
    have g1 := X5.out.frozen 1
    have f0 := Q5.out.frozen 0
    have f1 := Q5.out.frozen 1
    have f2 := Q5.out.frozen 2
    have f3 := Q5.out.frozen 3
    go_wp2_with (fail)
    refine bodyPost_ret (v := .agg #[.slice A1 n1 c1, .slice A5 n5 c5, .slice (some ⟨gb, 0, none⟩) 3 3, .int .i64 t]) (by simp [results, Try.results16, go_sem, qa, qb, qc, qd]) rfl ?_
    refine ⟨xs, ys, [d, e1, f], t, A1, n1, c1, A5, n5, c5, (some ⟨gb, 0, none⟩), 3, 3, rfl, by omega, by omega, by omega, ⟨by omega, by omega⟩, ?_, ?_, ?_, (G1.out.mono (Nat.le_succ _)), G5.out, (GA3.out.mono (Nat.le_succ _)), ?_, ?_⟩
    · repeat' (first | with_reducible exact T5.out | refine TS.setCell ?_ ?_ _ | exact DX1.out | exact DQ1.out)
    · repeat' (first | with_reducible exact I5.out | refine IS.setCell ?_ ?_ _ | exact DX5.out | exact DQ5.out)
    · repeat' (first | with_reducible exact J5.out | refine IS.setCell ?_ ?_ _ | exact DX3.out | exact DQ3.out)
    · refine RD.mono (RD.below R5.out ?_) (by omega)
      repeat' (first | exact Below.refl _ _ | refine Below.setCell ?_ ?_ _ | exact hrw | exact hrx)
    · repeat' (first | with_reducible exact W5.out | refine Rd.setCell ?_ ?_ _ | exact Nat.le_refl _ | exact Nat.le_of_lt hqx)
  have d0 : (k == 0) = false := by simpa using kk0
  by_cases kk1 : k = 1
  · subst kk1
    obtain ⟨xa, xb, xc, xd⟩ := X.out.c4
    go_wp2_with (fail)
    refine (spoil_any r _ 41 _ R.out (by omega) S3.out.is (by omega)).mono ?_
    clear xa xb xc xd
    rintro e w5 ⟨ys, A5, n5, c5, rfl, hn5, i5, ge5, hr5, hw5⟩
    have I5 := Lib.hid i5
    have R5 := Lib.hid hr5
    have W5 := Lib.hid (W.out.trans hw5)
    have X5 := Lib.hid (X.out.rd hw5 hxr)
    have Q5 := Lib.hid (Q0.out.rd hw5 hqr)
    have T5 := Lib.hid (O.out.rd hw5 (by simp; omega)).ts
    have J5 := Lib.hid (S2.out.rd hw5 (by omega)).is
    have DX5 : Hid (Disj (some ⟨x, 0, none⟩) A5) := Lib.hid (qfar hxz ge5)
    have DQ5 : Hid (Disj (some ⟨w.heap.size, 0, none⟩) A5) := Lib.hid (qfar (show w.heap.size < w10.heap.size by omega) ge5)
    have G5 : Hid (Ge A5 w.heap.size) := Lib.hid (ge5.mono (by omega))
    clear i5 ge5 hr5 hw5
    obtain ⟨xa, xb, xc, xd⟩ := X5.out.c4
    obtain ⟨qa, qb, qc, qd⟩ := Q5.out.c4
    have g2 := X5.out.frozen 2
    have f0 := Q5.out.frozen 0
    have f1 := Q5.out.frozen 1
    have f2 := Q5.out.frozen 2
    have f3 := Q5.out.frozen 3
    go_wp2_with (fail)
    refine bodyPost_ret (v := .agg #[.slice A1 n1 c1, .slice (some ⟨ga, 0, none⟩) 3 3, .slice A5 n5 c5, .int .i64 t]) (by simp [results, Try.results16, go_sem, qa, qb, qc, qd]) rfl ?_
    refine ⟨xs, [1 + a, 1 + b, 1 + c], ys, t, A1, n1, c1, (some ⟨ga, 0, none⟩), 3, 3, A5, n5, c5, rfl, by omega, by omega, by omega, ⟨by omega, by omega⟩, ?_, ?_, ?_, (G1.out.mono (Nat.le_succ _)), (GA2.out.mono (Nat.le_succ _)), G5.out, ?_, ?_⟩
    · repeat' (first | with_reducible exact T5.out | refine TS.setCell ?_ ?_ _ | exact DX1.out | exact DQ1.out)
    · repeat' (first | with_reducible exact J5.out | refine IS.setCell ?_ ?_ _ | exact DX2.out | exact DQ2.out)
    · repeat' (first | with_reducible exact I5.out | refine IS.setCell ?_ ?_ _ | exact DX5.out | exact DQ5.out)
    · refine RD.mono (RD.below R5.out ?_) (by omega)
      repeat' (first | exact Below.refl _ _ | refine Below.setCell ?_ ?_ _ | exact hrw | exact hrx)
    · repeat' (first | with_reducible exact W5.out | refine Rd.setCell ?_ ?_ _ | exact Nat.le_refl _ | exact Nat.le_of_lt hqx)
  have d1 : (k == 1) = false := by simpa using kk1
  by_cases kk2 : k = 2
  · subst kk2
    go_wp2_with (fail)
    refine (one_any (xs := [-1, 3]) (fun x => -1 ≤ x ∧ x ≤ 3) r _ _ (R.out.below ((below_new w10 _).mono (R.out.lt))) (by omega) (by simpa using OW.lit w10 3 (r + 1) [-1, 3] (R.out.lt) (by simp)) (by omega) (by omega) (by simp)).mono ?_
    rintro e w5 ⟨v, rfl, ⟨hv0, hv1⟩, hr5, hw5⟩
    have R5 := Lib.hid hr5
    have U5 := Lib.hid ((Rd.of_below (below_new w10 (.cells #[.int .i64 (-1), .int .i64 3] 3))).trans hw5)
    clear hr5 hw5
    have W5 := Lib.hid (W.out.trans U5.out)
    have X5 := Lib.hid (X.out.rd U5.out hxr)
    have Q5 := Lib.hid (Q0.out.rd U5.out hqr)
    have T5 := Lib.hid (O.out.rd U5.out (by simp; omega)).ts
    have I5 := Lib.hid (S2.out.rd U5.out (by omega)).is
    have J5 := Lib.hid (S3.out.rd U5.out (by omega)).is
    obtain ⟨xa, xb, xc, xd⟩ := X5.out.c4
    obtain ⟨qa, qb, qc, qd⟩ := Q5.out.c4
    have g3 := X5.out.frozen 3
    have f0 := Q5.out.frozen 0
    have f1 := Q5.out.frozen 1
    have f2 := Q5.out.frozen 2
    have f3 := Q5.out.frozen 3
    go_wp2_with (fail)
    refine bodyPost_ret (v := .agg #[.slice A1 n1 c1, .slice (some ⟨ga, 0, none⟩) 3 3, .slice (some ⟨gb, 0, none⟩) 3 3, .int .i64 v]) (by simp [results, Try.results16, go_sem, qa, qb, qc, qd]) rfl ?_
    refine ⟨xs, [1 + a, 1 + b, 1 + c], [d, e1, f], v, A1, n1, c1, (some ⟨ga, 0, none⟩), 3, 3, (some ⟨gb, 0, none⟩), 3, 3, rfl, by omega, by omega, by omega, ⟨by omega, by omega⟩, ?_, ?_, ?_, (G1.out.mono (Nat.le_succ _)), (GA2.out.mono (Nat.le_succ _)), (GA3.out.mono (Nat.le_succ _)), ?_, ?_⟩
    · repeat' (first | with_reducible exact T5.out | refine TS.setCell ?_ ?_ _ | exact DX1.out | exact DQ1.out)
    · repeat' (first | with_reducible exact I5.out | refine IS.setCell ?_ ?_ _ | exact DX2.out | exact DQ2.out)
    · repeat' (first | with_reducible exact J5.out | refine IS.setCell ?_ ?_ _ | exact DX3.out | exact DQ3.out)
    · refine RD.mono (RD.below R5.out ?_) (by omega)
      repeat' (first | exact Below.refl _ _ | refine Below.setCell ?_ ?_ _ | exact hrw | exact hrx)
    · repeat' (first | with_reducible exact W5.out | refine Rd.setCell ?_ ?_ _ | exact Nat.le_refl _ | exact Nat.le_of_lt hqx)
  have d2 : (k == 2) = false := by simpa using kk2
  by_cases kk3 : k = 3
  · subst kk3
    obtain ⟨xa, xb, xc, xd⟩ := X.out.c4
    have O0 : Hid (OT (w10.alloc (.cells #[] 28)) 28 w10.heap.size (some ⟨w10.heap.size, 0, none⟩) 0 0 []) := Lib.hid (by simpa [cellsT] using OT.lit w10 28 w10.heap.size [] (Nat.le_refl _) (by simp))
    have T0 := Lib.hid (O.out.ts.alloc (.cells #[] 28))
    have U0 := Lib.hid ((Rd.refl w10 r).alloc (.cells #[] 28))
    have R0 := Lib.hid (R.out.below ((below_new w10 (.cells #[] 28)).mono R.out.lt))
    go_wp2_with (at_builtin; go_must (refine wpList_append_ts _ rfl (.tmp 50) (.tmp 52) _ rfl w10.heap.size 28 infoEnt2 Try.underlying23 _ _ _ [] rfl O0.out _ _ _ xs rfl T0.out (by omega) (by simp) ?_); intro A8 c8 w8' hown8 hg8; have O8 : Hid (OT w8' 28 w10.heap.size A8 n1 c8 xs) := Lib.hid (by simpa using hown8); have R8 := Lib.hid (R0.out.row hg8 (O0.out.ge.mono R.out.lt)); have U8 := Lib.hid (U0.out.row hg8 O0.out.ge); clear hown8 hg8)
    clear xa xb xc xd
    refine (one_any (xs := [100, 5]) (fun _ => True) r _ _ (R8.out.below ((below_new w8' _).mono (R8.out.lt))) (by omega) (by simpa using OW.lit w8' 3 (r + 1) [100, 5] (R8.out.lt) (by simp)) (by omega) (by omega) (by simp)).mono ?_
    rintro e w11 ⟨ya, rfl, _, hr11, hw11⟩
    have R11 := Lib.hid hr11
    have U11 := Lib.hid ((Rd.of_below (below_new w8' (.cells #[.int .i64 100, .int .i64 5] 3))).trans hw11)
    clear hr11 hw11
    have O11 := Lib.hid (O8.out.rd U11.out hrz)
    have V11 := Lib.hid (U8.out.trans U11.out)
    go_wp2_with (fail)
    refine (one_any (xs := [3, 0]) (fun _ => True) r _ _ (R11.out.below ((below_new w11 _).mono (R11.out.lt))) (by omega) (by simpa using OW.lit w11 3 (r + 1) [3, 0] (R11.out.lt) (by simp)) (by omega) (by omega) (by simp)).mono ?_
    rintro e w12 ⟨yb, rfl, _, hr12, hw12⟩
    have R12 := Lib.hid hr12
    have U12 := Lib.hid ((Rd.of_below (below_new w11 (.cells #[.int .i64 3, .int .i64 0] 3))).trans hw12)
    clear hr12 hw12
    have O12 := Lib.hid (O11.out.rd U12.out hrz)
    have V12 := Lib.hid (V11.out.trans U12.out)
    go_wp2_with (fail)
    refine (one_any (xs := [0, 21, 5]) (fun _ => True) r _ _ (R12.out.below ((below_new w12 _).mono (R12.out.lt))) (by omega) (by simpa using OW.lit w12 3 (r + 1) [0, 21, 5] (R12.out.lt) (by simp)) (by omega) (by omega) (by simp)).mono ?_
    rintro e w13 ⟨yc, rfl, _, hr13, hw13⟩
    have R13 := Lib.hid hr13
    have U13 := Lib.hid ((Rd.of_below (below_new w12 (.cells #[.int .i64 0, .int .i64 21, .int .i64 5] 3))).trans hw13)
    clear hr13 hw13
    have O13 := Lib.hid ((O12.out.rd U13.out hrz).alloc (.cells #[.int .i64 ya, .int .i64 yb, .int .i64 yc] 28))
    have V13 := Lib.hid ((V12.out.trans U13.out).alloc (.cells #[.int .i64 ya, .int .i64 yb, .int .i64 yc] 28))
    have SV := Lib.hid (ts_one w13 28 ya yb yc)
    have R13 := Lib.hid (R13.out.below ((below_new w13 (.cells #[.int .i64 ya, .int .i64 yb, .int .i64 yc] 28)).mono R13.out.lt))
    have hz13 := V13.out.size
    have X13 := Lib.hid (X.out.rd V13.out hxr)
    have hxl13 := X13.out.lt
    obtain ⟨xa, xb, xc, xd⟩ := X13.out.c4
    go_wp2_with (at_builtin; go_must (refine wpList_append_ts _ rfl (.tmp 53) (.tmp 64) _ rfl w10.heap.size 28 infoEnt2 Try.underlying23 _ _ _ _ rfl O13.out _ _ _ [⟨ya, yb, yc⟩] rfl SV.out (by omega) hz13 ?_); intro A5 c5 w5 hown5 hg5; have O5 := Lib.hid hown5; have R5 := Lib.hid (R13.out.row hg5 (O13.out.ge.mono R.out.lt)); have V5 := Lib.hid (V13.out.row hg5 O13.out.ge); clear hown5 hg5; have X5 := Lib.hid (X.out.rd V5.out hxr); have g0' := X5.out.frozen 0; obtain ⟨xa5, xb5, xc5, xd5⟩ := X5.out.c4; have Q5 := Lib.hid (Q0.out.rd V5.out hqr); have p0' := Q5.out.frozen 0; have p1' := Q5.out.frozen 1; have p2' := Q5.out.frozen 2; have p3' := Q5.out.frozen 3; obtain ⟨qa5, qb5, qc5, qd5⟩ := Q5.out.c4)
    clear xa xb xc xd xa5 xb5 xc5 xd5 g0' p0' p1' p2' p3' qa5 qb5 qc5 qd5
    have W5 := Lib.hid (W.out.trans V5.out)
    have I5 := Lib.hid (S2.out.rd V5.out (by omega)).is
    have J5 := Lib.hid (S3.out.rd V5.out (by omega)).is
    have DX5 : Hid (Disj (some ⟨x, 0, none⟩) A5) := Lib.hid (qfar hxz O5.out.ge)
    have DQ5 : Hid (Disj (some ⟨w.heap.size, 0, none⟩) A5) := Lib.hid (qfar (show w.heap.size < w10.heap.size by omega) O5.out.ge)
    obtain ⟨qa, qb, qc, qd⟩ := Q5.out.c4
    refine bodyPost_ret (v := .agg #[.slice A5 (n1 + 1) c5, .slice (some ⟨ga, 0, none⟩) 3 3, .slice (some ⟨gb, 0, none⟩) 3 3, .int .i64 t]) (by simp [results, Try.results16, go_sem, qa, qb, qc, qd]) rfl ?_
    refine ⟨(xs ++ [⟨ya, yb, yc⟩]), [1 + a, 1 + b, 1 + c], [d, e1, f], t, A5, (n1 + 1), c5, (some ⟨ga, 0, none⟩), 3, 3, (some ⟨gb, 0, none⟩), 3, 3, rfl, by omega, by omega, by omega, ⟨by omega, by omega⟩, ?_, ?_, ?_, (O5.out.ge.mono (by omega)), (GA2.out.mono (Nat.le_succ _)), (GA3.out.mono (Nat.le_succ _)), ?_, ?_⟩
    · repeat' (first | with_reducible exact O5.out.ts | refine TS.setCell ?_ ?_ _ | exact DX5.out | exact DQ5.out)
    · repeat' (first | with_reducible exact I5.out | refine IS.setCell ?_ ?_ _ | exact DX2.out | exact DQ2.out)
    · repeat' (first | with_reducible exact J5.out | refine IS.setCell ?_ ?_ _ | exact DX3.out | exact DQ3.out)
    · refine RD.mono (RD.below R5.out ?_) (by omega)
      repeat' (first | exact Below.refl _ _ | refine Below.setCell ?_ ?_ _ | exact hrw | exact hrx)
    · repeat' (first | with_reducible exact W5.out | refine Rd.setCell ?_ ?_ _ | exact Nat.le_refl _ | exact Nat.le_of_lt hqx)
  have d3 : (k == 3) = false := by simpa using kk3
  obtain ⟨xa, xb, xc, xd⟩ := X.out.c4
  obtain ⟨qa, qb, qc, qd⟩ := Q0.out.c4
  have f0 := Q0.out.frozen 0
  have f1 := Q0.out.frozen 1
  have f2 := Q0.out.frozen 2
  have f3 := Q0.out.frozen 3
  go_wp2_with (fail)
  refine bodyPost_ret (v := .agg #[.slice A1 n1 c1, .slice (some ⟨ga, 0, none⟩) 3 3, .slice (some ⟨gb, 0, none⟩) 3 3, .int .i64 t]) (by simp [results, Try.results16, go_sem, qa, qb, qc, qd]) rfl ?_
  refine ⟨xs, [1 + a, 1 + b, 1 + c], [d, e1, f], t, A1, n1, c1, (some ⟨ga, 0, none⟩), 3, 3, (some ⟨gb, 0, none⟩), 3, 3, rfl, by omega, by omega, by omega, ⟨by omega, by omega⟩, ?_, ?_, ?_, (G1.out.mono (Nat.le_succ _)), (GA2.out.mono (Nat.le_succ _)), (GA3.out.mono (Nat.le_succ _)), ?_, ?_⟩
  · repeat' (first | with_reducible exact O.out.ts | refine TS.setCell ?_ ?_ _ | exact DX1.out | exact DQ1.out)
  · repeat' (first | with_reducible exact S2.out.is | refine IS.setCell ?_ ?_ _ | exact DX2.out | exact DQ2.out)
  · repeat' (first | with_reducible exact S3.out.is | refine IS.setCell ?_ ?_ _ | exact DX3.out | exact DQ3.out)
  · refine RD.mono (RD.below R.out ?_) (by omega)
    repeat' (first | exact Below.refl _ _ | refine Below.setCell ?_ ?_ _ | exact hrw | exact hrx)
  · repeat' (first | with_reducible exact W.out | refine Rd.setCell ?_ ?_ _ | exact Nat.le_refl _ | exact Nat.le_of_lt hqx)
end Go.Proofs.Ytmlnaijpbfddaaa
