/-
  Drawn arenas that may be spoilt. (Its words were written by a program of my own.)
-/
import Derived.Test.YtleoncjdhlomaaaGenD
namespace Go.Proofs.Ytleoncjdhlomaaa
open Go.RowKit
theorem ts_one (w : World) (T : Nat) (a b c : Int) : TS (w.alloc (.cells #[.int .i64 a, .int .i64 b, .int .i64 c] T)) (some ⟨w.heap.size, 0, none⟩) 1 1 [⟨a, b, c⟩] := by
  have h := (OT.lit w T 0 [⟨a, b, c⟩] (Nat.zero_le _) (by simp)).ts
  simpa [cellsT] using h
theorem lt_set {A : Option Addr} {w : World} (h : Lt A w.heap.size) (p : Addr) (u : Value) : Lt A (w.setCell p u).heap.size := fun q hq => by have := h q hq; simpa [World.setCell] using this
set_option maxHeartbeats 1600000 in
theorem anyArena_any (r N : Nat) (w : World) (h : RD w 69 r N) (hN : N ≤ 600000) :
    Calls Try.prog 36 #[.pointer (some ⟨r, 0, none⟩)] w (DrewAr 69 w r (N + 60) 11) := by
  have hr := h.lt
  have H := Lib.hid h
  clear h
  go_enter Try.func36, Try.ntmps36
  go_wp2_with (fail)
  refine (someArena_any r N _ (H.out.below ((below_new w _).mono hr)) (by omega)).mono ?_
  rintro e w1 ⟨s, xs, A, n, c, rfl, hn, t1, ge1, lt1, hr1, hw1⟩
  have T1 := Lib.hid (t1.alloc (.cells #[.int .i64 s, .slice A n c] 25))
  have GE := Lib.hid (ge1.mono (show w.heap.size + 1 ≤ _ by simp))
  have LT := Lib.hid lt1
  have R1 := Lib.hid (hr1.below ((below_new w1 (.cells #[.int .i64 s, .slice A n c] 25)).mono hr1.lt))
  have W1 := Lib.hid (((Rd.of_below (below_new w _)).trans hw1).alloc (.cells #[.int .i64 s, .slice A n c] 25))
  have Q1 := Lib.hid (((Blk.new w 25 #[.int .i64 0, .slice none 0 0]).rd hw1 (by omega)).alloc (.cells #[.int .i64 s, .slice A n c] 25))
  have X1 := Lib.hid (Blk.new w1 25 #[.int .i64 s, .slice A n c])
  have hz1 := hw1.size
  simp at hz1
  have hy1 : (w1.alloc (.cells #[.int .i64 s, .slice A n c] 25)).heap.size = w1.heap.size + 1 := by simp
  obtain ⟨x, hx⟩ : ∃ x, w1.heap.size = x := ⟨_, rfl⟩
  have DX : Hid (Disj (some ⟨x, 0, none⟩) A) := Lib.hid (fun p q hp hq e => by cases hp; have := lt1 q hq; simp at e; omega)
  have DQ : Hid (Disj (some ⟨w.heap.size, 0, none⟩) A) := Lib.hid (ge_disj (Nat.lt_succ_self _) GE.out)
  rw [hx] at X1 hy1 hz1
  clear t1 ge1 lt1 hr1 hw1
  have hxr : x ≠ r := by omega
  have hqr : w.heap.size ≠ r := by omega
  have hqx : w.heap.size < x := by omega
  have hrx1 : r + 1 ≤ x := by omega
  have hrq1 : r + 1 ≤ w.heap.size := by omega
  go_wp2_with (fail)
  refine (pick_any r _ 20 _ R1.out (by omega) (by omega)).mono ?_
  rintro e w2 ⟨k, rfl, hk0, hk1, hr2, hw2⟩
  have R := Lib.hid hr2
  have W := Lib.hid (W1.out.trans hw2)
  have Q := Lib.hid (Q1.out.rd hw2 hqr)
  have X := Lib.hid (X1.out.rd hw2 hxr)
  have T := Lib.hid (T1.out.rd hw2 (GE.out.mono (by omega)))
  have hz2 : x + 1 ≤ w2.heap.size := by have := hw2.size; omega
  have LA : Hid (Lt A w2.heap.size) := Lib.hid (LT.out.mono (by omega))
  clear hr2 hw2 hk1 R1 W1 Q1 X1 T1 LT hy1 hx
  by_cases k0 : k = 0
  · subst k0
    go_wp2_with (fail)
    refine (one_any (xs := [-1, 65, 3]) (fun _ => True) r _ _ (R.out.below ((below_new w2 _).mono R.out.lt)) (by omega) (by simpa using OW.lit w2 3 (r + 1) [-1, 65, 3] (by omega) (by simp)) (by omega) (by omega) (by simp)).mono ?_
    rintro e w3 ⟨v, rfl, _, hr3, hw3⟩
    have HW3 := Lib.hid ((Rd.of_below (r := r) (below_new w2 (.cells #[.int .i64 (-1), .int .i64 65, .int .i64 3] 3))).trans hw3)
    have R3 := Lib.hid hr3
    have W3 := Lib.hid (W.out.trans HW3.out)
    have Q3 := Lib.hid (Q.out.rd HW3.out hqr)
    have X3 := Lib.hid (X.out.rd HW3.out hxr)
    have T3 := Lib.hid (T.out.rd HW3.out (GE.out.mono (by omega)))
    have L3 : Hid (Lt A w3.heap.size) := Lib.hid (LA.out.mono HW3.out.size)
    clear hr3 hw3
    obtain ⟨xa, xb⟩ := X3.out.c2
    obtain ⟨qa, qb⟩ := Q3.out.c2
    have f0 := Q3.out.frozen 0
    have f1 := Q3.out.frozen 1
    have g0 := X3.out.frozen 0
    have g1 := X3.out.frozen 1
    go_wp2_with (fail)
    refine bodyPost_ret (v := .agg #[.int .i64 v, .slice A n c]) (by simp [results, Try.results36, go_sem, qa, qb]) rfl ?_
    refine ⟨v, xs, A, n, c, rfl, by omega, ?_, GE.out.mono (by omega), ?_, ?_, ?_⟩
    · repeat' (first | with_reducible exact T3.out | refine TS.setCell ?_ ?_ _ | exact DX.out | exact DQ.out)
    · repeat' (first | with_reducible exact L3.out | refine lt_set ?_ _ _)
    · refine RD.mono (RD.below R3.out ?_) (by omega)
      repeat' (first | exact Below.refl _ _ | refine Below.setCell ?_ ?_ _ | exact hrx1 | exact hrq1)
    · repeat' (first | with_reducible exact W3.out | refine Rd.setCell ?_ ?_ _ | exact Nat.le_refl _ | exact Nat.le_of_lt hqx)
  have d0 : (k == 0) = false := by simpa using k0
  by_cases k1 : k = 1
  · subst k1
    have OL : Hid (OT (w2.alloc (.cells #[] 39)) 39 w2.heap.size (some ⟨w2.heap.size, 0, none⟩) 0 0 []) := Lib.hid (by simpa [cellsT] using OT.lit w2 39 w2.heap.size [] (Nat.le_refl _) (by simp))
    have TL := Lib.hid (T.out.alloc (.cells #[] 39))
    have hxl : x < w2.heap.size := by omega
    obtain ⟨xa, xb⟩ := X.out.c2
    go_wp2_with (at_builtin; go_must (refine wpList_append_ts _ rfl (.tmp 16) (.tmp 18) _ rfl w2.heap.size 39 infoBlk Try.underlying23 _ _ _ _ rfl OL.out _ _ _ _ rfl TL.out (by omega) (by simp) ?_); intro A3 c3 w3 hown3 hg3; have O3 := Lib.hid hown3; have B3 := Lib.hid (((Below.refl w2.heap.size w2).alloc (Nat.le_refl _) _).grown hg3 (by simp) (by intro k hk; simp at hk; omega)); clear hown3 hg3)
    have HW3 : Hid (Rd w2 w3 r) := Lib.hid (Rd.of_below B3.out)
    have R3 := Lib.hid (R.out.below (B3.out.mono R.out.lt))
    have hz3 := B3.out.size
    have hn3 : 0 + n = n := Nat.zero_add n
    refine (one_any (xs := [0, 100]) (fun _ => True) r _ _ (R3.out.below ((below_new w3 _).mono R3.out.lt)) (by omega) (by simpa using OW.lit w3 3 (r + 1) [0, 100] (by omega) (by simp)) (by omega) (by omega) (by simp)).mono ?_
    rintro e w4 ⟨v, rfl, _, hr4, hw4⟩
    have HW4 := Lib.hid ((Rd.of_below (r := r) (below_new w3 (.cells #[.int .i64 0, .int .i64 100] 3))).trans hw4)
    have R4 := Lib.hid hr4
    have O4 := Lib.hid (O3.out.rd HW4.out (by omega))
    have hz4 := HW4.out.size
    clear hr4 hw4 xa xb
    go_wp2_with (fail)
    refine (pick_any r _ 30 _ R4.out (by omega) (by omega)).mono ?_
    rintro e w5 ⟨u, rfl, _, _, hr5, hw5⟩
    have HW5 := Lib.hid hw5
    have R5 := Lib.hid hr5
    have O5 := Lib.hid (O4.out.rd hw5 (by omega))
    have hz5 := hw5.size
    clear hr5 hw5
    go_wp2_with (fail)
    refine (one_any (xs := [0, 1, 40]) (fun _ => True) r _ _ (R5.out.below ((below_new w5 _).mono R5.out.lt)) (by omega) (by simpa using OW.lit w5 3 (r + 1) [0, 1, 40] (by omega) (by simp)) (by omega) (by omega) (by simp)).mono ?_
    rintro e w6 ⟨t, rfl, _, hr6, hw6⟩
    have HW6 := Lib.hid ((Rd.of_below (r := r) (below_new w5 (.cells #[.int .i64 0, .int .i64 1, .int .i64 40] 3))).trans hw6)
    have hz6 := HW6.out.size
    have HW7 := Lib.hid ((HW3.out.trans (HW4.out.trans (HW5.out.trans HW6.out))).alloc (.cells #[.int .i64 v, .int .i64 u, .int .i64 t] 39))
    have R7 := Lib.hid (hr6.below ((below_new w6 (.cells #[.int .i64 v, .int .i64 u, .int .i64 t] 39)).mono hr6.lt))
    have O7 : Hid (OT (w6.alloc (.cells #[.int .i64 v, .int .i64 u, .int .i64 t] 39)) 39 w2.heap.size A3 n c3 xs) := Lib.hid (by simpa using (O5.out.rd HW6.out (by omega)).alloc (.cells #[.int .i64 v, .int .i64 u, .int .i64 t] 39))
    have SV := Lib.hid (ts_one w6 39 v u t)
    have X7 := Lib.hid (X.out.rd HW7.out hxr)
    have Q7 := Lib.hid (Q.out.rd HW7.out hqr)
    have W7 := Lib.hid (W.out.trans HW7.out)
    clear hr6 hw6
    obtain ⟨xa, xb⟩ := X7.out.c2
    obtain ⟨qa, qb⟩ := Q7.out.c2
    have f0 := Q7.out.frozen 0
    have f1 := Q7.out.frozen 1
    have g1 := X7.out.frozen 1
    go_wp2_with (at_builtin; go_must (refine wpList_append_ts _ rfl (.tmp 19) (.tmp 29) _ rfl w2.heap.size 39 infoBlk Try.underlying23 _ _ _ _ rfl O7.out _ _ _ [⟨v, u, t⟩] rfl SV.out (by omega) (by simp; omega) ?_); intro A8 c8 w8 hown8 hg8; have O8 := Lib.hid hown8; have R8 := Lib.hid (R7.out.row hg8 (O7.out.ge.mono (by omega))); have W8 := Lib.hid (W7.out.row hg8 (O7.out.ge.mono (by omega))); have X8 := Lib.hid (X7.out.away hg8 (ge_disj (show x < w2.heap.size by omega) O7.out.ge)); have Q8 := Lib.hid (Q7.out.away hg8 (ge_disj (show w.heap.size < w2.heap.size by omega) O7.out.ge)); clear hown8 hg8 xa xb qa qb f0 f1 g1; obtain ⟨xa, xb⟩ := X8.out.c2; obtain ⟨qa, qb⟩ := Q8.out.c2; have f0 := Q8.out.frozen 0; have f1 := Q8.out.frozen 1; have g1 := X8.out.frozen 1)
    refine bodyPost_ret (v := .agg #[.int .i64 s, .slice A8 (n + 1) c8]) (by simp [results, Try.results36, go_sem, qa, qb]) rfl ?_
    refine ⟨s, xs ++ [⟨v, u, t⟩], A8, n + 1, c8, rfl, by omega, ?_, O8.out.ge.mono (by omega), ?_, ?_, ?_⟩
    · have hX := ge_disj (show x < w2.heap.size by omega) O8.out.ge
      have hQ := ge_disj (show w.heap.size < w2.heap.size by omega) O8.out.ge
      repeat' (first | with_reducible exact O8.out.ts | refine TS.setCell ?_ ?_ _ | exact hX | exact hQ)
    · have hL := O8.out.lt
      repeat' (first | with_reducible exact hL | refine lt_set ?_ _ _)
    · refine RD.mono (RD.below R8.out ?_) (by omega)
      repeat' (first | exact Below.refl _ _ | refine Below.setCell ?_ ?_ _ | exact hrx1 | exact hrq1)
    · repeat' (first | with_reducible exact W8.out | refine Rd.setCell ?_ ?_ _ | exact Nat.le_refl _ | exact Nat.le_of_lt hqx)
  have d1 : (k == 1) = false := by simpa using k1
  obtain ⟨xa, xb⟩ := X.out.c2
  obtain ⟨qa, qb⟩ := Q.out.c2
  have f0 := Q.out.frozen 0
  have f1 := Q.out.frozen 1
  have g0 := X.out.frozen 0
  have g1 := X.out.frozen 1
  go_wp2_with (fail)
  refine bodyPost_ret (v := .agg #[.int .i64 s, .slice A n c]) (by simp [results, Try.results36, go_sem, qa, qb]) rfl ?_
  refine ⟨s, xs, A, n, c, rfl, by omega, ?_, GE.out.mono (by omega), ?_, ?_, ?_⟩
  · repeat' (first | with_reducible exact T.out | refine TS.setCell ?_ ?_ _ | exact DX.out | exact DQ.out)
  · repeat' (first | with_reducible exact LA.out | refine lt_set ?_ _ _)
  · refine RD.mono (RD.below R.out ?_) (by omega)
    repeat' (first | exact Below.refl _ _ | refine Below.setCell ?_ ?_ _ | exact hrx1 | exact hrq1)
  · repeat' (first | with_reducible exact W.out | refine Rd.setCell ?_ ?_ _ | exact Nat.le_refl _ | exact Nat.le_of_lt hqx)
end Go.Proofs.Ytleoncjdhlomaaa
