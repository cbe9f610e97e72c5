/-
  Drawn budgets that may be spoilt.
-/
import Derived.Test.YtcbphifadokfeaaGenC
namespace Go.Proofs.Ytcbphifadokfeaa
open Go.RowKit
attribute [local go_sem ↓] Go.wp_at_zero Go.wp_at_succ

/-- A drawn budget that may be spoilt. -/
def DrewBudI (R : TypeId) (w : World) (r N : Nat) (e : Ending) (w' : World) : Prop :=
  ∃ t ks us A n c A' n' c', e = .returned (.agg #[.int .i64 t, .slice A n c, .slice A' n' c']) ∧ n ≤ 6 ∧ n' ≤ 6 ∧ IS w' A n c ks ∧ IS w' A' n' c' us ∧ Ge A w.heap.size ∧ Ge A' w.heap.size ∧ RD w' R r N ∧ Rd w w' r
set_option maxHeartbeats 8000000 in
theorem anyBudget_any (r N : Nat) (w : World) (h : RD w 62 r N) (hN : N ≤ 700000) :
    Calls Try.prog 34 #[.pointer (some ⟨r, 0, none⟩)] w (DrewBudI 62 w r (N + 30)) := by
  have hr := h.lt
  have H := Lib.hid h
  clear h
  go_enter Try.func34, Try.ntmps34
  go_wp2_with (fail)
  refine (someBudget_any r N _ (H.out.below ((below_new w _).mono hr)) (by omega)).mono ?_
  rintro e w1 ⟨t, ks, us, A, n, c, A', n', c', rfl, hn, hn', ho1, ho2, hd, hr1, hw1⟩
  have O1 := Lib.hid (ho1.alloc (.cells #[.int .i64 t, .slice A n c, .slice A' n' c'] 33))
  have O2 := Lib.hid (ho2.alloc (.cells #[.int .i64 t, .slice A n c, .slice A' n' c'] 33))
  have HD := Lib.hid hd
  have R1 := Lib.hid (hr1.below ((below_new w1 (.cells #[.int .i64 t, .slice A n c, .slice A' n' c'] 33)).mono hr1.lt))
  have W1 := Lib.hid (((Rd.of_below (below_new w _)).trans hw1).alloc (.cells #[.int .i64 t, .slice A n c, .slice A' n' c'] 33))
  have Q1 := Lib.hid (((Blk.new w 33 #[.int .i64 0, .slice none 0 0, .slice none 0 0]).rd hw1 (by omega)).alloc (.cells #[.int .i64 t, .slice A n c, .slice A' n' c'] 33))
  have X1 := Lib.hid (Blk.new w1 33 #[.int .i64 t, .slice A n c, .slice A' n' c'])
  have hz1 := hw1.size
  simp at hz1
  have DX1 : Hid (Disj (some ⟨w1.heap.size, 0, none⟩) A) := Lib.hid (box_up (Nat.le_refl _) ho1.lt)
  have DX2 : Hid (Disj (some ⟨w1.heap.size, 0, none⟩) A') := Lib.hid (box_up (Nat.le_refl _) ho2.lt)
  have DQ1 : Hid (Disj (some ⟨w.heap.size, 0, none⟩) A) := Lib.hid (box_far (Nat.lt_succ_self _) (ho1.ge.mono (by simp)))
  have DQ2 : Hid (Disj (some ⟨w.heap.size, 0, none⟩) A') := Lib.hid (box_far (Nat.lt_succ_self _) (ho2.ge.mono (by simp)))
  have hg1 : Hid (Ge A (w.heap.size + 1)) := Lib.hid (ho1.ge.mono (by simp))
  have hg2 : Hid (Ge A' (w.heap.size + 1)) := Lib.hid (ho2.ge.mono (by simp))
  clear ho1 ho2 hd hr1 hw1
  go_wp2_with (fail)
  refine (pick_any r _ 20 _ R1.out (by omega) (by omega)).mono ?_
  rintro e w2 ⟨k, rfl, hk0, hk1, hr2, hw2⟩
  have P1 := Lib.hid (O1.out.rd hw2 (by simp; omega))
  have P2 := Lib.hid (O2.out.rd hw2 (by simp; omega))
  have R2 := Lib.hid hr2
  have W2 := Lib.hid (W1.out.trans hw2)
  have Q2 := Lib.hid (Q1.out.rd hw2 (by omega))
  have X2 := Lib.hid (X1.out.rd hw2 (by omega))
  have hz2 := hw2.size
  simp at hz2
  clear hr2 hw2 hk1 O1 O2 R1 W1 Q1 X1
  obtain ⟨xa, xb, xc⟩ := X2.out.c3
  obtain ⟨qa, qb, qc⟩ := Q2.out.c3
  have f0 := Q2.out.frozen 0
  have f1 := Q2.out.frozen 1
  have f2 := Q2.out.frozen 2
  have g0 := X2.out.frozen 0
  have g1 := X2.out.frozen 1
  have g2 := X2.out.frozen 2
  have hqx : ¬ w.heap.size = w1.heap.size := by omega
  have hrx : r < w1.heap.size := by omega
  by_cases c0 : k = 0
  · subst c0
    go_wp2_with (fail)
    refine (one_any (xs := [-1, 201, 5]) (fun _ => True) r _ _ (R2.out.below ((below_new w2 _).mono (by omega))) (by omega) (by simpa using OW.lit w2 3 (r + 1) [-1, 201, 5] (by omega) (by simp)) (by omega) (by omega) (by simp)).mono ?_
    clear xa xb xc qa qb qc g0 g1 g2 f0 f1 f2
    rintro e w3 ⟨v, rfl, _, hr3, hw3⟩
    have R3 := Lib.hid hr3
    have W3 := Lib.hid ((W2.out.alloc (.cells #[.int .i64 (-1), .int .i64 201, .int .i64 5] 3)).trans hw3)
    have Q3 := Lib.hid ((Q2.out.alloc _).rd hw3 (by omega))
    have X3 := Lib.hid ((X2.out.alloc _).rd hw3 (by omega))
    have I1 := Lib.hid ((P1.out.alloc _).rd hw3 (by simp; omega)).is
    have I2 := Lib.hid ((P2.out.alloc _).rd hw3 (by simp; omega)).is
    clear hr3 hw3
    obtain ⟨xa, xb, xc⟩ := X3.out.c3
    obtain ⟨qa, qb, qc⟩ := Q3.out.c3
    have g0 := X3.out.frozen 0
    have f0 := Q3.out.frozen 0
    have f1 := Q3.out.frozen 1
    have f2 := Q3.out.frozen 2
    go_wp2_with (fail)
    refine bodyPost_ret (v := .agg #[.int .i64 v, .slice A n c, .slice A' n' c']) (by simp [results, Try.results34, go_sem, qa, qb, qc]) rfl ?_
    refine ⟨v, ks, us, A, n, c, A', n', c', rfl, by omega, by omega, ?_, ?_, hg1.out.mono (Nat.le_succ _), hg2.out.mono (Nat.le_succ _), ?_, ?_⟩
    · repeat' (first | with_reducible exact I1.out | refine IS.setCell ?_ ?_ _ | exact DX1.out | exact DQ1.out)
    · repeat' (first | with_reducible exact I2.out | refine IS.setCell ?_ ?_ _ | exact DX2.out | exact DQ2.out)
    · refine RD.mono ?_ (show N + 21 + 1 + 1 ≤ _ by omega)
      refine RD.below R3.out ?_
      repeat' (first | exact Below.refl _ _ | refine Below.setCell ?_ ?_ _ | exact hr | (show r + 1 ≤ w1.heap.size; omega))
    · repeat' (first | with_reducible exact W3.out | refine Rd.setCell ?_ ?_ _ | exact Nat.le_refl _ | (show w.heap.size ≤ w1.heap.size; omega))
  have d0 : (k == 0) = false := by simpa using c0
  by_cases c1 : k = 1
  · subst c1
    have HSv : Hid (IS (w2.alloc (.cells #[.int .i64 0] 3)) (some ⟨w2.heap.size, 0, none⟩) 1 1 [0]) := Lib.hid (by simpa using (OW.lit w2 3 0 [0] (by simp) (by simp)).is)
    have P3 := Lib.hid ((P1.out.alloc (.cells #[.int .i64 0] 3)).base_le (base' := w.heap.size + 1) (by simp))
    have X3 := Lib.hid (X2.out.alloc (.cells #[.int .i64 0] 3))
    have Q3 := Lib.hid (Q2.out.alloc (.cells #[.int .i64 0] 3))
    have P3' := Lib.hid (P2.out.alloc (.cells #[.int .i64 0] 3))
    have R3 := Lib.hid (R2.out.below ((below_new w2 (.cells #[.int .i64 0] 3)).mono (by omega)))
    have W3 := Lib.hid (W2.out.alloc (.cells #[.int .i64 0] 3))
    go_wp2_with (at_builtin; go_must (refine wpList_append_is _ rfl (.tmp 18) (.tmp 19) _ rfl (w.heap.size + 1) 3 infoInt Try.underlying28 _ _ _ _ rfl P3.out _ _ _ _ rfl HSv.out (by omega) (by simp; omega) ?_); intro A4 c4 w4 hown4 hg4; have P4 := Lib.hid hown4; have G4 := Lib.hid (row_of hg4); clear hown4 hg4)
    clear xa xb xc qa qb qc g0 g1 g2 f0 f1 f2
    have X4 := Lib.hid (X3.out.away G4.out DX1.out)
    have Q4 := Lib.hid (Q3.out.away G4.out DQ1.out)
    have P4' := Lib.hid (P3'.out.away G4.out HD.out.symm)
    have R4 := Lib.hid (R3.out.row G4.out (hg1.out.mono (by omega)))
    have W4 := Lib.hid (W3.out.row G4.out (hg1.out.mono (by omega)))
    have hz4 := G4.out.size
    simp at hz4
    refine (spoil_any r _ 201 _ R4.out (by omega) P4.out.is (by omega)).mono ?_
    rintro e w5 ⟨ys, A5, n5, c5, rfl, hn5, i5, ge5, hr5, hw5⟩
    have I5 := Lib.hid i5
    have R5 := Lib.hid hr5
    have W5 := Lib.hid (W4.out.trans hw5)
    have X5 := Lib.hid (X4.out.rd hw5 (by omega))
    have Q5 := Lib.hid (Q4.out.rd hw5 (by omega))
    have I2 := Lib.hid (P4'.out.rd hw5 (by simp; omega)).is
    have DX5 : Hid (Disj (some ⟨w1.heap.size, 0, none⟩) A5) := Lib.hid (box_far (show w1.heap.size < w4.heap.size by omega) ge5)
    have DQ5 : Hid (Disj (some ⟨w.heap.size, 0, none⟩) A5) := Lib.hid (box_far (show w.heap.size < w4.heap.size by omega) ge5)
    have hg5 : Hid (Ge A5 w.heap.size) := Lib.hid (ge5.mono (by omega))
    clear i5 ge5 hr5 hw5
    obtain ⟨xa, xb, xc⟩ := X5.out.c3
    obtain ⟨qa, qb, qc⟩ := Q5.out.c3
    have g1 := X5.out.frozen 1
    have f0 := Q5.out.frozen 0
    have f1 := Q5.out.frozen 1
    have f2 := Q5.out.frozen 2
    go_wp2_with (fail)
    refine bodyPost_ret (v := .agg #[.int .i64 t, .slice A5 n5 c5, .slice A' n' c']) (by simp [results, Try.results34, go_sem, qa, qb, qc]) rfl ?_
    refine ⟨t, ys, us, A5, n5, c5, A', n', c', rfl, by omega, by omega, ?_, ?_, hg5.out, hg2.out.mono (Nat.le_succ _), ?_, ?_⟩
    · repeat' (first | with_reducible exact I5.out | refine IS.setCell ?_ ?_ _ | exact DX5.out | exact DQ5.out)
    · repeat' (first | with_reducible exact I2.out | refine IS.setCell ?_ ?_ _ | exact DX2.out | exact DQ2.out)
    · refine RD.mono ?_ (show N + 21 + 1 + 3 ≤ _ by omega)
      refine RD.below R5.out ?_
      repeat' (first | exact Below.refl _ _ | refine Below.setCell ?_ ?_ _ | exact hr | (show r + 1 ≤ w1.heap.size; omega))
    · repeat' (first | with_reducible exact W5.out | refine Rd.setCell ?_ ?_ _ | exact Nat.le_refl _ | (show w.heap.size ≤ w1.heap.size; omega))
  have d1 : (k == 1) = false := by simpa using c1
  by_cases c2 : k = 2
  · subst c2
    go_wp2_with (fail)
    refine (spoil_any r _ 201 _ R2.out (by omega) P2.out.is (by omega)).mono ?_
    clear xa xb xc qa qb qc g0 g1 g2 f0 f1 f2
    rintro e w5 ⟨ys, A5, n5, c5, rfl, hn5, i5, ge5, hr5, hw5⟩
    have I5 := Lib.hid i5
    have R5 := Lib.hid hr5
    have W5 := Lib.hid (W2.out.trans hw5)
    have X5 := Lib.hid (X2.out.rd hw5 (by omega))
    have Q5 := Lib.hid (Q2.out.rd hw5 (by omega))
    have I1 := Lib.hid (P1.out.rd hw5 (by simp; omega)).is
    have DX5 : Hid (Disj (some ⟨w1.heap.size, 0, none⟩) A5) := Lib.hid (box_far (show w1.heap.size < w2.heap.size by omega) ge5)
    have DQ5 : Hid (Disj (some ⟨w.heap.size, 0, none⟩) A5) := Lib.hid (box_far (show w.heap.size < w2.heap.size by omega) ge5)
    have hg5 : Hid (Ge A5 w.heap.size) := Lib.hid (ge5.mono (by omega))
    clear i5 ge5 hr5 hw5
    obtain ⟨xa, xb, xc⟩ := X5.out.c3
    obtain ⟨qa, qb, qc⟩ := Q5.out.c3
    have g2 := X5.out.frozen 2
    have f0 := Q5.out.frozen 0
    have f1 := Q5.out.frozen 1
    have f2 := Q5.out.frozen 2
    go_wp2_with (fail)
    refine bodyPost_ret (v := .agg #[.int .i64 t, .slice A n c, .slice A5 n5 c5]) (by simp [results, Try.results34, go_sem, qa, qb, qc]) rfl ?_
    refine ⟨t, ks, ys, A, n, c, A5, n5, c5, rfl, by omega, by omega, ?_, ?_, hg1.out.mono (Nat.le_succ _), hg5.out, ?_, ?_⟩
    · repeat' (first | with_reducible exact I1.out | refine IS.setCell ?_ ?_ _ | exact DX1.out | exact DQ1.out)
    · repeat' (first | with_reducible exact I5.out | refine IS.setCell ?_ ?_ _ | exact DX5.out | exact DQ5.out)
    · refine RD.mono ?_ (show N + 21 + 1 + 3 ≤ _ by omega)
      refine RD.below R5.out ?_
      repeat' (first | exact Below.refl _ _ | refine Below.setCell ?_ ?_ _ | exact hr | (show r + 1 ≤ w1.heap.size; omega))
    · repeat' (first | with_reducible exact W5.out | refine Rd.setCell ?_ ?_ _ | exact Nat.le_refl _ | (show w.heap.size ≤ w1.heap.size; omega))
  have d2 : (k == 2) = false := by simpa using c2
  have I1 := Lib.hid P1.out.is
  have I2 := Lib.hid P2.out.is
  go_wp2_with (fail)
  refine bodyPost_ret (v := .agg #[.int .i64 t, .slice A n c, .slice A' n' c']) (by simp [results, Try.results34, go_sem, qa, qb, qc]) rfl ?_
  refine ⟨t, ks, us, A, n, c, A', n', c', rfl, by omega, by omega, ?_, ?_, hg1.out.mono (Nat.le_succ _), hg2.out.mono (Nat.le_succ _), ?_, ?_⟩
  · repeat' (first | with_reducible exact I1.out | refine IS.setCell ?_ ?_ _ | exact DX1.out | exact DQ1.out)
  · repeat' (first | with_reducible exact I2.out | refine IS.setCell ?_ ?_ _ | exact DX2.out | exact DQ2.out)
  · refine RD.mono ?_ (show N + 21 + 1 ≤ _ by omega)
    refine RD.below R2.out ?_
    repeat' (first | exact Below.refl _ _ | refine Below.setCell ?_ ?_ _ | exact hr | (show r + 1 ≤ w1.heap.size; omega))
  · repeat' (first | with_reducible exact W2.out | refine Rd.setCell ?_ ?_ _ | exact Nat.le_refl _ | (show w.heap.size ≤ w1.heap.size; omega))
end Go.Proofs.Ytcbphifadokfeaa
