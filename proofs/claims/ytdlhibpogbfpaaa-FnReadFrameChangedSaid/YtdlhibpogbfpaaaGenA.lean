/-
  Drawn items: anyItem.
-/
import Derived.Test.YtdlhibpogbfpaaaGenI
namespace Go.Proofs.Ytdlhibpogbfpaaa
open Go.RowKit
/-- Nine zeros. -/
def z9 : Array Value := #[.int .i64 0, .int .i64 0, .int .i64 0, .int .i64 0, .int .i64 0, .int .i64 0, .int .i64 0, .int .i64 0, .int .i64 0]
set_option maxHeartbeats 8000000 in
theorem anyItem_any (r N : Nat) (w : World) (h : RD w 44 r N) (hN : N ≤ 800000) :
    Calls Try.prog 19 #[.pointer (some ⟨r, 0, none⟩)] w (DrewItem 3 44 w r (N + 30) fun _ _ _ => True) := by
  have hr := h.lt
  have H := Lib.hid h
  clear h
  go_enter Try.func19, Try.ntmps19
  go_wp2_with (fail)
  refine (someItem_any r N _ (H.out.below ((below_new w _).mono hr)) (by omega)).mono ?_
  rintro e w1 ⟨cl, ky, xs, A, n, c, rfl, hv, hn, ho1, hr1, hw1⟩
  have HO1 := Lib.hid ho1
  have HR1 := Lib.hid hr1
  have HW1 := Lib.hid ((Rd.of_below (below_new w _)).trans hw1)
  have Q1 := Lib.hid ((Blk.new w 25 #[.int .i64 0, .int .i64 0, .slice none 0 0]).rd hw1 (by omega))
  have hz1 := hw1.size
  simp at hz1
  have hx1 := Q1.out.lt
  clear ho1 hr1 hw1
  go_wp2_with (fail)
  refine (pick_any r (N + 20) 16 _ (HR1.out.below ((below_new w1 _).mono (by omega))) (by omega) (by omega)).mono ?_
  rintro e w2 ⟨k, rfl, hk0, hk1, hr2, hw2⟩
  have hk2 := hk1 (by omega)
  clear hk1
  have HR2 := Lib.hid hr2
  have HW2 := Lib.hid ((HW1.out.alloc (.cells #[.int .i64 cl, .int .i64 ky, .slice A n c] 25)).trans hw2)
  have Q2 := Lib.hid ((Q1.out.alloc (.cells #[.int .i64 cl, .int .i64 ky, .slice A n c] 25)).rd hw2 (by omega))
  have X2 := Lib.hid ((Blk.new w1 25 #[.int .i64 cl, .int .i64 ky, .slice A n c]).rd hw2 (by omega))
  have HO2 := Lib.hid ((HO1.out.alloc (.cells #[.int .i64 cl, .int .i64 ky, .slice A n c] 25)).rd hw2 (by simp; omega))
  have hz2 := hw2.size
  simp at hz2
  clear hr2 hw2
  obtain ⟨xa, xb, xc⟩ := X2.out.c3
  obtain ⟨qa, qb, qc⟩ := Q2.out.c3
  have g0 := X2.out.frozen 0
  have g1 := X2.out.frozen 1
  have g2 := X2.out.frozen 2
  have f0 := Q2.out.frozen 0
  have f1 := Q2.out.frozen 1
  have f2 := Q2.out.frozen 2
  have hn8 := (validI_parts hv).2.2.2.2.1
  have hl8 := HO2.out.len
  have hn9 : n ≤ 8 := by omega
  clear hv hn8 hl8
  have DX : Disj (some ⟨w1.heap.size, 0, none⟩) A := (Disj.mk (B := w1.heap.size) HO1.out.lt (fun p hp => by cases hp; exact Nat.le_refl _)).symm
  have hqx : ¬ w.heap.size = w1.heap.size := by omega
  have hrx : r < w1.heap.size := by omega
  by_cases c0 : k = 0
  · subst c0
    go_wp2_with (fail)
    refine (one_any (xs := [-1, 3]) (fun _ => True) r (N + 20 + 1) _ (HR2.out.below ((below_new w2 _).mono (by omega))) (by omega) (by simpa using OW.lit w2 3 (r + 1) [-1, 3] (by omega) (by simp)) (by omega) (by omega) (by simp)).mono ?_
    clear xa xb xc qa qb qc g0 g1 g2 f0 f1 f2
    rintro e w3 ⟨v, rfl, _, hr3, hw3⟩
    have HR3 := Lib.hid hr3
    have HW3 := Lib.hid ((HW2.out.alloc (.cells #[.int .i64 (-1), .int .i64 3] 3)).trans hw3)
    have Q3 := Lib.hid ((Q2.out.alloc _).rd hw3 (by omega))
    have X3 := Lib.hid ((X2.out.alloc _).rd hw3 (by omega))
    have O3 := Lib.hid ((HO2.out.alloc _).rd hw3 (by simp; omega))
    clear hr3 hw3
    obtain ⟨xa, xb, xc⟩ := X3.out.c3
    obtain ⟨qa, qb, qc⟩ := Q3.out.c3
    have g0 := X3.out.frozen 0
    have f0 := Q3.out.frozen 0
    have f1 := Q3.out.frozen 1
    have f2 := Q3.out.frozen 2
    go_wp2_with (fail)
    refine bodyPost_ret (v := .agg #[.int .i64 v, .int .i64 ky, .slice A n c]) (by simp [results, Try.results19, go_sem, qa, qb, qc]) rfl ?_
    refine ⟨v, ky, xs, A, n, c, rfl, trivial, by omega, ?_, ?_, ?_⟩
    · refine OW.base_le (base := w.heap.size + 1) ?_ (Nat.le_succ w.heap.size)
      repeat' (first | exact (O3.out.base_le (by simp)) | refine OW.setCell2 ?_ ?_ _ | exact Or.inl (Nat.lt_succ_self _) | exact Or.inr DX)
    · refine RD.mono (N := N + 20 + 1 + 1) ?_ (by omega)
      refine RD.below HR3.out ?_
      repeat' (first | exact Below.refl _ _ | refine Below.setCell ?_ ?_ _ | exact hr | (show r + 1 ≤ w1.heap.size; omega))
    · repeat' (first | exact HW3.out | refine Rd.setCell ?_ ?_ _ | exact Nat.le_refl _ | (show w.heap.size ≤ w1.heap.size; omega))
  have d0 : (k == 0) = false := by simpa using c0
  by_cases c1 : k = 1
  · subst c1
    go_wp2_with (fail)
    refine (one_any (xs := [-1, 256]) (fun _ => True) r (N + 20 + 1) _ (HR2.out.below ((below_new w2 _).mono (by omega))) (by omega) (by simpa using OW.lit w2 3 (r + 1) [-1, 256] (by omega) (by simp)) (by omega) (by omega) (by simp)).mono ?_
    clear xa xb xc qa qb qc g0 g1 g2 f0 f1 f2
    rintro e w3 ⟨v, rfl, _, hr3, hw3⟩
    have HR3 := Lib.hid hr3
    have HW3 := Lib.hid ((HW2.out.alloc (.cells #[.int .i64 (-1), .int .i64 256] 3)).trans hw3)
    have Q3 := Lib.hid ((Q2.out.alloc _).rd hw3 (by omega))
    have X3 := Lib.hid ((X2.out.alloc _).rd hw3 (by omega))
    have O3 := Lib.hid ((HO2.out.alloc _).rd hw3 (by simp; omega))
    clear hr3 hw3
    obtain ⟨xa, xb, xc⟩ := X3.out.c3
    obtain ⟨qa, qb, qc⟩ := Q3.out.c3
    have g0 := X3.out.frozen 1
    have f0 := Q3.out.frozen 0
    have f1 := Q3.out.frozen 1
    have f2 := Q3.out.frozen 2
    go_wp2_with (fail)
    refine bodyPost_ret (v := .agg #[.int .i64 cl, .int .i64 v, .slice A n c]) (by simp [results, Try.results19, go_sem, qa, qb, qc]) rfl ?_
    refine ⟨cl, v, xs, A, n, c, rfl, trivial, by omega, ?_, ?_, ?_⟩
    · refine OW.base_le (base := w.heap.size + 1) ?_ (Nat.le_succ w.heap.size)
      repeat' (first | exact (O3.out.base_le (by simp)) | refine OW.setCell2 ?_ ?_ _ | exact Or.inl (Nat.lt_succ_self _) | exact Or.inr DX)
    · refine RD.mono (N := N + 20 + 1 + 1) ?_ (by omega)
      refine RD.below HR3.out ?_
      repeat' (first | exact Below.refl _ _ | refine Below.setCell ?_ ?_ _ | exact hr | (show r + 1 ≤ w1.heap.size; omega))
    · repeat' (first | exact HW3.out | refine Rd.setCell ?_ ?_ _ | exact Nat.le_refl _ | (show w.heap.size ≤ w1.heap.size; omega))
  have d1 : (k == 1) = false := by simpa using c1
  by_cases c2 : k = 2
  · subst c2
    go_wp2_with (fail)
    refine (spec_copyInts_any _ HO2.out.is (by omega)).mono ?_
    clear xa xb xc qa qb qc g0 g1 g2 f0 f1 f2
    rintro e w3 ⟨A3, n3, c3, rfl, o3, b3⟩
    have hn3 : n3 ≤ 8 := by have h1 := o3.len; have h2 := HO2.out.len; omega
    have O3 := Lib.hid o3
    have B3 := Lib.hid b3
    have hz3 := b3.size
    clear o3 b3
    have HR3 := Lib.hid (HR2.out.below (B3.out.mono (by omega)))
    go_wp2_with (fail)
    refine (one_any (xs := [-1, 256]) (fun _ => True) r (N + 20 + 1) _ (HR3.out.below ((below_new w3 _).mono (by omega))) (by omega) (by simpa using OW.lit w3 3 (r + 1) [-1, 256] (by omega) (by simp)) (by omega) (by omega) (by simp)).mono ?_
    rintro e w4 ⟨v, rfl, _, hr4, hw4⟩
    have HR4 := Lib.hid hr4
    have HW4 := Lib.hid hw4
    have hz4 := hw4.size
    simp at hz4
    clear hr4 hw4
    have O4 := Lib.hid (((O3.out.alloc _).rd HW4.out (by omega)).alloc (.cells #[.int .i64 v] 3))
    have HSv : Hid (IS (w4.alloc (.cells #[.int .i64 v] 3)) (some ⟨w4.heap.size, 0, none⟩) 1 1 [v]) := Lib.hid (by simpa using (OW.lit w4 3 0 [v] (by simp) (by simp)).is)
    have X4 := Lib.hid ((((X2.out.on B3.out).alloc _).rd HW4.out (by omega)).alloc (.cells #[.int .i64 v] 3))
    have Q4 := Lib.hid ((((Q2.out.on B3.out).alloc _).rd HW4.out (by omega)).alloc (.cells #[.int .i64 v] 3))
    have R4 := Lib.hid (HR4.out.below ((below_new w4 (.cells #[.int .i64 v] 3)).mono (by omega)))
    have W4 := Lib.hid ((((HW2.out.trans (Rd.of_below B3.out)).alloc _ |>.trans HW4.out)).alloc (.cells #[.int .i64 v] 3))
    go_wp2_with (at_builtin; go_must (refine wpList_append_is _ rfl (.tmp 24) (.tmp 28) _ rfl w2.heap.size 3 infoInt Try.underlying23 _ _ _ _ rfl O4.out _ _ _ _ rfl HSv.out (by omega) (by simp; omega) ?_); intro A5 c5 w5 hown5 hg5; have O5 := Lib.hid hown5; have G5 := Lib.hid (row_of hg5); have X5 := Lib.hid (X4.out.away G5.out (disj_box (by omega) O3.out.ge)); have Q5 := Lib.hid (Q4.out.away G5.out (disj_box (by omega) O3.out.ge)); clear hown5 hg5; obtain ⟨xa, xb, xc⟩ := X5.out.c3; obtain ⟨qa, qb, qc⟩ := Q5.out.c3; have g2 := X5.out.frozen 2; have f0 := Q5.out.frozen 0; have f1 := Q5.out.frozen 1; have f2 := Q5.out.frozen 2)
    have R5 := Lib.hid (R4.out.row G5.out (O3.out.ge.mono (by omega)))
    have W5 := Lib.hid (W4.out.row G5.out (O3.out.ge.mono (by omega)))
    refine bodyPost_ret (v := .agg #[.int .i64 cl, .int .i64 ky, .slice A5 (n3 + 1) c5]) (by simp [results, Try.results19, go_sem, qa, qb, qc]) rfl ?_
    refine ⟨cl, ky, (xs ++ [v]), A5, (n3 + 1), c5, rfl, trivial, by omega, ?_, ?_, ?_⟩
    · refine OW.base_le (base := w.heap.size + 1) ?_ (Nat.le_succ w.heap.size)
      repeat' (first | exact (O5.out.base_le (show w.heap.size + 1 ≤ w2.heap.size by omega)) | refine OW.setCell2 ?_ ?_ _ | exact Or.inl (Nat.lt_succ_self _) | exact Or.inr (disj_box (show w1.heap.size < w2.heap.size by omega) O5.out.ge))
    · refine RD.mono (N := N + 20 + 1 + 1) ?_ (by omega)
      refine RD.below R5.out ?_
      repeat' (first | exact Below.refl _ _ | refine Below.setCell ?_ ?_ _ | exact hr | (show r + 1 ≤ w1.heap.size; omega))
    · repeat' (first | exact W5.out | refine Rd.setCell ?_ ?_ _ | exact Nat.le_refl _ | (show w.heap.size ≤ w1.heap.size; omega))
  have d2 : (k == 2) = false := by simpa using c2
  by_cases c3 : k = 3
  · subst c3
    obtain ⟨i0, hi, hz0, hz1, hz2⟩ := info_parts infoInt
    have hb2 : i0.bytes * 9 ≤ 281474976710656 := by rw [hz2]; omega
    have HB := Lib.hid hb2
    have HZ1 := Lib.hid hz1
    have HZ0 := Lib.hid hz0
    have HI := Lib.hid hi
    have hm : 9 ≤ maxLen := by simp only [maxLen]; omega
    clear hb2 hz0 hz1 hz2 hi
    go_wp2_with (at_make; refine wpList_make_full _ rfl _ _ 23 rfl w2.heap.size 3 i0 (.int .i64 0) 1 Try.underlying23 HI.out HZ0.out HZ1.out .i64 .i64 _ _ 9 rfl rfl rfl rfl HB.out hm (Nat.le_refl _) ?_; intro w3 hown3 hgr3; have hb3 : Below w2.heap.size w2 w3 := (Below.refl _ _).grown hgr3 (Nat.le_refl _) (by simp); have O3 : Hid (OW w3 3 w2.heap.size (some ⟨w2.heap.size, 0, none⟩) 9 9 [0, 0, 0, 0, 0, 0, 0, 0, 0]) := Lib.hid (by have e : (madeCells (Value.int .i64 0).cells (9 * 1)).toList = List.replicate 9 (Value.int .i64 0) := by { rw [Nat.mul_one]; exact toList_madeCells_one _ _ }; rw [e] at hown3; exact hown3); have B3 := Lib.hid hb3; have X3 := Lib.hid (X2.out.on hb3); have Q3 := Lib.hid (Q2.out.on hb3); clear hown3 hgr3 hb3 xa xb xc qa qb qc g0 g1 g2 f0 f1 f2; obtain ⟨xa, xb, xc⟩ := X3.out.c3; obtain ⟨qa, qb, qc⟩ := Q3.out.c3; have g2 := X3.out.frozen 2; have f0 := Q3.out.frozen 0; have f1 := Q3.out.frozen 1; have f2 := Q3.out.frozen 2)
    refine bodyPost_ret (v := .agg #[.int .i64 cl, .int .i64 ky, .slice (some ⟨w2.heap.size, 0, none⟩) 9 9]) (by simp [results, Try.results19, go_sem, qa, qb, qc]) rfl ?_
    refine ⟨cl, ky, [0, 0, 0, 0, 0, 0, 0, 0, 0], (some ⟨w2.heap.size, 0, none⟩), 9, 9, rfl, trivial, by omega, ?_, ?_, ?_⟩
    · refine OW.base_le (base := w.heap.size + 1) ?_ (Nat.le_succ w.heap.size)
      repeat' (first | exact (O3.out.base_le (show w.heap.size + 1 ≤ w2.heap.size by omega)) | refine OW.setCell2 ?_ ?_ _ | exact Or.inl (Nat.lt_succ_self _) | exact Or.inr (disj_box (show w1.heap.size < w2.heap.size by omega) O3.out.ge))
    · refine RD.mono (N := N + 20 + 1) ?_ (by omega)
      refine RD.below (HR2.out.below (B3.out.mono (by omega))) ?_
      repeat' (first | exact Below.refl _ _ | refine Below.setCell ?_ ?_ _ | exact hr | (show r + 1 ≤ w1.heap.size; omega))
    · repeat' (first | exact (HW2.out.trans (Rd.of_below B3.out)) | refine Rd.setCell ?_ ?_ _ | exact Nat.le_refl _ | (show w.heap.size ≤ w1.heap.size; omega))
  have d3 : (k == 3) = false := by simpa using c3
  go_wp2_with (fail)
  refine bodyPost_ret (v := .agg #[.int .i64 cl, .int .i64 ky, .slice A n c]) (by simp [results, Try.results19, go_sem, qa, qb, qc]) rfl ?_
  refine ⟨cl, ky, xs, A, n, c, rfl, trivial, by omega, ?_, ?_, ?_⟩
  · refine OW.base_le (base := w.heap.size + 1) ?_ (Nat.le_succ w.heap.size)
    repeat' (first | exact (HO2.out.base_le (by simp)) | refine OW.setCell2 ?_ ?_ _ | exact Or.inl (Nat.lt_succ_self _) | exact Or.inr DX)
  · refine RD.mono (N := N + 20 + 1) ?_ (by omega)
    refine RD.below HR2.out ?_
    repeat' (first | exact Below.refl _ _ | refine Below.setCell ?_ ?_ _ | exact hr | (show r + 1 ≤ w1.heap.size; omega))
  · repeat' (first | exact HW2.out | refine Rd.setCell ?_ ?_ _ | exact Nat.le_refl _ | (show w.heap.size ≤ w1.heap.size; omega))
end Go.Proofs.Ytdlhibpogbfpaaa
