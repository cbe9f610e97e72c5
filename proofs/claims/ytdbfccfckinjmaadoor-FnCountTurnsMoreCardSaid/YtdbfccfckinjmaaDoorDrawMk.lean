/-
  Drawn arguments of the laws on health. (Its words were written by a program of my own.)
-/
import Derived.Test.YtdbfccfckinjmaaDoorGenB
import Derived.Test.YtdbfccfckinjmaaDoorMk
import Derived.Deep.RegionHeld3
import Derived.Deep.RegionLaw
import Derived.Deep.DeepMust
namespace Go.Proofs.YtdbfccfckinjmaaDoor
open Go.RowKit

/-- Drawn marks. -/
def DrewMk (R : TypeId) (w : World) (r N : Nat) (e : Ending) (w' : World) : Prop :=
  ∃ a b c d : Int, e = .returned (.agg #[.int .i64 a, .int .i64 b, .int .i64 c, .int .i64 d]) ∧ (0 ≤ a ∧ a ≤ 60) ∧ (0 ≤ b ∧ b ≤ 70) ∧ (70 ≤ c ∧ c ≤ 80) ∧ (70 ≤ d ∧ d ≤ 101) ∧ RD w' R r N ∧ Rd w w' r
set_option maxHeartbeats 2000000 in
theorem someMarks_any (r N : Nat) (w : World) (h : RD w 58 r N) (hN : N ≤ 800000) :
    Calls Tryd.prog 39 #[.pointer (some ⟨r, 0, none⟩)] w (DrewMk 58 w r (N + 5)) := by
  have hr := h.lt
  have H := Lib.hid h
  have Q0 := Lib.hid (Blk.new w 25 #[.int .i64 0, .int .i64 0, .int .i64 0, .int .i64 0])
  clear h
  go_enter Tryd.func39, Tryd.ntmps39
  go_wp2_with (fail)
  refine (one_any (xs := [30, 0, 50, 60]) (fun x => 0 ≤ x ∧ x ≤ 60) r N _ (H.out.below (((below_new w (.cells #[.int .i64 0, .int .i64 0, .int .i64 0, .int .i64 0] 25)).trans ((below_new _ _).mono (by simp))).mono (by omega))) (by omega) (by simpa using OW.lit (w.alloc (.cells #[.int .i64 0, .int .i64 0, .int .i64 0, .int .i64 0] 25)) 3 (r + 1) [30, 0, 50, 60] (by simp; omega) (by simp)) (by omega) (by omega) (by simp)).mono ?_
  rintro e w1 ⟨a, rfl, ⟨a0, a1⟩, hr1, hw1⟩
  have R1 := Lib.hid hr1
  have W1 := Lib.hid ((Rd.of_below ((below_new w (.cells #[.int .i64 0, .int .i64 0, .int .i64 0, .int .i64 0] 25)).trans ((below_new _ (.cells #[.int .i64 30, .int .i64 0, .int .i64 50, .int .i64 60] 3)).mono (by simp)))).trans hw1)
  have Q1 := Lib.hid ((Q0.out.alloc (.cells #[.int .i64 30, .int .i64 0, .int .i64 50, .int .i64 60] 3)).rd hw1 (by omega))
  have hz1 := Q1.out.lt
  clear hr1 hw1
  go_wp2_with (fail)
  refine (one_any (xs := [61, 70, 65]) (fun x => 0 ≤ x ∧ x ≤ 70) r _ _ (R1.out.below ((below_new w1 _).mono (by omega))) (by omega) (by simpa using OW.lit w1 3 (r + 1) [61, 70, 65] (by omega) (by simp)) (by omega) (by omega) (by simp)).mono ?_
  rintro e w2 ⟨b, rfl, ⟨b0, b1⟩, hr9, hw⟩
  have R2 := Lib.hid hr9
  have W2 := Lib.hid (W1.out.trans ((Rd.of_below (below_new w1 _)).trans hw))
  have Q2 := Lib.hid ((Q1.out.alloc _).rd hw (by omega))
  have hz2 := Q2.out.lt
  clear hr9 hw
  go_wp2_with (fail)
  refine (one_any (xs := [70, 75, 80]) (fun x => 70 ≤ x ∧ x ≤ 80) r _ _ (R2.out.below ((below_new w2 _).mono (by omega))) (by omega) (by simpa using OW.lit w2 3 (r + 1) [70, 75, 80] (by omega) (by simp)) (by omega) (by omega) (by simp)).mono ?_
  rintro e w3 ⟨c, rfl, ⟨c0, c1⟩, hr9, hw⟩
  have R3 := Lib.hid hr9
  have W3 := Lib.hid (W2.out.trans ((Rd.of_below (below_new w2 _)).trans hw))
  have Q3 := Lib.hid ((Q2.out.alloc _).rd hw (by omega))
  have hz3 := Q3.out.lt
  clear hr9 hw
  go_wp2_with (fail)
  refine (one_any (xs := [90, 101, 95, 81]) (fun x => 70 ≤ x ∧ x ≤ 101) r _ _ (R3.out.below ((below_new w3 _).mono (by omega))) (by omega) (by simpa using OW.lit w3 3 (r + 1) [90, 101, 95, 81] (by omega) (by simp)) (by omega) (by omega) (by simp)).mono ?_
  rintro e w4 ⟨d, rfl, ⟨d0, d1⟩, hr9, hw⟩
  have R4 := Lib.hid hr9
  have W4 := Lib.hid (W3.out.trans ((Rd.of_below (below_new w3 _)).trans hw))
  have Q4 := Lib.hid ((Q3.out.alloc _).rd hw (by omega))
  have hz4 := Q4.out.lt
  clear hr9 hw
  go_wp2_with (fail)
  refine (pick_any r _ 12 _ (R4.out.below ((below_new w4 _).mono (by omega))) (by omega) (by omega)).mono ?_
  rintro e w5 ⟨k, rfl, hk0, hk1, hr5, hw5⟩
  have R5 := Lib.hid hr5
  have N5 := Lib.hid ((Blk.new w4 25 #[.int .i64 a, .int .i64 b, .int .i64 c, .int .i64 d]).rd hw5 (by omega))
  have Q5 := Lib.hid ((Q4.out.alloc _).rd hw5 (by omega))
  have W5 := Lib.hid (W4.out.trans ((Rd.of_below (below_new w4 _)).trans hw5))
  have hz5 := N5.out.lt
  clear hr5 hw5 hk1
  obtain ⟨g, hg⟩ : ∃ z, z = w4.heap.size := ⟨_, rfl⟩
  rw [← hg] at N5 hz5 ⊢
  have hd : g ≠ w.heap.size := by omega
  have hgw : w.heap.size < g := by omega
  clear hg
  obtain ⟨c0', c1', c2', c3'⟩ := N5.out.c4
  obtain ⟨q0, q1, q2, q3⟩ := Q5.out.c4
  have f0 := N5.out.frozen 0
  have f1 := N5.out.frozen 1
  have f2 := N5.out.frozen 2
  have f3 := N5.out.frozen 3
  have e0 := Q5.out.frozen 0
  have e1 := Q5.out.frozen 1
  have e2 := Q5.out.frozen 2
  have e3 := Q5.out.frozen 3
  by_cases h0 : k = 0
  · obtain rfl := h0
    go_wp2_with (fail)
    refine bodyPost_ret (v := .agg #[.int .i64 a, .int .i64 a, .int .i64 c, .int .i64 d]) (by simp [results, Tryd.results39, go_sem, q0, q1, q2, q3]) rfl ?_
    refine ⟨a, a, c, d, rfl, by omega, by omega, by omega, by omega, ?_, ?_⟩
    · refine (R5.out.mono (by omega)).below ?_
      repeat' (first | with_reducible exact Below.refl _ _ | with_reducible refine Below.setCell ?_ (by first | (show r + 1 ≤ g; omega) | (show r + 1 ≤ w.heap.size; omega)) _)
    · repeat' (first | with_reducible exact W5.out | with_reducible refine Rd.setCell ?_ (by first | (show w.heap.size ≤ g; omega) | (show w.heap.size ≤ w.heap.size; omega)) _)
  have h0' : (k == 0) = false := by simp [h0]
  by_cases h1 : k = 1
  · obtain rfl := h1
    go_wp2_with (fail)
    refine bodyPost_ret (v := .agg #[.int .i64 a, .int .i64 b, .int .i64 c, .int .i64 c]) (by simp [results, Tryd.results39, go_sem, q0, q1, q2, q3]) rfl ?_
    refine ⟨a, b, c, c, rfl, by omega, by omega, by omega, by omega, ?_, ?_⟩
    · refine (R5.out.mono (by omega)).below ?_
      repeat' (first | with_reducible exact Below.refl _ _ | with_reducible refine Below.setCell ?_ (by first | (show r + 1 ≤ g; omega) | (show r + 1 ≤ w.heap.size; omega)) _)
    · repeat' (first | with_reducible exact W5.out | with_reducible refine Rd.setCell ?_ (by first | (show w.heap.size ≤ g; omega) | (show w.heap.size ≤ w.heap.size; omega)) _)
  have h1' : (k == 1) = false := by simp [h1]
  go_wp2_with (fail)
  refine bodyPost_ret (v := .agg #[.int .i64 a, .int .i64 b, .int .i64 c, .int .i64 d]) (by simp [results, Tryd.results39, go_sem, q0, q1, q2, q3]) rfl ?_
  refine ⟨a, b, c, d, rfl, by omega, by omega, by omega, by omega, ?_, ?_⟩
  · refine (R5.out.mono (by omega)).below ?_
    repeat' (first | with_reducible exact Below.refl _ _ | with_reducible refine Below.setCell ?_ (by first | (show r + 1 ≤ g; omega) | (show r + 1 ≤ w.heap.size; omega)) _)
  · repeat' (first | with_reducible exact W5.out | with_reducible refine Rd.setCell ?_ (by first | (show w.heap.size ≤ g; omega) | (show w.heap.size ≤ w.heap.size; omega)) _)
set_option maxHeartbeats 1600000 in
theorem someLoad_any (r N : Nat) (w : World) (h : RD w 58 r N) (hN : N ≤ 800000) :
    Calls Tryd.prog 41 #[.pointer (some ⟨r, 0, none⟩)] w (Oned 58 w r (N + 1) (fun x => -1 ≤ x ∧ x ≤ 101)) := by
  have hr := h.lt
  have H := Lib.hid h
  clear h
  go_enter Tryd.func41, Tryd.ntmps41
  go_wp2_with (fail)
  refine (pick_any r N 100 w H.out (by omega) (by omega)).mono ?_
  rintro e w1 ⟨y, rfl, hy0, hy1, hr1, hw1⟩
  have hy2 := hy1 (by omega)
  have R1 := Lib.hid hr1
  have W1 := Lib.hid hw1
  have hz1 := hr1.lt
  clear hr1 hw1 hy1
  go_wp2_with (fail)
  refine (one_any (xs := [0, 20, 40, 62, 72, 78, 85, 92, 100, 101, -1, y]) (fun x => -1 ≤ x ∧ x ≤ 101) r _ _ (R1.out.below ((below_new w1 _).mono (by omega))) (by omega) (by simpa using OW.lit w1 3 (r + 1) [0, 20, 40, 62, 72, 78, 85, 92, 100, 101, -1, y] (by omega) (by simp)) (by omega) (by omega) (by simp; omega)).mono ?_
  rintro e w2 ⟨x, rfl, hx, hr2, hw2⟩
  have R2 := Lib.hid hr2
  have W2 := Lib.hid (W1.out.trans ((Rd.of_below (below_new w1 _)).trans hw2))
  have HX := Lib.hid hx
  clear hr2 hw2 hx
  go_wp2_with (fail)
  go_ret
  exact ⟨x, rfl, HX.out, R2.out, W2.out⟩
/-- Drawn marks alone, with two numbers, with a list. -/
def DrewM1 (w : World) (e : Ending) (w' : World) : Prop :=
  ∃ a b c d : Int, e = .returned (.agg #[.int .i64 a, .int .i64 b, .int .i64 c, .int .i64 d]) ∧ (0 ≤ a ∧ a ≤ 60) ∧ (0 ≤ b ∧ b ≤ 70) ∧ (70 ≤ c ∧ c ≤ 80) ∧ (70 ≤ d ∧ d ≤ 101) ∧ Below w.heap.size w w'
def DrewM3 (w : World) (e : Ending) (w' : World) : Prop :=
  ∃ a b c d h x : Int, e = .returned (.tuple #[.agg #[.int .i64 a, .int .i64 b, .int .i64 c, .int .i64 d], .int .i64 h, .int .i64 x]) ∧ (0 ≤ a ∧ a ≤ 60) ∧ (0 ≤ b ∧ b ≤ 70) ∧ (70 ≤ c ∧ c ≤ 80) ∧ (70 ≤ d ∧ d ≤ 101) ∧ (-1 ≤ h ∧ h ≤ 3) ∧ (-1 ≤ x ∧ x ≤ 101) ∧ Below w.heap.size w w'
def DrewMI (w : World) (e : Ending) (w' : World) : Prop :=
  ∃ (a b c d : Int) (xs : List Int) (A1 : Option Addr) (n1 c1 : Nat), e = .returned (.tuple #[.agg #[.int .i64 a, .int .i64 b, .int .i64 c, .int .i64 d], .slice A1 n1 c1]) ∧ (0 ≤ a ∧ a ≤ 60) ∧ (0 ≤ b ∧ b ≤ 70) ∧ (70 ≤ c ∧ c ≤ 80) ∧ (70 ≤ d ∧ d ≤ 101) ∧ n1 ≤ 14 ∧ IS w' A1 n1 c1 xs ∧ Ge A1 w.heap.size ∧ Below w.heap.size w w'
set_option maxHeartbeats 2000000 in
theorem spec_DrawNextHealth_any {A : Option Addr} {n c' : Nat} {zs : List Int} (w : World) (h : BS w A n c' zs) (hn : n ≤ 1048576) :
    Calls Tryd.prog 25 #[.slice A n c'] w (DrewM3 w) := by
  have H := Lib.hid h
  clear h
  go_enter Tryd.func25, Tryd.ntmps25
  go_wp2_with (fail)
  refine (newReader_any _ (H.out.alloc _) hn).mono ?_
  rintro e w1 ⟨rfl, hr1, hb1⟩
  have R1 : Hid (RD w1 58 (w.heap.size + 1) 0) := Lib.hid (by simpa using hr1)
  have B1 := Lib.hid (below_then (below_new w _) hb1)
  have Q1 := Lib.hid ((Blk.new w 25 #[.int .i64 0, .int .i64 0, .int .i64 0, .int .i64 0]).on hb1)
  have hz1 := R1.out.lt
  clear hr1 hb1
  go_wp2_with (fail)
  refine (someMarks_any (w.heap.size + 1) 0 w1 R1.out (by omega)).mono ?_
  rintro e w2 ⟨a, b, c, d, rfl, ⟨a0, a1⟩, ⟨b0, b1⟩, ⟨c0, c1⟩, ⟨d0, d1⟩, hr2, hw2⟩
  have hz2 := hw2.size
  have B2 := Lib.hid ((B1.out.trans ((hw2.below (by omega)).mono (by omega))).alloc (by have := B1.out.size; omega) (.cells #[.int .i64 a, .int .i64 b, .int .i64 c, .int .i64 d] 25))
  have Q2 := Lib.hid ((Q1.out.rd hw2 (by omega)).alloc (.cells #[.int .i64 a, .int .i64 b, .int .i64 c, .int .i64 d] 25))
  have R2 := Lib.hid (hr2.below ((below_new w2 (.cells #[.int .i64 a, .int .i64 b, .int .i64 c, .int .i64 d] 25)).mono hr2.lt))
  have X2 := Lib.hid (Blk.new w2 25 #[.int .i64 a, .int .i64 b, .int .i64 c, .int .i64 d])
  clear hr2 hw2
  go_wp2_with (fail)
  refine (one_any (xs := [0, 1, 2, 0, 1, 2, 3, -1]) (fun x => -1 ≤ x ∧ x ≤ 3) (w.heap.size + 1) _ _ (R2.out.below ((below_new (w2.alloc (.cells #[.int .i64 a, .int .i64 b, .int .i64 c, .int .i64 d] 25)) _).mono (by simp; omega))) (by omega) (by simpa using OW.lit (w2.alloc (.cells #[.int .i64 a, .int .i64 b, .int .i64 c, .int .i64 d] 25)) 3 (w.heap.size + 1 + 1) [0, 1, 2, 0, 1, 2, 3, -1] (by simp; omega) (by simp)) (by omega) (by omega) (by simp)).mono ?_
  rintro e wy ⟨h, rfl, ⟨h0, h1⟩, hr3, hw3⟩
  replace B2 := Lib.hid (B2.out.trans ((((Rd.of_below (below_new (w2.alloc (.cells #[.int .i64 a, .int .i64 b, .int .i64 c, .int .i64 d] 25)) _)).trans hw3).below (by simp; omega)).mono (by omega)))
  replace Q2 := Lib.hid ((Q2.out.alloc _).rd hw3 (by omega))
  replace X2 := Lib.hid ((X2.out.alloc _).rd hw3 (by omega))
  replace R2 := Lib.hid hr3
  have hxl := X2.out.lt
  clear hr3 hw3
  go_wp2_with (fail)
  obtain ⟨xa, xb, xc, xd⟩ := X2.out.c4
  go_region_law (go_simp; go_at_call 41; go_must (refine (someLoad_any (w.heap.size + 1) _ _ (R2.out.below (by repeat (first | exact Below.refl _ _ | with_reducible refine Below.drew ?_))) (by omega)).mono ?_; rintro e w6 ⟨x, rfl, ⟨x0, x1⟩, hr6, hw6⟩; have HW6 : Hid (Rd wy w6 (w.heap.size + 1)) := Lib.hid ((Rd.of_below (a := wy) (by repeat (first | exact Below.refl _ _ | with_reducible refine Below.drew ?_))).trans hw6); have B6 := Lib.hid (B2.out.trans ((HW6.out.below (by omega)).mono (by omega))); have X6 := Lib.hid (X2.out.rd HW6.out (by omega)); have Q6 := Lib.hid (Q2.out.rd HW6.out (by omega)); clear hr6 hw6 xa xb xc xd; obtain ⟨xa, xb, xc, xd⟩ := X6.out.c4; obtain ⟨qa, qb, qc, qd⟩ := Q6.out.c4; have f0 := Q6.out.frozen 0; have f1 := Q6.out.frozen 1; have f2 := Q6.out.frozen 2; have f3 := Q6.out.frozen 3))
  all_goals (
    go_wp2_with (fail)
    refine bodyPost_ret (v := .tuple #[.agg #[.int .i64 a, .int .i64 b, .int .i64 c, .int .i64 d], .int .i64 h, .int .i64 x]) (by simp [results, Tryd.results25, go_sem, qa, qb, qc, qd]) rfl ?_
    refine ⟨a, b, c, d, h, x, rfl, ⟨a0, a1⟩, ⟨b0, b1⟩, ⟨c0, c1⟩, ⟨d0, d1⟩, ⟨h0, h1⟩, ⟨x0, x1⟩, ?_⟩
    repeat' (first | with_reducible exact B6.out | with_reducible refine Below.setCell ?_ ?_ _ | exact Nat.le_refl _))
set_option maxHeartbeats 2000000 in
theorem spec_DrawHealthPath_any {A : Option Addr} {n c' : Nat} {zs : List Int} (w : World) (h : BS w A n c' zs) (hn : n ≤ 1048576) :
    Calls Tryd.prog 26 #[.slice A n c'] w (DrewMI w) := by
  have H := Lib.hid h
  clear h
  go_enter Tryd.func26, Tryd.ntmps26
  go_wp2_with (fail)
  refine (newReader_any _ (H.out.alloc _) hn).mono ?_
  rintro e w1 ⟨rfl, hr1, hb1⟩
  have R1 : Hid (RD w1 58 (w.heap.size + 1) 0) := Lib.hid (by simpa using hr1)
  have B1 := Lib.hid (below_then (below_new w _) hb1)
  have Q1 := Lib.hid ((Blk.new w 25 #[.int .i64 0, .int .i64 0, .int .i64 0, .int .i64 0]).on hb1)
  have hz1 := R1.out.lt
  clear hr1 hb1
  go_wp2_with (fail)
  refine (someMarks_any (w.heap.size + 1) 0 w1 R1.out (by omega)).mono ?_
  rintro e w2 ⟨a, b, c, d, rfl, ⟨a0, a1⟩, ⟨b0, b1⟩, ⟨c0, c1⟩, ⟨d0, d1⟩, hr2, hw2⟩
  have hz2 := hw2.size
  have B2 := Lib.hid ((B1.out.trans ((hw2.below (by omega)).mono (by omega))).alloc (by have := B1.out.size; omega) (.cells #[.int .i64 a, .int .i64 b, .int .i64 c, .int .i64 d] 25))
  have Q2 := Lib.hid ((Q1.out.rd hw2 (by omega)).alloc (.cells #[.int .i64 a, .int .i64 b, .int .i64 c, .int .i64 d] 25))
  have R2 := Lib.hid (hr2.below ((below_new w2 (.cells #[.int .i64 a, .int .i64 b, .int .i64 c, .int .i64 d] 25)).mono hr2.lt))
  have X2 := Lib.hid (Blk.new w2 25 #[.int .i64 a, .int .i64 b, .int .i64 c, .int .i64 d])
  clear hr2 hw2
  have O0 : Hid (OW ((w2.alloc (.cells #[.int .i64 a, .int .i64 b, .int .i64 c, .int .i64 d] 25)).alloc (.cells #[] 3)) 3 (w2.heap.size + 1) (some ⟨w2.heap.size + 1, 0, none⟩) 0 0 []) := Lib.hid (by simpa using OW.lit (w2.alloc (.cells #[.int .i64 a, .int .i64 b, .int .i64 c, .int .i64 d] 25)) 3 (w2.heap.size + 1) [] (by simp) (by simp))
  go_wp2_with (fail)
  refine (one_any (xs := [5, 8, 3, 12, 1, 0, 13]) (fun x => 0 ≤ x ∧ x ≤ 13) (w.heap.size + 1) _ _ (R2.out.below (((below_new (w2.alloc (.cells #[.int .i64 a, .int .i64 b, .int .i64 c, .int .i64 d] 25)) _).trans ((below_new _ _).mono (by simp))).mono (by simp; omega))) (by omega) (by simpa using OW.lit ((w2.alloc (.cells #[.int .i64 a, .int .i64 b, .int .i64 c, .int .i64 d] 25)).alloc (.cells #[] 3)) 3 (w.heap.size + 1 + 1) [5, 8, 3, 12, 1, 0, 13] (by simp; omega) (by simp)) (by omega) (by omega) (by simp)).mono ?_
  rintro e w3 ⟨k0, rfl, ⟨hk0, hk1⟩, hr3, hw3⟩
  obtain ⟨m, rfl⟩ := Int.eq_ofNat_of_zero_le hk0
  have hW3 : Rd (w2.alloc (.cells #[.int .i64 a, .int .i64 b, .int .i64 c, .int .i64 d] 25)) w3 (w.heap.size + 1) := (Rd.of_below ((below_new (w2.alloc (.cells #[.int .i64 a, .int .i64 b, .int .i64 c, .int .i64 d] 25)) (.cells #[] 3)).trans ((below_new _ (.cells #[.int .i64 5, .int .i64 8, .int .i64 3, .int .i64 12, .int .i64 1, .int .i64 0, .int .i64 13] 3)).mono (by simp)))).trans hw3
  have B3 := Lib.hid (B2.out.trans ((hW3.below (by simp; omega)).mono (by omega)))
  have Q3 := Lib.hid (Q2.out.rd hW3 (by omega))
  have X3 := Lib.hid (X2.out.rd hW3 (by omega))
  have O3 := Lib.hid ((O0.out.alloc (.cells #[.int .i64 5, .int .i64 8, .int .i64 3, .int .i64 12, .int .i64 1, .int .i64 0, .int .i64 13] 3)).rd hw3 (by omega))
  have R3 := Lib.hid (hr3.mono (show 0 + 5 + 1 ≤ 6 + (13 - m) by omega))
  have hz3 := X3.out.lt
  clear hr3 hw3 hW3 O0 B2 Q2 X2 R2
  go_wp2_with (fail)
  go_loopw [6, 7] (fun l i wr => ∃ (j : Nat) (xs : List Int) (A1 : Option Addr) (n1 k1 : Nat), j + n1 ≤ 13 ∧ i = .int .i64 (j : Int) ∧ l = .slice A1 n1 k1 ∧ Hid (OW wr 3 (w2.heap.size + 1) A1 n1 k1 xs) ∧ Hid (RD wr 58 (w.heap.size + 1) (6 + (13 - j))) ∧ Hid (Blk wr w.heap.size 25 #[.int .i64 0, .int .i64 0, .int .i64 0, .int .i64 0]) ∧ Hid (Blk wr w2.heap.size 25 #[.int .i64 a, .int .i64 b, .int .i64 c, .int .i64 d]) ∧ Hid (Below w.heap.size w wr)) (fun _ i _ => (intOf i).toNat)
  case atStart => exact ⟨m, [], _, 0, 0, by omega, rfl, rfl, O3, R3, Q3, X3, B3⟩
  case round =>
    obtain ⟨j, xs, A1, n1, k1, hj, rfl, rfl, ho, hd, hq, hx, hb⟩ := hrel
    clear O3 R3 Q3 X3 B3
    by_cases h0 : 0 < j
    · have h0' : (0 : Int) < (j : Int) := by omega
      go_wp2_with (fail)
      refine (pick_any (w.heap.size + 1) _ 101 wr hd.out (by omega) (by omega)).mono ?_
      rintro e w4 ⟨x, rfl, hx0, hx1, hr4, hw4⟩
      have R4 := Lib.hid (hr4.mono (show 6 + (13 - j) + 1 ≤ 6 + (13 - (j - 1)) by omega))
      have Q4 := Lib.hid (hq.out.rd hw4 (by omega))
      have X4 := Lib.hid (hx.out.rd hw4 (by omega))
      have O4 := Lib.hid (ho.out.rd hw4 (by omega))
      have B4 := Lib.hid (hb.out.trans ((hw4.below (by have := hd.out.lt; omega)).mono (by omega)))
      have hz4 := X4.out.lt
      clear hr4 hw4 hx1
      have O7 := Lib.hid (O4.out.alloc (.cells #[.int .i64 x] 3))
      have SV : Hid (IS (w4.alloc (.cells #[.int .i64 x] 3)) (some ⟨w4.heap.size, 0, none⟩) 1 1 [x]) := Lib.hid (by simpa using (OW.lit w4 3 0 [x] (by simp) (by simp)).is)
      have R7 := Lib.hid (R4.out.below ((below_new w4 (.cells #[.int .i64 x] 3)).mono (by omega)))
      have Q7 := Lib.hid (Q4.out.alloc (.cells #[.int .i64 x] 3))
      have X7 := Lib.hid (X4.out.alloc (.cells #[.int .i64 x] 3))
      have B7 := Lib.hid (B4.out.alloc B4.out.size (.cells #[.int .i64 x] 3))
      have GE := Lib.hid O4.out.ge
      have DQ : Hid (Disj (some ⟨w.heap.size, 0, none⟩) A1) := Lib.hid (disj_box (show w.heap.size < w2.heap.size + 1 by omega) O4.out.ge)
      have DX : Hid (Disj (some ⟨w2.heap.size, 0, none⟩) A1) := Lib.hid (disj_box (show w2.heap.size < w2.heap.size + 1 by omega) O4.out.ge)
      obtain ⟨i, hi⟩ : ∃ i, j = i + 1 := ⟨j - 1, by omega⟩
      have e1 : j - 1 = i := by omega
      rw [e1] at R7
      have hji : (j : Int) - 1 = (i : Int) := by omega
      have hw1 : IntKind.i64.wrap ((j : Int) - 1) = (i : Int) := by rw [IntKind.wrap_i64]; omega
      go_wp2_with (at_builtin; go_must (refine wpList_append_is _ rfl (.tmp 20) (.tmp 23) _ rfl (w2.heap.size + 1) 3 infoInt Tryd.underlying28 _ _ _ _ rfl O7.out _ _ _ _ rfl SV.out (by omega) (by simp; omega) ?_); intro A8 k8 w8 hown8 hg8; have O8 := Lib.hid hown8; have G8 := Lib.hid (row_of hg8); have R8 := Lib.hid (R7.out.row G8.out (GE.out.mono (by omega))); have Q8 := Lib.hid (Q7.out.away G8.out DQ.out); have X8 := Lib.hid (X7.out.away G8.out DX.out); have B8 := Lib.hid (below_row B7.out G8.out B7.out.size (GE.out.mono (by omega))); clear hown8 hg8)
      go_roundw
      case rel => exact ⟨i, xs ++ [x], A8, n1 + 1, k8, by omega, by first | rfl | go_num, rfl, O8, R8, Q8, X8, B8⟩
      case measure => simp [intOf]; omega
    · have h0' : ¬ (0 : Int) < (j : Int) := by omega
      have hxl := hx.out.lt
      have hrl := hd.out.lt
      have GE := Lib.hid ho.out.ge
      have IO := Lib.hid ho.out.is
      obtain ⟨xa, xb, xc, xd⟩ := hx.out.c4
      go_wp2_with (fail)
      go_region_law (go_simp; go_at_call 43; go_must (refine (spoil_any (w.heap.size + 1) _ 101 _ (hd.out.below (by repeat (first | exact Below.refl _ _ | with_reducible refine Below.drew ?_))) (by omega) (by first | exact IO.out | exact IO.out.drew) (by omega)).mono ?_; rintro e w6 ⟨ys, A9, n9, c9, rfl, hn9, i9, g9, hr6, hw6⟩; have HW6 : Hid (Rd wr w6 (w.heap.size + 1)) := Lib.hid ((Rd.of_below (a := wr) (by repeat (first | exact Below.refl _ _ | with_reducible refine Below.drew ?_))).trans hw6); have B6 := Lib.hid (hb.out.trans ((HW6.out.below (by omega)).mono (by omega))); have X6 := Lib.hid (hx.out.rd HW6.out (by omega)); have Q6 := Lib.hid (hq.out.rd HW6.out (by omega)); have I6 := Lib.hid i9; have D6 : Hid (Disj (some ⟨w.heap.size, 0, none⟩) A9) := Lib.hid (disj_box (B := wr.heap.size) (by omega) g9); have G6 : Hid (Ge A9 w.heap.size) := Lib.hid (Ge.mono (B := wr.heap.size) g9 (by omega)); clear i9 g9 hr6 hw6 xa xb xc xd; obtain ⟨xa, xb, xc, xd⟩ := X6.out.c4; obtain ⟨qa, qb, qc, qd⟩ := Q6.out.c4; have f0 := Q6.out.frozen 0; have f1 := Q6.out.frozen 1; have f2 := Q6.out.frozen 2; have f3 := Q6.out.frozen 3))
      all_goals (
        go_wp2_with (fail)
        refine bodyPost_ret (v := .tuple #[.agg #[.int .i64 a, .int .i64 b, .int .i64 c, .int .i64 d], .slice A9 n9 c9]) (by simp [results, Tryd.results26, go_sem, qa, qb, qc, qd]) rfl ?_
        refine ⟨a, b, c, d, ys, A9, n9, c9, rfl, ⟨a0, a1⟩, ⟨b0, b1⟩, ⟨c0, c1⟩, ⟨d0, d1⟩, by omega, ?_, G6.out, ?_⟩
        · repeat' (first | with_reducible exact I6.out | with_reducible refine IS.setCell ?_ ?_ _ | exact D6.out)
        · repeat' (first | with_reducible exact B6.out | with_reducible refine Below.setCell ?_ ?_ _ | exact Nat.le_refl _))
theorem spec_DrawCountTurns_any {A : Option Addr} {n c' : Nat} {zs : List Int} (w : World) (h : BS w A n c' zs) (hn : n ≤ 1048576) :
    Calls Tryd.prog 28 #[.slice A n c'] w (DrewMI w) := by
  have H := Lib.hid h
  clear h
  go_enter Tryd.func28, Tryd.ntmps28
  go_wp2_with (fail)
  refine (spec_DrawHealthPath_any _ (H.out.alloc _) hn).mono ?_
  rintro e w1 ⟨a, b, c, d, xs, A1, n1, c1', rfl, ⟨a0, a1⟩, ⟨b0, b1⟩, ⟨c0, c1⟩, ⟨d0, d1⟩, hn1, i1, g1, hb1⟩
  have B1 := Lib.hid (below_then (below_new w _) hb1)
  have Q1 := Lib.hid ((Blk.new w 25 #[.int .i64 0, .int .i64 0, .int .i64 0, .int .i64 0]).on hb1)
  have I1 := Lib.hid i1
  have g2 : Ge A1 (w.heap.size + 1) := by simpa using g1
  have D1 : Hid (Disj (some ⟨w.heap.size, 0, none⟩) A1) := Lib.hid (disj_box (Nat.lt_succ_self _) g2)
  have G1 : Hid (Ge A1 w.heap.size) := Lib.hid (g2.mono (Nat.le_succ _))
  clear i1 g1 hb1 g2
  obtain ⟨q0, q1, q2, q3⟩ := Q1.out.c4
  have f0 := Q1.out.frozen 0
  have f1 := Q1.out.frozen 1
  have f2 := Q1.out.frozen 2
  have f3 := Q1.out.frozen 3
  go_wp2_with (fail)
  refine bodyPost_ret (v := .tuple #[.agg #[.int .i64 a, .int .i64 b, .int .i64 c, .int .i64 d], .slice A1 n1 c1']) (by simp [results, Tryd.results28, go_sem, q0, q1, q2, q3]) rfl ?_
  refine ⟨a, b, c, d, xs, A1, n1, c1', rfl, ⟨a0, a1⟩, ⟨b0, b1⟩, ⟨c0, c1⟩, ⟨d0, d1⟩, hn1, ?_, G1.out, ?_⟩
  · repeat' (first | with_reducible exact I1.out | with_reducible refine IS.setCell ?_ ?_ _ | exact D1.out)
  · repeat' (first | with_reducible exact B1.out | with_reducible refine Below.setCell ?_ ?_ _ | exact Nat.le_refl _)
end Go.Proofs.YtdbfccfckinjmaaDoor
