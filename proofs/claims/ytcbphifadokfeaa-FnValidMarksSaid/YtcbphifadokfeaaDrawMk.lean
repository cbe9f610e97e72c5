/-
  Drawn arguments of the laws on health. (Its words were written by a program of my own.)
-/
import Derived.Test.YtcbphifadokfeaaGenB
import Derived.Test.YtcbphifadokfeaaMk
import Derived.Deep.RegionHeld3
import Derived.Deep.RegionLaw
import Derived.Deep.DeepMust
namespace Go.Proofs.Ytcbphifadokfeaa
open Go.RowKit

/-- Drawn marks. -/
def DrewMk (R : TypeId) (w : World) (r N : Nat) (e : Ending) (w' : World) : Prop :=
  ∃ a b c d : Int, e = .returned (.agg #[.int .i64 a, .int .i64 b, .int .i64 c, .int .i64 d]) ∧ (0 ≤ a ∧ a ≤ 60) ∧ (0 ≤ b ∧ b ≤ 70) ∧ (70 ≤ c ∧ c ≤ 80) ∧ (70 ≤ d ∧ d ≤ 101) ∧ RD w' R r N ∧ Rd w w' r
set_option maxHeartbeats 2000000 in
theorem someMarks_any (r N : Nat) (w : World) (h : RD w 62 r N) (hN : N ≤ 800000) :
    Calls Try.prog 32 #[.pointer (some ⟨r, 0, none⟩)] w (DrewMk 62 w r (N + 5)) := by
  have hr := h.lt
  have H := Lib.hid h
  have Q0 := Lib.hid (Blk.new w 25 #[.int .i64 0, .int .i64 0, .int .i64 0, .int .i64 0])
  clear h
  go_enter Try.func32, Try.ntmps32
  go_wp2_with (fail)
  refine (one_any (xs := [30, 0, 50, 60]) (fun x => 0 ≤ x ∧ x ≤ 60) r N _ (H.out.below (((below_new w (.cells #[.int .i64 0, .int .i64 0, .int .i64 0, .int .i64 0] 25)).trans ((below_new _ _).mono (by simp))).mono (by omega))) (by omega) (by simpa using OW.lit (w.alloc (.cells #[.int .i64 0, .int .i64 0, .int .i64 0, .int .i64 0] 25)) 3 (r + 1) [30, 0, 50, 60] (by simp; omega) (by simp)) (by omega) (by omega) (by simp)).mono ?_
  rintro e w1 ⟨a, rfl, ⟨a0, a1⟩, hr1, hw1⟩
  have R1 := Lib.hid hr1
  have W1 := Lib.hid ((Rd.of_below ((below_new w (.cells #[.int .i64 0, .int .i64 0, .int .i64 0, .int .i64 0] 25)).trans ((below_new _ (.cells #[.int .i64 30, .int .i64 0, .int .i64 50, .int .i64 60] 3)).mono (by simp)))).trans hw1)
  have Q1 := Lib.hid ((Q0.out.alloc (.cells #[.int .i64 30, .int .i64 0, .int .i64 50, .int .i64 60] 3)).rd hw1 (by omega))
  have hz1 := Q1.out.lt
  clear hr1 hw1
  go_wp2_with (fail)
  refine (one_any (xs := [61, 70, 65]) (fun x => 0 ≤ x ∧ x ≤ 70) r _ _ (R1.out.below ((below_new w1 _).mono (by omega))) (by omega) (by simpa using OW.lit w1 3 (r + 1) [61, 70, 65] (by omega) (by simp)) (by omega) (by omega) (by simp)).mono ?_
  rintro e w2 ⟨b, rfl, ⟨b0, b1⟩, hr9, hw⟩
  have R2 := Lib.hid hr9
  have W2 := Lib.hid (W1.out.trans ((Rd.of_below (below_new w1 _)).trans hw))
  have Q2 := Lib.hid ((Q1.out.alloc _).rd hw (by omega))
  have hz2 := Q2.out.lt
  clear hr9 hw
  go_wp2_with (fail)
  refine (one_any (xs := [70, 75, 80]) (fun x => 70 ≤ x ∧ x ≤ 80) r _ _ (R2.out.below ((below_new w2 _).mono (by omega))) (by omega) (by simpa using OW.lit w2 3 (r + 1) [70, 75, 80] (by omega) (by simp)) (by omega) (by omega) (by simp)).mono ?_
  rintro e w3 ⟨c, rfl, ⟨c0, c1⟩, hr9, hw⟩
  have R3 := Lib.hid hr9
  have W3 := Lib.hid (W2.out.trans ((Rd.of_below (below_new w2 _)).trans hw))
  have Q3 := Lib.hid ((Q2.out.alloc _).rd hw (by omega))
  have hz3 := Q3.out.lt
  clear hr9 hw
  go_wp2_with (fail)
  refine (one_any (xs := [90, 101, 95, 81]) (fun x => 70 ≤ x ∧ x ≤ 101) r _ _ (R3.out.below ((below_new w3 _).mono (by omega))) (by omega) (by simpa using OW.lit w3 3 (r + 1) [90, 101, 95, 81] (by omega) (by simp)) (by omega) (by omega) (by simp)).mono ?_
  rintro e w4 ⟨d, rfl, ⟨d0, d1⟩, hr9, hw⟩
  have R4 := Lib.hid hr9
  have W4 := Lib.hid (W3.out.trans ((Rd.of_below (below_new w3 _)).trans hw))
  have Q4 := Lib.hid ((Q3.out.alloc _).rd hw (by omega))
  have hz4 := Q4.out.lt
  clear hr9 hw
  go_wp2_with (fail)
  refine (pick_any r _ 12 _ (R4.out.below ((below_new w4 _).mono (by omega))) (by omega) (by omega)).mono ?_
  rintro e w5 ⟨k, rfl, hk0, hk1, hr5, hw5⟩
  have R5 := Lib.hid hr5
  have N5 := Lib.hid ((Blk.new w4 25 #[.int .i64 a, .int .i64 b, .int .i64 c, .int .i64 d]).rd hw5 (by omega))
  have Q5 := Lib.hid ((Q4.out.alloc _).rd hw5 (by omega))
  have W5 := Lib.hid (W4.out.trans ((Rd.of_below (below_new w4 _)).trans hw5))
  have hz5 := N5.out.lt
  clear hr5 hw5 hk1
  obtain ⟨g, hg⟩ : ∃ z, z = w4.heap.size := ⟨_, rfl⟩
  rw [← hg] at N5 hz5 ⊢
  have hd : g ≠ w.heap.size := by omega
  have hgw : w.heap.size < g := by omega
  clear hg
  obtain ⟨c0', c1', c2', c3'⟩ := N5.out.c4
  obtain ⟨q0, q1, q2, q3⟩ := Q5.out.c4
  have f0 := N5.out.frozen 0
  have f1 := N5.out.frozen 1
  have f2 := N5.out.frozen 2
  have f3 := N5.out.frozen 3
  have e0 := Q5.out.frozen 0
  have e1 := Q5.out.frozen 1
  have e2 := Q5.out.frozen 2
  have e3 := Q5.out.frozen 3
  by_cases h0 : k = 0
  · obtain rfl := h0
    go_wp2_with (fail)
    refine bodyPost_ret (v := .agg #[.int .i64 a, .int .i64 a, .int .i64 c, .int .i64 d]) (by simp [results, Try.results32, go_sem, q0, q1, q2, q3]) rfl ?_
    refine ⟨a, a, c, d, rfl, by omega, by omega, by omega, by omega, ?_, ?_⟩
    · refine (R5.out.mono (by omega)).below ?_
      repeat' (first | with_reducible exact Below.refl _ _ | with_reducible refine Below.setCell ?_ (by first | (show r + 1 ≤ g; omega) | (show r + 1 ≤ w.heap.size; omega)) _)
    · repeat' (first | with_reducible exact W5.out | with_reducible refine Rd.setCell ?_ (by first | (show w.heap.size ≤ g; omega) | (show w.heap.size ≤ w.heap.size; omega)) _)
  have h0' : (k == 0) = false := by simp [h0]
  by_cases h1 : k = 1
  · obtain rfl := h1
    go_wp2_with (fail)
    refine bodyPost_ret (v := .agg #[.int .i64 a, .int .i64 b, .int .i64 c, .int .i64 c]) (by simp [results, Try.results32, go_sem, q0, q1, q2, q3]) rfl ?_
    refine ⟨a, b, c, c, rfl, by omega, by omega, by omega, by omega, ?_, ?_⟩
    · refine (R5.out.mono (by omega)).below ?_
      repeat' (first | with_reducible exact Below.refl _ _ | with_reducible refine Below.setCell ?_ (by first | (show r + 1 ≤ g; omega) | (show r + 1 ≤ w.heap.size; omega)) _)
    · repeat' (first | with_reducible exact W5.out | with_reducible refine Rd.setCell ?_ (by first | (show w.heap.size ≤ g; omega) | (show w.heap.size ≤ w.heap.size; omega)) _)
  have h1' : (k == 1) = false := by simp [h1]
  go_wp2_with (fail)
  refine bodyPost_ret (v := .agg #[.int .i64 a, .int .i64 b, .int .i64 c, .int .i64 d]) (by simp [results, Try.results32, go_sem, q0, q1, q2, q3]) rfl ?_
  refine ⟨a, b, c, d, rfl, by omega, by omega, by omega, by omega, ?_, ?_⟩
  · refine (R5.out.mono (by omega)).below ?_
    repeat' (first | with_reducible exact Below.refl _ _ | with_reducible refine Below.setCell ?_ (by first | (show r + 1 ≤ g; omega) | (show r + 1 ≤ w.heap.size; omega)) _)
  · repeat' (first | with_reducible exact W5.out | with_reducible refine Rd.setCell ?_ (by first | (show w.heap.size ≤ g; omega) | (show w.heap.size ≤ w.heap.size; omega)) _)
/-- Drawn marks alone, with two numbers, with a list. -/
def DrewM1 (w : World) (e : Ending) (w' : World) : Prop :=
  ∃ a b c d : Int, e = .returned (.agg #[.int .i64 a, .int .i64 b, .int .i64 c, .int .i64 d]) ∧ (0 ≤ a ∧ a ≤ 60) ∧ (0 ≤ b ∧ b ≤ 70) ∧ (70 ≤ c ∧ c ≤ 80) ∧ (70 ≤ d ∧ d ≤ 101) ∧ Below w.heap.size w w'
def DrewM3 (w : World) (e : Ending) (w' : World) : Prop :=
  ∃ a b c d h x : Int, e = .returned (.tuple #[.agg #[.int .i64 a, .int .i64 b, .int .i64 c, .int .i64 d], .int .i64 h, .int .i64 x]) ∧ (0 ≤ a ∧ a ≤ 60) ∧ (0 ≤ b ∧ b ≤ 70) ∧ (70 ≤ c ∧ c ≤ 80) ∧ (70 ≤ d ∧ d ≤ 101) ∧ (-1 ≤ h ∧ h ≤ 3) ∧ (-1 ≤ x ∧ x ≤ 101) ∧ Below w.heap.size w w'
def DrewMI (w : World) (e : Ending) (w' : World) : Prop :=
  ∃ (a b c d : Int) (xs : List Int) (A1 : Option Addr) (n1 c1 : Nat), e = .returned (.tuple #[.agg #[.int .i64 a, .int .i64 b, .int .i64 c, .int .i64 d], .slice A1 n1 c1]) ∧ (0 ≤ a ∧ a ≤ 60) ∧ (0 ≤ b ∧ b ≤ 70) ∧ (70 ≤ c ∧ c ≤ 80) ∧ (70 ≤ d ∧ d ≤ 101) ∧ n1 ≤ 14 ∧ IS w' A1 n1 c1 xs ∧ Ge A1 w.heap.size ∧ Below w.heap.size w w'
set_option maxHeartbeats 2000000 in
theorem spec_DrawValidMarks_any {A : Option Addr} {n c' : Nat} {zs : List Int} (w : World) (h : BS w A n c' zs) (hn : n ≤ 1048576) :
    Calls Try.prog 16 #[.slice A n c'] w (DrewM1 w) := by
  have H := Lib.hid h
  clear h
  go_enter Try.func16, Try.ntmps16
  go_wp2_with (fail)
  refine (newReader_any _ (H.out.alloc _) hn).mono ?_
  rintro e w1 ⟨rfl, hr1, hb1⟩
  have R1 : Hid (RD w1 62 (w.heap.size + 1) 0) := Lib.hid (by simpa using hr1)
  have B1 := Lib.hid (below_then (below_new w _) hb1)
  have Q1 := Lib.hid ((Blk.new w 25 #[.int .i64 0, .int .i64 0, .int .i64 0, .int .i64 0]).on hb1)
  have hz1 := R1.out.lt
  clear hr1 hb1
  go_wp2_with (fail)
  refine (someMarks_any (w.heap.size + 1) 0 w1 R1.out (by omega)).mono ?_
  rintro e w2 ⟨a, b, c, d, rfl, ⟨a0, a1⟩, ⟨b0, b1⟩, ⟨c0, c1⟩, ⟨d0, d1⟩, hr2, hw2⟩
  have hz2 := hw2.size
  have B2 := Lib.hid (B1.out.trans ((hw2.below (by omega)).mono (by omega)))
  have Q2 := Lib.hid (Q1.out.rd hw2 (by omega))
  clear hr2 hw2
  obtain ⟨q0, q1, q2, q3⟩ := Q2.out.c4
  have f0 := Q2.out.frozen 0
  have f1 := Q2.out.frozen 1
  have f2 := Q2.out.frozen 2
  have f3 := Q2.out.frozen 3
  go_wp2_with (fail)
  refine bodyPost_ret (v := .agg #[.int .i64 a, .int .i64 b, .int .i64 c, .int .i64 d]) (by simp [results, Try.results16, go_sem, q0, q1, q2, q3]) rfl ?_
  refine ⟨a, b, c, d, rfl, ⟨a0, a1⟩, ⟨b0, b1⟩, ⟨c0, c1⟩, ⟨d0, d1⟩, ?_⟩
  repeat' (first | with_reducible exact B2.out | with_reducible refine Below.setCell ?_ ?_ _ | exact Nat.le_refl _)
end Go.Proofs.Ytcbphifadokfeaa
