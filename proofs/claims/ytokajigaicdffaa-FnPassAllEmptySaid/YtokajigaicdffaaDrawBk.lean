/-
  Drawn arguments of the laws on buckets. (Its words were written by a program of my own.)
-/
import Derived.Test.YtokajigaicdffaaGenB
import Derived.Test.YtokajigaicdffaaBk
import Derived.Deep.RegionHeld3
import Derived.Deep.RegionLaw
import Derived.Deep.DeepMust
namespace Go.Proofs.Ytokajigaicdffaa
open Go.RowKit

/-- A drawn bucket. -/
def DrewBk (R : TypeId) (w : World) (r N : Nat) (e : Ending) (w' : World) : Prop :=
  ∃ s p l t : Int, e = .returned (.agg #[.int .i64 s, .int .i64 p, .int .i64 l, .int .i64 t]) ∧ (1 ≤ s ∧ s ≤ 200) ∧ (0 ≤ p ∧ p ≤ 21) ∧ (0 ≤ l ∧ l ≤ 201) ∧ (-1 ≤ t ∧ t ≤ 1001) ∧ RD w' R r N ∧ Rd w w' r
set_option maxHeartbeats 2000000 in
theorem someBucket_any (r N : Nat) (w : World) (h : RD w 45 r N) (hN : N ≤ 800000) :
    Calls Try.prog 13 #[.pointer (some ⟨r, 0, none⟩)] w (DrewBk 45 w r (N + 6)) := by
  have hr := h.lt
  have H := Lib.hid h
  have Q0 := Lib.hid (Blk.new w 24 #[.int .i64 0, .int .i64 0, .int .i64 0, .int .i64 0])
  clear h
  go_enter Try.func13, Try.ntmps13
  go_wp2_with (fail)
  refine (one_any (xs := [20, 50, 10, 1, 200]) (fun x => 1 ≤ x ∧ x ≤ 200) r N _ (H.out.below (((below_new w (.cells #[.int .i64 0, .int .i64 0, .int .i64 0, .int .i64 0] 24)).trans ((below_new _ _).mono (by simp))).mono (by omega))) (by omega) (by simpa using OW.lit (w.alloc (.cells #[.int .i64 0, .int .i64 0, .int .i64 0, .int .i64 0] 24)) 3 (r + 1) [20, 50, 10, 1, 200] (by simp; omega) (by simp)) (by omega) (by omega) (by simp)).mono ?_
  rintro e w1 ⟨s, rfl, ⟨hs0, hs1⟩, hr1, hw1⟩
  have R1 := Lib.hid hr1
  have W1 := Lib.hid ((Rd.of_below ((below_new w (.cells #[.int .i64 0, .int .i64 0, .int .i64 0, .int .i64 0] 24)).trans ((below_new _ (.cells #[.int .i64 20, .int .i64 50, .int .i64 10, .int .i64 1, .int .i64 200] 3)).mono (by simp)))).trans hw1)
  have Q1 := Lib.hid ((Q0.out.alloc (.cells #[.int .i64 20, .int .i64 50, .int .i64 10, .int .i64 1, .int .i64 200] 3)).rd hw1 (by omega))
  have hz1 := Q1.out.lt
  clear hr1 hw1
  go_wp2_with (fail)
  refine (one_any (xs := [1, 2, 5, 20]) (fun x => 0 ≤ x ∧ x ≤ 21) r _ _ (R1.out.below ((below_new w1 _).mono (by omega))) (by omega) (by simpa using OW.lit w1 3 (r + 1) [1, 2, 5, 20] (by omega) (by simp)) (by omega) (by omega) (by simp)).mono ?_
  rintro e w2 ⟨p, rfl, ⟨hp0, hp1⟩, hr2, hw2⟩
  have R2 := Lib.hid hr2
  have W2 := Lib.hid (W1.out.trans ((Rd.of_below (below_new w1 _)).trans hw2))
  have Q2 := Lib.hid ((Q1.out.alloc _).rd hw2 (by omega))
  have hz2 := Q2.out.lt
  clear hr2 hw2
  go_wp2_with (fail)
  refine (one_any (xs := [0, 10, 100, 1000]) (fun x => -1 ≤ x ∧ x ≤ 1001) r _ _ (R2.out.below ((below_new w2 _).mono (by omega))) (by omega) (by simpa using OW.lit w2 3 (r + 1) [0, 10, 100, 1000] (by omega) (by simp)) (by omega) (by omega) (by simp)).mono ?_
  rintro e w3 ⟨t, rfl, ⟨ht0, ht1⟩, hr3, hw3⟩
  have R3 := Lib.hid hr3
  have W3 := Lib.hid (W2.out.trans ((Rd.of_below (below_new w2 _)).trans hw3))
  have Q3 := Lib.hid ((Q2.out.alloc _).rd hw3 (by omega))
  have hz3 := Q3.out.lt
  clear hr3 hw3
  have hs2 : IntKind.i64.wrap (s + 1) = s + 1 := by rw [IntKind.wrap_i64]; omega
  go_wp2_with (fail)
  refine (pick_any r _ (s + 1) _ (R3.out.below ((below_new w3 _).mono (by omega))) (by omega) (by omega)).mono ?_
  rintro e w4 ⟨l, rfl, hl0, hl1, hr4, hw4⟩
  have hl2 := hl1 (by omega)
  have R4 := Lib.hid hr4
  have W4 := Lib.hid (W3.out.trans ((Rd.of_below (below_new w3 _)).trans hw4))
  have Q4 := Lib.hid ((Q3.out.alloc _).rd hw4 (by omega))
  have N4 := Lib.hid ((Blk.new w3 24 #[.int .i64 s, .int .i64 p, .int .i64 0, .int .i64 t]).rd hw4 (by omega))
  have hz4 := N4.out.lt
  clear hr4 hw4 hl1
  obtain ⟨c0, c1, c2, c3⟩ := N4.out.c4
  have f0 := N4.out.frozen 0
  have f1 := N4.out.frozen 1
  have f2 := N4.out.frozen 2
  have f3 := N4.out.frozen 3
  go_wp2_with (fail)
  refine (pick_any r _ 20 _ (R4.out.below (((Below.refl (r + 1) w4)).setCell (by show r + 1 ≤ w3.heap.size; omega) _)) (by omega) (by omega)).mono ?_
  rintro e w5 ⟨k, rfl, hk0, hk1, hr5, hw5⟩
  have R5 := Lib.hid hr5
  have N5 := Lib.hid ((N4.out.set_ 2 (.int .i64 l)).rd hw5 (by omega))
  have Q5 := Lib.hid ((Q4.out.far (p := ⟨w3.heap.size, 2, none⟩) (by show w.heap.size ≠ w3.heap.size; omega) (.int .i64 l)).rd hw5 (by omega))
  have W5 := Lib.hid ((W4.out.setCell (p := ⟨w3.heap.size, 2, none⟩) (by show w.heap.size ≤ w3.heap.size; omega) (.int .i64 l)).trans hw5)
  have hz5 := N5.out.lt
  clear hr5 hw5 hk1 c0 c1 c2 c3 f0 f1 f2 f3
  replace N5 : Hid (Blk w5 w3.heap.size 24 #[.int .i64 s, .int .i64 p, .int .i64 l, .int .i64 t]) := N5
  have hd : w3.heap.size ≠ w.heap.size := by omega
  obtain ⟨g, hg⟩ : ∃ z, z = w3.heap.size := ⟨_, rfl⟩
  rw [← hg] at N5 hd hz5
  have hgw : w.heap.size < g := by omega
  by_cases h0 : k = 0
  · obtain rfl := h0
    obtain ⟨c0, c1, c2, c3⟩ := N5.out.c4
    obtain ⟨q0, q1, q2, q3⟩ := Q5.out.c4
    have f0 := N5.out.frozen 0
    have f1 := N5.out.frozen 1
    have f2 := N5.out.frozen 2
    have f3 := N5.out.frozen 3
    have e0 := Q5.out.frozen 0
    have e1 := Q5.out.frozen 1
    have e2 := Q5.out.frozen 2
    have e3 := Q5.out.frozen 3
    rw [← hg]
    clear hg
    go_wp2_with (fail)
    refine bodyPost_ret (v := .agg #[.int .i64 s, .int .i64 p, .int .i64 (s + 1), .int .i64 t]) (by simp [results, Try.results13, go_sem, q0, q1, q2, q3]) rfl ?_
    refine ⟨s, p, s + 1, t, rfl, by omega, by omega, by omega, by omega, ?_, ?_⟩
    · refine (R5.out.mono (by omega)).below ?_
      repeat' (first | with_reducible exact Below.refl _ _ | with_reducible refine Below.setCell ?_ (by first | (show r + 1 ≤ g; omega) | (show r + 1 ≤ w.heap.size; omega)) _)
    · repeat' (first | with_reducible exact W5.out | with_reducible refine Rd.setCell ?_ (by first | (show w.heap.size ≤ g; omega) | (show w.heap.size ≤ w.heap.size; omega)) _)
  have h0' : (k == 0) = false := by simp [h0]
  by_cases h1 : k = 1
  · obtain rfl := h1
    rw [← hg]
    clear hg
    go_wp2_with (fail)
    refine (one_any (xs := [0, 21]) (fun x => 0 ≤ x ∧ x ≤ 21) r _ _ (R5.out.below ((below_new w5 _).mono (by omega))) (by omega) (by simpa using OW.lit w5 3 (r + 1) [0, 21] (by omega) (by simp)) (by omega) (by omega) (by simp)).mono ?_
    rintro e w6 ⟨x, rfl, ⟨hx0, hx1⟩, hr6, hw6⟩
    have R6 := Lib.hid hr6
    have W6 := Lib.hid (W5.out.trans ((Rd.of_below (below_new w5 _)).trans hw6))
    have N6 := Lib.hid ((N5.out.alloc _).rd hw6 (by omega))
    have Q6 := Lib.hid ((Q5.out.alloc _).rd hw6 (by omega))
    clear hr6 hw6
    obtain ⟨c0, c1, c2, c3⟩ := N6.out.c4
    obtain ⟨q0, q1, q2, q3⟩ := Q6.out.c4
    have f0 := N6.out.frozen 0
    have f1 := N6.out.frozen 1
    have f2 := N6.out.frozen 2
    have f3 := N6.out.frozen 3
    have e0 := Q6.out.frozen 0
    have e1 := Q6.out.frozen 1
    have e2 := Q6.out.frozen 2
    have e3 := Q6.out.frozen 3
    go_wp2_with (fail)
    refine bodyPost_ret (v := .agg #[.int .i64 s, .int .i64 x, .int .i64 l, .int .i64 t]) (by simp [results, Try.results13, go_sem, q0, q1, q2, q3]) rfl ?_
    refine ⟨s, x, l, t, rfl, by omega, by omega, by omega, by omega, ?_, ?_⟩
    · refine (R6.out.mono (by omega)).below ?_
      repeat' (first | with_reducible exact Below.refl _ _ | with_reducible refine Below.setCell ?_ (by first | (show r + 1 ≤ g; omega) | (show r + 1 ≤ w.heap.size; omega)) _)
    · repeat' (first | with_reducible exact W6.out | with_reducible refine Rd.setCell ?_ (by first | (show w.heap.size ≤ g; omega) | (show w.heap.size ≤ w.heap.size; omega)) _)
  have h1' : (k == 1) = false := by simp [h1]
  by_cases h2 : k = 2
  · obtain rfl := h2
    rw [← hg]
    clear hg
    go_wp2_with (fail)
    refine (one_any (xs := [-1, 1001]) (fun x => -1 ≤ x ∧ x ≤ 1001) r _ _ (R5.out.below ((below_new w5 _).mono (by omega))) (by omega) (by simpa using OW.lit w5 3 (r + 1) [-1, 1001] (by omega) (by simp)) (by omega) (by omega) (by simp)).mono ?_
    rintro e w6 ⟨x, rfl, ⟨hx0, hx1⟩, hr6, hw6⟩
    have R6 := Lib.hid hr6
    have W6 := Lib.hid (W5.out.trans ((Rd.of_below (below_new w5 _)).trans hw6))
    have N6 := Lib.hid ((N5.out.alloc _).rd hw6 (by omega))
    have Q6 := Lib.hid ((Q5.out.alloc _).rd hw6 (by omega))
    clear hr6 hw6
    obtain ⟨c0, c1, c2, c3⟩ := N6.out.c4
    obtain ⟨q0, q1, q2, q3⟩ := Q6.out.c4
    have f0 := N6.out.frozen 0
    have f1 := N6.out.frozen 1
    have f2 := N6.out.frozen 2
    have f3 := N6.out.frozen 3
    have e0 := Q6.out.frozen 0
    have e1 := Q6.out.frozen 1
    have e2 := Q6.out.frozen 2
    have e3 := Q6.out.frozen 3
    go_wp2_with (fail)
    refine bodyPost_ret (v := .agg #[.int .i64 s, .int .i64 p, .int .i64 l, .int .i64 x]) (by simp [results, Try.results13, go_sem, q0, q1, q2, q3]) rfl ?_
    refine ⟨s, p, l, x, rfl, by omega, by omega, by omega, by omega, ?_, ?_⟩
    · refine (R6.out.mono (by omega)).below ?_
      repeat' (first | with_reducible exact Below.refl _ _ | with_reducible refine Below.setCell ?_ (by first | (show r + 1 ≤ g; omega) | (show r + 1 ≤ w.heap.size; omega)) _)
    · repeat' (first | with_reducible exact W6.out | with_reducible refine Rd.setCell ?_ (by first | (show w.heap.size ≤ g; omega) | (show w.heap.size ≤ w.heap.size; omega)) _)
  have h2' : (k == 2) = false := by simp [h2]
  obtain ⟨c0, c1, c2, c3⟩ := N5.out.c4
  obtain ⟨q0, q1, q2, q3⟩ := Q5.out.c4
  have f0 := N5.out.frozen 0
  have f1 := N5.out.frozen 1
  have f2 := N5.out.frozen 2
  have f3 := N5.out.frozen 3
  have e0 := Q5.out.frozen 0
  have e1 := Q5.out.frozen 1
  have e2 := Q5.out.frozen 2
  have e3 := Q5.out.frozen 3
  rw [← hg]
  clear hg
  go_wp2_with (fail)
  refine bodyPost_ret (v := .agg #[.int .i64 s, .int .i64 p, .int .i64 l, .int .i64 t]) (by simp [results, Try.results13, go_sem, q0, q1, q2, q3]) rfl ?_
  refine ⟨s, p, l, t, rfl, by omega, by omega, by omega, by omega, ?_, ?_⟩
  · refine (R5.out.mono (by omega)).below ?_
    repeat' (first | with_reducible exact Below.refl _ _ | with_reducible refine Below.setCell ?_ (by first | (show r + 1 ≤ g; omega) | (show r + 1 ≤ w.heap.size; omega)) _)
  · repeat' (first | with_reducible exact W5.out | with_reducible refine Rd.setCell ?_ (by first | (show w.heap.size ≤ g; omega) | (show w.heap.size ≤ w.heap.size; omega)) _)
/-- A drawn bucket alone, with one number, with two. -/
def DrewB1 (w : World) (e : Ending) (w' : World) : Prop :=
  ∃ s p l t : Int, e = .returned (.agg #[.int .i64 s, .int .i64 p, .int .i64 l, .int .i64 t]) ∧ (1 ≤ s ∧ s ≤ 200) ∧ (0 ≤ p ∧ p ≤ 21) ∧ (0 ≤ l ∧ l ≤ 201) ∧ (-1 ≤ t ∧ t ≤ 1001) ∧ Below w.heap.size w w'
def DrewB2 (w : World) (e : Ending) (w' : World) : Prop :=
  ∃ s p l t v : Int, e = .returned (.tuple #[.agg #[.int .i64 s, .int .i64 p, .int .i64 l, .int .i64 t], .int .i64 v]) ∧ (1 ≤ s ∧ s ≤ 200) ∧ (0 ≤ p ∧ p ≤ 21) ∧ (0 ≤ l ∧ l ≤ 201) ∧ (-1 ≤ t ∧ t ≤ 1001) ∧ (-2 ≤ v ∧ v ≤ 2002) ∧ Below w.heap.size w w'
def DrewB3 (w : World) (e : Ending) (w' : World) : Prop :=
  ∃ s p l t u v : Int, e = .returned (.tuple #[.agg #[.int .i64 s, .int .i64 p, .int .i64 l, .int .i64 t], .int .i64 u, .int .i64 v]) ∧ (1 ≤ s ∧ s ≤ 200) ∧ (0 ≤ p ∧ p ≤ 21) ∧ (0 ≤ l ∧ l ≤ 201) ∧ (-1 ≤ t ∧ t ≤ 1001) ∧ (-1 ≤ u ∧ u ≤ 201) ∧ (-2 ≤ v ∧ v ≤ 2002) ∧ Below w.heap.size w w'
end Go.Proofs.Ytokajigaicdffaa
