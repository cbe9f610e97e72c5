/-
  Drawn arguments of the laws on tries.
-/
import Derived.Test.YtdbmglhoohgniaaDoorGen
import Derived.Test.YtdbmglhoohgniaaDoorTryB
namespace Go.Proofs.YtdbmglhoohgniaaDoor
open Go.RowKit

set_option maxHeartbeats 2000000 in
theorem spec_DrawBackoffOf_any {A : Option Addr} {n c : Nat} {zs : List Int} (w : World) (h : BS w A n c zs) (hn : n ≤ 1048576) :
    Calls Tryd.prog 27 #[.slice A n c] w fun e w' => ∃ t : Int, e = .returned (.int .i64 t) ∧ -1 ≤ t ∧ t ≤ 7 ∧ Below w.heap.size w w' := by
  have H := Lib.hid h
  clear h
  go_enter Tryd.func27, Tryd.ntmps27
  go_wp2_with (fail)
  refine (newReader_any _ H.out hn).mono ?_
  rintro e w1 ⟨rfl, hr1, hb1⟩
  have R1 := Lib.hid hr1
  have B1 := Lib.hid hb1
  have hz1 := hr1.lt
  clear hr1 hb1
  go_wp2_with (fail)
  refine (pick_any w.heap.size 0 9 w1 R1.out (by omega) (by omega)).mono ?_
  rintro e w2 ⟨k, rfl, hk0, hk1, hr2, hw2⟩
  have hk2 := hk1 (by omega)
  have B2 := Lib.hid (B1.out.trans (hw2.below (by omega)))
  clear hk1 hr2 hw2
  go_wp2_with (fail)
  go_ret
  exact ⟨k - 1, by first | rfl | go_num, by omega, by omega, B2.out⟩
set_option maxHeartbeats 2000000 in
theorem spec_DrawLastWait_any {A : Option Addr} {n c : Nat} {zs : List Int} (w : World) (h : BS w A n c zs) (hn : n ≤ 1048576) :
    Calls Tryd.prog 31 #[.slice A n c] w fun e w' => ∃ t : Int, e = .returned (.int .i64 t) ∧ -1 ≤ t ∧ t ≤ 7 ∧ Below w.heap.size w w' := by
  have H := Lib.hid h
  clear h
  go_enter Tryd.func31, Tryd.ntmps31
  go_wp2_with (fail)
  refine (newReader_any _ H.out hn).mono ?_
  rintro e w1 ⟨rfl, hr1, hb1⟩
  have R1 := Lib.hid hr1
  have B1 := Lib.hid hb1
  have hz1 := hr1.lt
  clear hr1 hb1
  go_wp2_with (fail)
  refine (pick_any w.heap.size 0 9 w1 R1.out (by omega) (by omega)).mono ?_
  rintro e w2 ⟨k, rfl, hk0, hk1, hr2, hw2⟩
  have hk2 := hk1 (by omega)
  have B2 := Lib.hid (B1.out.trans (hw2.below (by omega)))
  clear hk1 hr2 hw2
  go_wp2_with (fail)
  go_ret
  exact ⟨k - 1, by first | rfl | go_num, by omega, by omega, B2.out⟩
set_option maxHeartbeats 4000000 in
theorem spec_DrawTryTime_any {A : Option Addr} {n c : Nat} {zs : List Int} (w : World) (h : BS w A n c zs) (hn : n ≤ 1048576) :
    Calls Tryd.prog 28 #[.slice A n c] w fun e w' => ∃ b t m : Int, e = .returned (.tuple #[.int .i64 b, .int .i64 t, .int .i64 m]) ∧ (-1 ≤ b ∧ b ≤ 1001) ∧ (0 ≤ t ∧ t ≤ 7) ∧ (0 ≤ m ∧ m ≤ 1001) ∧ Below w.heap.size w w' := by
  have H := Lib.hid h
  clear h
  go_enter Tryd.func28, Tryd.ntmps28
  go_wp2_with (fail)
  refine (newReader_any _ H.out hn).mono ?_
  rintro e w1 ⟨rfl, hr1, hb1⟩
  have R1 := Lib.hid hr1
  have B1 := Lib.hid hb1
  have hz1 := hr1.lt
  clear hr1 hb1
  go_wp2_with (fail)
  refine (pick_any w.heap.size 0 250 w1 R1.out (by omega) (by omega)).mono ?_
  rintro e w2 ⟨k, rfl, hk0, hk1, hr2, hw2⟩
  have hk2 := hk1 (by omega)
  have R2 := Lib.hid hr2
  have W2 := Lib.hid hw2
  have hz2 := hr2.lt
  clear hk1 hr2 hw2
  go_wp2_with (fail)
  refine (one_any (xs := [0, 1, 7, 1000, k, 1001, -1]) (fun x => -1 ≤ x ∧ x ≤ 1001) w.heap.size 1 _ (R2.out.below ((below_new w2 _).mono (by omega))) (by omega) (by simpa using OW.lit w2 3 (w.heap.size + 1) [0, 1, 7, 1000, k, 1001, -1] (by omega) (by simp)) (by omega) (by omega) (by simp; omega)).mono ?_
  rintro e w3 ⟨b, rfl, hb, hr3, hw3⟩
  have R3 := Lib.hid hr3
  have W3 := Lib.hid (W2.out.trans ((Rd.of_below (below_new w2 _)).trans hw3))
  have hz3 := hr3.lt
  clear hr3 hw3
  go_wp2_with (fail)
  refine (one_any (xs := [1, 2, 3, 6, 4, 0, 7]) (fun x => 0 ≤ x ∧ x ≤ 7) w.heap.size 2 _ (R3.out.below ((below_new w3 _).mono (by omega))) (by omega) (by simpa using OW.lit w3 3 (w.heap.size + 1) [1, 2, 3, 6, 4, 0, 7] (by omega) (by simp)) (by omega) (by omega) (by simp)).mono ?_
  rintro e w4 ⟨t, rfl, ht, hr4, hw4⟩
  have R4 := Lib.hid hr4
  have W4 := Lib.hid (W3.out.trans ((Rd.of_below (below_new w3 _)).trans hw4))
  have hz4 := hr4.lt
  clear hr4 hw4
  go_wp2_with (fail)
  refine (pick_any w.heap.size 3 250 w4 R4.out (by omega) (by omega)).mono ?_
  rintro e w5 ⟨k5, rfl, hk50, hk51, hr5, hw5⟩
  have hk52 := hk51 (by omega)
  have R5 := Lib.hid hr5
  have W5 := Lib.hid (W4.out.trans hw5)
  have hz5 := hr5.lt
  clear hk51 hr5 hw5
  go_wp2_with (fail)
  refine (one_any (xs := [0, 10, 1000, 1001, k5]) (fun x => 0 ≤ x ∧ x ≤ 1001) w.heap.size 4 _ (R5.out.below ((below_new w5 _).mono (by omega))) (by omega) (by simpa using OW.lit w5 3 (w.heap.size + 1) [0, 10, 1000, 1001, k5] (by omega) (by simp)) (by omega) (by omega) (by simp; omega)).mono ?_
  rintro e w6 ⟨m, rfl, hm, hr6, hw6⟩
  have W6 := Lib.hid (W5.out.trans ((Rd.of_below (below_new w5 _)).trans hw6))
  clear hr6 hw6
  go_wp2_with (fail)
  refine bodyPost_ret (v := .tuple #[.int .i64 b, .int .i64 t, .int .i64 m]) (by simp [results, Tryd.results28, go_sem]) rfl ?_
  exact ⟨b, t, m, rfl, hb, ht, hm, B1.out.trans (W6.out.below (by omega))⟩
set_option maxHeartbeats 4000000 in
theorem spec_DrawTryTimes_any {A : Option Addr} {n c : Nat} {zs : List Int} (w : World) (h : BS w A n c zs) (hn : n ≤ 1048576) :
    Calls Tryd.prog 29 #[.slice A n c] w fun e w' => ∃ b t m : Int, e = .returned (.tuple #[.int .i64 b, .int .i64 t, .int .i64 m]) ∧ (-1 ≤ b ∧ b ≤ 1001) ∧ (-1 ≤ t ∧ t ≤ 7) ∧ (0 ≤ m ∧ m ≤ 1001) ∧ Below w.heap.size w w' := by
  have H := Lib.hid h
  clear h
  go_enter Tryd.func29, Tryd.ntmps29
  go_wp2_with (fail)
  refine (newReader_any _ H.out hn).mono ?_
  rintro e w1 ⟨rfl, hr1, hb1⟩
  have R1 := Lib.hid hr1
  have B1 := Lib.hid hb1
  have hz1 := hr1.lt
  clear hr1 hb1
  go_wp2_with (fail)
  refine (pick_any w.heap.size 0 250 w1 R1.out (by omega) (by omega)).mono ?_
  rintro e w2 ⟨k, rfl, hk0, hk1, hr2, hw2⟩
  have hk2 := hk1 (by omega)
  have R2 := Lib.hid hr2
  have W2 := Lib.hid hw2
  have hz2 := hr2.lt
  clear hk1 hr2 hw2
  go_wp2_with (fail)
  refine (one_any (xs := [0, 1, 7, 1000, k, 1001, -1]) (fun x => -1 ≤ x ∧ x ≤ 1001) w.heap.size 1 _ (R2.out.below ((below_new w2 _).mono (by omega))) (by omega) (by simpa using OW.lit w2 3 (w.heap.size + 1) [0, 1, 7, 1000, k, 1001, -1] (by omega) (by simp)) (by omega) (by omega) (by simp; omega)).mono ?_
  rintro e w3 ⟨b, rfl, hb, hr3, hw3⟩
  have R3 := Lib.hid hr3
  have W3 := Lib.hid (W2.out.trans ((Rd.of_below (below_new w2 _)).trans hw3))
  have hz3 := hr3.lt
  clear hr3 hw3
  go_wp2_with (fail)
  refine (one_any (xs := [0, 1, 3, 6, 4, -1, 7]) (fun x => -1 ≤ x ∧ x ≤ 7) w.heap.size 2 _ (R3.out.below ((below_new w3 _).mono (by omega))) (by omega) (by simpa using OW.lit w3 3 (w.heap.size + 1) [0, 1, 3, 6, 4, -1, 7] (by omega) (by simp)) (by omega) (by omega) (by simp)).mono ?_
  rintro e w4 ⟨t, rfl, ht, hr4, hw4⟩
  have R4 := Lib.hid hr4
  have W4 := Lib.hid (W3.out.trans ((Rd.of_below (below_new w3 _)).trans hw4))
  have hz4 := hr4.lt
  clear hr4 hw4
  go_wp2_with (fail)
  refine (pick_any w.heap.size 3 250 w4 R4.out (by omega) (by omega)).mono ?_
  rintro e w5 ⟨k5, rfl, hk50, hk51, hr5, hw5⟩
  have hk52 := hk51 (by omega)
  have R5 := Lib.hid hr5
  have W5 := Lib.hid (W4.out.trans hw5)
  have hz5 := hr5.lt
  clear hk51 hr5 hw5
  go_wp2_with (fail)
  refine (one_any (xs := [0, 10, 1000, 1001, k5]) (fun x => 0 ≤ x ∧ x ≤ 1001) w.heap.size 4 _ (R5.out.below ((below_new w5 _).mono (by omega))) (by omega) (by simpa using OW.lit w5 3 (w.heap.size + 1) [0, 10, 1000, 1001, k5] (by omega) (by simp)) (by omega) (by omega) (by simp; omega)).mono ?_
  rintro e w6 ⟨m, rfl, hm, hr6, hw6⟩
  have W6 := Lib.hid (W5.out.trans ((Rd.of_below (below_new w5 _)).trans hw6))
  clear hr6 hw6
  go_wp2_with (fail)
  refine bodyPost_ret (v := .tuple #[.int .i64 b, .int .i64 t, .int .i64 m]) (by simp [results, Tryd.results29, go_sem]) rfl ?_
  exact ⟨b, t, m, rfl, hb, ht, hm, B1.out.trans (W6.out.below (by omega))⟩
end Go.Proofs.YtdbmglhoohgniaaDoor
