/-
  Drawn entries and a class: anyEntries, DrawValidEntries, DrawVictimFor, DrawCanShed.
-/
import Derived.Test.YtnhlbaldbjcjaaaGenQ
import Derived.Deep.RegionHeld3
import Derived.Deep.DeepMust
namespace Go.Proofs.Ytnhlbaldbjcjaaa
open Go.RowKit

set_option maxHeartbeats 8000000 in
theorem anyEntries_any (r N : Nat) (w : World) (h : RD w 44 r N) (hN : N ≤ 700000) :
    Calls Try.prog 11 #[.pointer (some ⟨r, 0, none⟩)] w (DrewEnt 28 44 w r (N + 35) 11) := by
  have hr := h.lt
  have H := Lib.hid h
  clear h
  go_enter Try.func11, Try.ntmps11
  go_wp2_with (fail)
  refine (someEntries_any r N w H.out (by omega)).mono ?_
  rintro e w1 ⟨xs, A1, n1, c1, rfl, hn1, o1, hr1, hw1⟩
  have O1 := Lib.hid o1
  have R1 := Lib.hid hr1
  have W1 := Lib.hid hw1
  have hs1 := hw1.size
  clear o1 hr1 hw1
  go_wp2_with (fail)
  refine (pick_any r _ 14 w1 R1.out (by omega) (by omega)).mono ?_
  rintro e w2 ⟨k, rfl, hk0, hk1, hr2, hw2⟩
  have O2 := Lib.hid (O1.out.rd hw2 hr)
  have R2 := Lib.hid hr2
  have W2 := Lib.hid (W1.out.trans hw2)
  have hs2 := W2.out.size
  clear hk1 hr2 hw2
  by_cases h0 : k = 0
  · have h0' : (k == 0) = true := by simpa using h0
    go_wp2_with (fail)
    refine (one_any (xs := [100, 5]) (fun _ => True) r _ _ (R2.out.below ((below_new w2 _).mono (by omega))) (by omega) (by simpa using OW.lit w2 3 (r + 1) [100, 5] (by omega) (by simp)) (by omega) (by omega) (by simp)).mono ?_
    rintro e w3 ⟨x, rfl, _, hr3, hw3⟩
    have O3 := Lib.hid ((O2.out.alloc (.cells #[.int .i64 100, .int .i64 5] 3)).rd hw3 hr)
    have R3 := Lib.hid hr3
    have W3 := Lib.hid (W2.out.trans ((Rd.of_below (below_new w2 (.cells #[.int .i64 100, .int .i64 5] 3))).trans hw3))
    have hs3 := W3.out.size
    clear hr3 hw3
    go_wp2_with (fail)
    refine (one_any (xs := [3, 0]) (fun _ => True) r _ _ (R3.out.below ((below_new w3 _).mono (by omega))) (by omega) (by simpa using OW.lit w3 3 (r + 1) [3, 0] (by omega) (by simp)) (by omega) (by omega) (by simp)).mono ?_
    rintro e w4 ⟨y, rfl, _, hr4, hw4⟩
    have O4 := Lib.hid ((O3.out.alloc (.cells #[.int .i64 3, .int .i64 0] 3)).rd hw4 hr)
    have R4 := Lib.hid hr4
    have W4 := Lib.hid (W3.out.trans ((Rd.of_below (below_new w3 (.cells #[.int .i64 3, .int .i64 0] 3))).trans hw4))
    have hs4 := W4.out.size
    clear hr4 hw4
    go_wp2_with (fail)
    refine (one_any (xs := [0, 21, 5]) (fun _ => True) r _ _ (R4.out.below ((below_new w4 _).mono (by omega))) (by omega) (by simpa using OW.lit w4 3 (r + 1) [0, 21, 5] (by omega) (by simp)) (by omega) (by omega) (by simp)).mono ?_
    rintro e w5 ⟨z, rfl, _, hr5, hw5⟩
    have O5 := Lib.hid ((O4.out.alloc (.cells #[.int .i64 0, .int .i64 21, .int .i64 5] 3)).rd hw5 hr)
    have R5 := Lib.hid hr5
    have W5 := Lib.hid (W4.out.trans ((Rd.of_below (below_new w4 (.cells #[.int .i64 0, .int .i64 21, .int .i64 5] 3))).trans hw5))
    have hs5 := W5.out.size
    clear hr5 hw5
    have O7 := Lib.hid (O5.out.alloc (.cells #[.int .i64 x, .int .i64 y, .int .i64 z] 28))
    have SV := Lib.hid (ts_one w5 28 x y z)
    have R7 := Lib.hid (R5.out.below ((below_new w5 (.cells #[.int .i64 x, .int .i64 y, .int .i64 z] 28)).mono (by omega)))
    have W7 := Lib.hid (W5.out.alloc (.cells #[.int .i64 x, .int .i64 y, .int .i64 z] 28))
    go_wp2_with (at_builtin; go_must (refine wpList_append_ts _ rfl (.tmp 9) (.tmp 20) _ rfl w.heap.size 28 infoEnt2 Try.underlying23 _ _ _ xs rfl O7.out _ _ _ [⟨x, y, z⟩] rfl SV.out (by omega) (by simp; omega) ?_); intro A8 c8 w8 hown8 hg8; have O8 := Lib.hid hown8; have R8 := Lib.hid (R7.out.row hg8 (O7.out.ge.mono (by omega))); have W8 := Lib.hid (W7.out.row hg8 O7.out.ge); clear hown8 hg8)
    go_ret
    exact ⟨_, A8, _, c8, rfl, by omega, O8.out, R8.out.mono (by omega), W8.out⟩
  · have h0' : (k == 0) = false := by simpa using h0
    go_wp2_with (fail)
    go_ret
    exact ⟨_, _, _, _, rfl, by omega, O2.out, R2.out.mono (by omega), W2.out⟩
/-- Drawn entries. -/
def DrewEnts (w : World) (e : Ending) (w' : World) : Prop :=
  ∃ (xs : List Tr) (A1 : Option Addr) (n1 c1 : Nat), e = .returned (.slice A1 n1 c1) ∧ n1 ≤ 11 ∧ TS w' A1 n1 c1 xs ∧ Below w.heap.size w w'
/-- Drawn entries and a class. -/
def DrewEC (w : World) (e : Ending) (w' : World) : Prop :=
  ∃ (xs : List Tr) (A1 : Option Addr) (n1 c1 : Nat) (a : Int), e = .returned (.tuple #[.slice A1 n1 c1, .int .i64 a]) ∧ n1 ≤ 11 ∧ (-1 ≤ a ∧ a ≤ 3) ∧ TS w' A1 n1 c1 xs ∧ Below w.heap.size w w'
set_option maxHeartbeats 4000000 in
theorem spec_DrawVictimFor_any {A : Option Addr} {n c : Nat} {zs : List Int} (w : World) (h : BS w A n c zs) (hn : n ≤ 1048576) :
    Calls Try.prog 6 #[.slice A n c] w (DrewEC w) := by
  have H := Lib.hid h
  clear h
  go_enter Try.func6, Try.ntmps6
  go_wp2_with (fail)
  refine (newReader_any _ H.out hn).mono ?_
  rintro e w1 ⟨rfl, hr1, hb1⟩
  have R1 := Lib.hid hr1
  have B1 := Lib.hid hb1
  have hz1 := hr1.lt
  clear hr1 hb1
  go_wp2_with (fail)
  refine (anyEntries_any w.heap.size 0 w1 R1.out (by omega)).mono ?_
  rintro e w3 ⟨xs, A1, n1, c1, rfl, hn1, o1, hr3, hw3⟩
  have O3 := Lib.hid o1
  have R3 := Lib.hid hr3
  have W3 := Lib.hid hw3
  clear o1 hr3 hw3
  go_wp2_with (fail)
  refine (someClass_any w.heap.size _ w3 R3.out (by omega)).mono ?_
  rintro e w4 ⟨a, rfl, ha, hr4, hw4⟩
  have I4 := Lib.hid (O3.out.rd hw4 hz1).ts
  have W4 := Lib.hid (W3.out.trans hw4)
  clear hr4 hw4
  go_wp2_with (fail)
  refine bodyPost_ret (v := .tuple #[.slice A1 n1 c1, .int .i64 a]) (by simp [results, Try.results6, go_sem]) rfl ?_
  exact ⟨xs, A1, n1, c1, a, rfl, hn1, ha, I4.out, B1.out.trans (W4.out.below (by omega))⟩
end Go.Proofs.Ytnhlbaldbjcjaaa
