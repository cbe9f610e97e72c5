/-
  Drawn streams: anyStream and what draws with it.
-/
import Derived.Test.YtehbkfgcbeldiaaStream
namespace Go.Proofs.Ytehbkfgcbeldiaa
open Go.RowKit
set_option maxHeartbeats 4000000 in
theorem anyStream_any (r N : Nat) (w : World) (h : RD w 46 r N) (hN : N ≤ 600000) :
    Calls Try.prog 11 #[.pointer (some ⟨r, 0, none⟩)] w (DrewNums 3 46 w r (N + 110) 61) := by
  have hr := h.lt
  have H := Lib.hid h
  clear h
  go_enter Try.func11, Try.ntmps11
  go_wp2_with (fail)
  refine (someStream_any r N w H.out (by omega)).mono ?_
  rintro e w1 ⟨xs, A, n, c, rfl, hn, ho1, hr1, hw1⟩
  have O1 := Lib.hid ho1
  have R1 := Lib.hid hr1
  have W1 := Lib.hid hw1
  clear ho1 hr1 hw1
  go_wp2_with (fail)
  refine (pick_any r _ 16 w1 R1.out (by omega) (by omega)).mono ?_
  rintro e w2 ⟨k, rfl, hk0, hk1, hr2, hw2⟩
  have O2 := Lib.hid (O1.out.rd hw2 hr)
  have R2 := Lib.hid hr2
  have W2 := Lib.hid (W1.out.trans hw2)
  have hz2 := W2.out.size
  clear hr2 hw2 hk1
  by_cases c0 : k = 0
  · subst c0
    go_wp2_with (fail)
    refine (one_any (xs := [-1, 256]) (fun _ => True) r _ _ (R2.out.below ((below_new w2 _).mono (by omega))) (by omega) (by simpa using OW.lit w2 3 (r + 1) [-1, 256] (by omega) (by simp)) (by omega) (by omega) (by simp)).mono ?_
    rintro e w9 ⟨v, rfl, _, hr9, hw9⟩
    have hz9 := hw9.size
    simp at hz9
    have O9 := Lib.hid (((O2.out.alloc _).rd hw9 hr).alloc (.cells #[.int .i64 v] 3))
    have HSv : Hid (IS (w9.alloc (.cells #[.int .i64 v] 3)) (some ⟨w9.heap.size, 0, none⟩) 1 1 [v]) := Lib.hid (by simpa using (OW.lit w9 3 0 [v] (by simp) (by simp)).is)
    have R9 := Lib.hid (hr9.below ((below_new w9 (.cells #[.int .i64 v] 3)).mono (by omega)))
    have W9 := Lib.hid ((W2.out.alloc _ |>.trans hw9).alloc (.cells #[.int .i64 v] 3))
    have hz10 := W9.out.size
    clear hr9 hw9
    go_wp2_with (at_builtin; go_must (refine wpList_append_is _ rfl (.tmp 10) (.tmp 14) _ rfl w.heap.size 3 infoInt Try.underlying23 _ _ _ _ rfl O9.out _ _ _ _ rfl HSv.out (by omega) (by first | omega | (simp; done) | (simp; omega)) ?_); intro A10 c10 w10 hown10 hg10; have O10 := Lib.hid hown10; have G10 := Lib.hid (row_of hg10); clear hown10 hg10)
    go_ret
    exact ⟨_, A10, _, c10, rfl, by omega, O10.out, (R9.out.row G10.out (O9.out.ge.mono hr)).mono (by omega), W9.out.row G10.out O9.out.ge⟩
  have d0 : (k == 0) = false := by simpa using c0
  by_cases c1 : k = 1
  · subst c1
    obtain ⟨i0, hi, hz0, hz1, hz2⟩ := info_parts infoInt
    have hb2 : i0.bytes * 61 ≤ 281474976710656 := by rw [hz2]; omega
    have HB := Lib.hid hb2
    have HZ1 := Lib.hid hz1
    have HZ0 := Lib.hid hz0
    have HI := Lib.hid hi
    have hm : 61 ≤ maxLen := by simp only [maxLen]; omega
    clear hb2 hz0 hz1 hz2 hi
    go_wp2_with (at_make; refine wpList_make_full _ rfl _ _ 23 rfl w2.heap.size 3 i0 (.int .i64 0) 1 Try.underlying23 HI.out HZ0.out HZ1.out .i64 .i64 _ _ 61 rfl rfl rfl rfl HB.out hm (Nat.le_refl _) ?_; intro w3 hown3 hgr3; have hb3 : Below w2.heap.size w2 w3 := (Below.refl _ _).grown hgr3 (Nat.le_refl _) (by simp); have O3 : Hid (OW w3 3 w2.heap.size (some ⟨w2.heap.size, 0, none⟩) 61 61 (List.replicate 61 0)) := Lib.hid (by have e : (madeCells (Value.int .i64 0).cells (61 * 1)).toList = List.replicate 61 (Value.int .i64 0) := by { rw [Nat.mul_one]; exact toList_madeCells_one _ _ }; rw [e] at hown3; exact hown3); have B3 := Lib.hid hb3; clear hown3 hgr3 hb3)
    go_ret
    exact ⟨_, _, 61, 61, rfl, by omega, O3.out.base_le W2.out.size, (R2.out.below (B3.out.mono R2.out.lt)).mono (by omega), W2.out.trans (Rd.of_below B3.out)⟩
  have d1 : (k == 1) = false := by simpa using c1
  go_wp2_with (fail)
  go_ret
  exact ⟨xs, A, n, c, rfl, by omega, O2.out, R2.out.mono (by omega), W2.out⟩
theorem call_chk {P : Program} {f : FuncId} {args : Array Value} {w : World} {R : World → Prop} {b c : Int} (h : Calls P f args w fun e w' => e = .returned (.int .i64 b) ∧ R w') (hb : b = c) : Calls P f args w fun e w' => e = .returned (.int .i64 c) ∧ R w' := by
  subst hb
  exact h
/-- Drawn numbers, and nothing old written. -/
def DrewSt (T : TypeId) (w : World) (e : Ending) (w' : World) : Prop :=
  ∃ xs A n c, e = .returned (.slice A n c) ∧ n ≤ 61 ∧ OW w' T w.heap.size A n c xs ∧ Below w.heap.size w w'
set_option maxHeartbeats 1000000 in
theorem spec_DrawReadFrame_any {A : Option Addr} {n c : Nat} {zs : List Int} (w : World) (h : BS w A n c zs) (hn : n ≤ 1048576) :
    Calls Try.prog 4 #[.slice A n c] w (DrewSt 3 w) := by
  have H := Lib.hid h
  clear h
  go_enter Try.func4, Try.ntmps4
  go_wp2_with (fail)
  refine (newReader_any w H.out hn).mono ?_
  rintro e w1 ⟨rfl, hr1, hb1⟩
  have R1 := Lib.hid hr1
  have B1 := Lib.hid hb1
  clear hr1 hb1
  go_wp2_with (fail)
  refine (anyStream_any w.heap.size 0 w1 R1.out (by omega)).mono ?_
  rintro e w2 ⟨xs, A2, n2, c2, rfl, hn2, ho2, hr2, hw2⟩
  have O2 := Lib.hid ho2
  have W2 := Lib.hid hw2
  clear ho2 hr2 hw2
  go_wp2_with (fail)
  go_ret
  exact ⟨xs, A2, n2, c2, rfl, hn2, O2.out.base_le B1.out.size, B1.out.trans (W2.out.below B1.out.size)⟩
end Go.Proofs.Ytehbkfgcbeldiaa
