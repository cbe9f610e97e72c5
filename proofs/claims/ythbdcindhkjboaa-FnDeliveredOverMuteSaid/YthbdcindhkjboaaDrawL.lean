/-
  Drawn arguments of the laws on links.
-/
import Derived.Test.YthbdcindhkjboaaGenB
import Derived.Test.YthbdcindhkjboaaLiM
import Derived.Deep.RegionHeld3
import Derived.Deep.DeepMust
namespace Go.Proofs.Ythbdcindhkjboaa
open Go.RowKit

set_option maxHeartbeats 4000000 in
theorem someFates_any (r N : Nat) (w : World) (h : RD w 68 r N) (hN : N ≤ 800000) :
    Calls Try.prog 46 #[.pointer (some ⟨r, 0, none⟩)] w (DrewInts 68 w r (N + 26) 22) := by
  have hr := h.lt
  have H := Lib.hid h
  clear h
  go_enter Try.func46, Try.ntmps46
  go_wp2_with (fail)
  refine (one_any (xs := [8, 12, 5, 20, 2, 0, 21]) (fun x => 0 ≤ x ∧ x ≤ 21) r N _ (H.out.below (((below_new w _).trans ((below_new _ _).mono (by simp))).mono (by omega))) (by omega) (by simpa using OW.lit (w.alloc (.cells #[] 3)) 3 (r + 1) [8, 12, 5, 20, 2, 0, 21] (by simp; omega) (by simp)) (by omega) (by omega) (by simp)).mono ?_
  rintro e w1 ⟨k0, rfl, ⟨hk0, hk1⟩, hr1, hw1⟩
  obtain ⟨m, rfl⟩ := Int.eq_ofNat_of_zero_le hk0
  have R1 := Lib.hid (hr1.mono (show N + 1 ≤ N + 1 + (21 - m) by omega))
  have W1 := Lib.hid ((Rd.of_below ((below_new w (.cells #[] 3)).trans ((below_new _ (.cells #[.int .i64 8, .int .i64 12, .int .i64 5, .int .i64 20, .int .i64 2, .int .i64 0, .int .i64 21] 3)).mono (by simp)))).trans hw1)
  have hO : OW (w.alloc (.cells #[] 3)) 3 w.heap.size (some ⟨w.heap.size, 0, none⟩) 0 0 [] := by simpa using OW.lit w 3 w.heap.size [] (Nat.le_refl _) (by simp)
  have O1 := Lib.hid ((hO.alloc (.cells #[.int .i64 8, .int .i64 12, .int .i64 5, .int .i64 20, .int .i64 2, .int .i64 0, .int .i64 21] 3)).rd hw1 hr)
  clear hr1 hw1 hO
  go_wp2_with (fail)
  go_loopw [3, 4] (fun l i wr => ∃ (j : Nat) (xs : List Int) (A1 : Option Addr) (n1 c1 : Nat), j + n1 ≤ 21 ∧ i = .int .i64 (j : Int) ∧ l = .slice A1 n1 c1 ∧ Hid (OW wr 3 w.heap.size A1 n1 c1 xs) ∧ Hid (RD wr 68 r (N + 1 + (21 - j))) ∧ Hid (Rd w wr r)) (fun _ i _ => (intOf i).toNat)
  case atStart => exact ⟨m, [], _, 0, 0, by omega, rfl, rfl, O1, R1, W1⟩
  case round =>
    obtain ⟨j, xs, A1, n1, c1, hj, rfl, rfl, ho, hd, hg⟩ := hrel
    clear O1 R1 W1
    have hsz := hg.out.size
    by_cases h0 : 0 < j
    · have h0' : (0 : Int) < (j : Int) := by omega
      go_wp2_with (fail)
      refine (one_any (xs := [0, 1, 2, 3, 0, 1]) (fun x => 0 ≤ x ∧ x ≤ 3) r _ _ (hd.out.below ((below_new wr (.cells #[.int .i64 0, .int .i64 1, .int .i64 2, .int .i64 3, .int .i64 0, .int .i64 1] 3)).mono (by omega))) (by omega) (by simpa using OW.lit wr 3 (r + 1) [0, 1, 2, 3, 0, 1] (by omega) (by simp)) (by omega) (by omega) (by simp)).mono ?_
      rintro e w2 ⟨x, rfl, ⟨hx0, hx1⟩, hr2, hw2⟩
      have R2 := Lib.hid (hr2.mono (show N + 1 + (21 - j) + 1 ≤ N + 1 + (21 - (j - 1)) by omega))
      have W2 := Lib.hid ((hg.out.alloc (.cells #[.int .i64 0, .int .i64 1, .int .i64 2, .int .i64 3, .int .i64 0, .int .i64 1] 3)).trans hw2)
      have O2 := Lib.hid ((ho.out.alloc (.cells #[.int .i64 0, .int .i64 1, .int .i64 2, .int .i64 3, .int .i64 0, .int .i64 1] 3)).rd hw2 hr)
      have hz2 : wr.heap.size + 1 ≤ w2.heap.size := by have := hw2.size; simpa using this
      clear hr2 hw2
      have O7 := Lib.hid (O2.out.alloc (.cells #[.int .i64 x] 3))
      have SV : Hid (IS (w2.alloc (.cells #[.int .i64 x] 3)) (some ⟨w2.heap.size, 0, none⟩) 1 1 [x]) := Lib.hid (by simpa using (OW.lit w2 3 0 [x] (by simp) (by simp)).is)
      have R7 := Lib.hid (R2.out.below ((below_new w2 (.cells #[.int .i64 x] 3)).mono (by omega)))
      have W7 := Lib.hid (W2.out.alloc (.cells #[.int .i64 x] 3))
      obtain ⟨i, hi⟩ : ∃ i, j = i + 1 := ⟨j - 1, by omega⟩
      have e1 : j - 1 = i := by omega
      rw [e1] at R7
      have hji : (j : Int) - 1 = (i : Int) := by omega
      have hw1 : IntKind.i64.wrap ((j : Int) - 1) = (i : Int) := by rw [IntKind.wrap_i64]; omega
      go_wp2_with (at_builtin; go_must (refine wpList_append_is _ rfl (.tmp 13) (.tmp 17) _ rfl w.heap.size 3 infoInt Try.underlying22 _ _ _ _ rfl O7.out _ _ _ _ rfl SV.out (by omega) (by simp; omega) ?_); intro A8 c8 w8 hown8 hg8; have O8 := Lib.hid hown8; have G8 := Lib.hid (row_of hg8); have R8 := Lib.hid (R7.out.row G8.out (O7.out.ge.mono (by omega))); have W8 := Lib.hid (W7.out.row G8.out O7.out.ge); clear hown8 hg8)
      go_roundw
      case rel => exact ⟨i, xs ++ [x], A8, n1 + 1, c8, by omega, by first | rfl | go_num, rfl, O8, R8, W8⟩
      case measure => simp [intOf]; omega
    · have h0' : ¬ (0 : Int) < (j : Int) := by omega
      go_wp2_with (fail)
      refine (spoil_any r _ 4 wr hd.out (by omega) ho.out.is (by omega)).mono ?_
      rintro e w9 ⟨ys, A9, n9, c9, rfl, hn9, i9, g9, hr9, hw9⟩
      have I9 := Lib.hid i9
      have R9 := Lib.hid (hr9.mono (show N + 1 + (21 - j) + 3 ≤ N + 26 by omega))
      have W9 := Lib.hid (hg.out.trans hw9)
      have G9 := Lib.hid (g9.mono hsz)
      clear i9 g9 hr9 hw9
      go_wp2_with (fail)
      go_ret
      exact ⟨ys, A9, n9, c9, rfl, by omega, I9.out, G9.out, R9.out, W9.out⟩
/-- Drawn fates and a number of batches. -/
def DrewL (w : World) (e : Ending) (w' : World) : Prop :=
  ∃ (xs : List Int) (A1 : Option Addr) (n1 c1 : Nat) (m : Int), e = .returned (.tuple #[.slice A1 n1 c1, .int .i64 m]) ∧ n1 ≤ 22 ∧ (-1 ≤ m ∧ m ≤ 9) ∧ IS w' A1 n1 c1 xs ∧ Below w.heap.size w w'
set_option maxHeartbeats 4000000 in
theorem spec_DrawArrivedOver_any {A : Option Addr} {n c : Nat} {zs : List Int} (w : World) (h : BS w A n c zs) (hn : n ≤ 1048576) :
    Calls Try.prog 31 #[.slice A n c] w (DrewL w) := by
  have H := Lib.hid h
  clear h
  go_enter Try.func31, Try.ntmps31
  go_wp2_with (fail)
  refine (newReader_any _ H.out hn).mono ?_
  rintro e w1 ⟨rfl, hr1, hb1⟩
  have R1 := Lib.hid hr1
  have B1 := Lib.hid hb1
  have hz1 := hr1.lt
  clear hr1 hb1
  go_wp2_with (fail)
  refine (someFates_any w.heap.size 0 w1 R1.out (by omega)).mono ?_
  rintro e w3 ⟨xs, A1, n1, c1, rfl, hn1, i1, g1, hr3, hw3⟩
  have I3 := Lib.hid i1
  have G3 := Lib.hid (g1.mono (show w.heap.size + 1 ≤ w1.heap.size by omega))
  have R3 := Lib.hid hr3
  have W3 := Lib.hid hw3
  have hz3 := hr3.lt
  clear i1 g1 hr3 hw3
  go_wp2_with (fail)
  refine (one_any (xs := [3, 4, 8, 1, 5, 0, 9, -1]) (fun x => -1 ≤ x ∧ x ≤ 9) w.heap.size _ _ (R3.out.below ((below_new w3 _).mono (by omega))) (by omega) (by simpa using OW.lit w3 3 (w.heap.size + 1) [3, 4, 8, 1, 5, 0, 9, -1] (by omega) (by simp)) (by omega) (by omega) (by simp)).mono ?_
  rintro e w4 ⟨m, rfl, hm, hr4, hw4⟩
  have I4 := Lib.hid ((I3.out.alloc _).rd hw4 G3.out)
  have B4 := Lib.hid (B1.out.trans ((W3.out.trans ((Rd.of_below (below_new w3 _)).trans hw4)).below (by omega)))
  clear hr4 hw4
  go_wp2_with (fail)
  exact bodyPost_ret (v := .tuple #[.slice A1 n1 c1, .int .i64 m]) (by simp [results, Try.results31, go_sem]) rfl ⟨xs, A1, n1, c1, m, rfl, hn1, hm, I4.out, B4.out⟩
theorem spec_DrawDeliveredOver_any {A : Option Addr} {n c : Nat} {zs : List Int} (w : World) (h : BS w A n c zs) (hn : n ≤ 1048576) :
    Calls Try.prog 20 #[.slice A n c] w (DrewL w) := by
  have H := Lib.hid h
  clear h
  go_enter Try.func20, Try.ntmps20
  go_wp2_with (fail)
  refine (spec_DrawArrivedOver_any w H.out hn).mono ?_
  rintro e w1 ⟨xs, A1, n1, c1, m, rfl, hn1, hm, hi, hb⟩
  have I1 := Lib.hid hi
  have B1 := Lib.hid hb
  clear hi hb
  go_wp2_with (fail)
  exact bodyPost_ret (v := .tuple #[.slice A1 n1 c1, .int .i64 m]) (by simp [results, Try.results20, go_sem]) rfl ⟨xs, A1, n1, c1, m, rfl, hn1, hm, I1.out, B1.out⟩
theorem spec_DrawSendsOver_any {A : Option Addr} {n c : Nat} {zs : List Int} (w : World) (h : BS w A n c zs) (hn : n ≤ 1048576) :
    Calls Try.prog 23 #[.slice A n c] w (DrewL w) := by
  have H := Lib.hid h
  clear h
  go_enter Try.func23, Try.ntmps23
  go_wp2_with (fail)
  refine (spec_DrawArrivedOver_any w H.out hn).mono ?_
  rintro e w1 ⟨xs, A1, n1, c1, m, rfl, hn1, hm, hi, hb⟩
  have I1 := Lib.hid hi
  have B1 := Lib.hid hb
  clear hi hb
  go_wp2_with (fail)
  exact bodyPost_ret (v := .tuple #[.slice A1 n1 c1, .int .i64 m]) (by simp [results, Try.results23, go_sem]) rfl ⟨xs, A1, n1, c1, m, rfl, hn1, hm, I1.out, B1.out⟩
theorem spec_DrawUnackedOver_any {A : Option Addr} {n c : Nat} {zs : List Int} (w : World) (h : BS w A n c zs) (hn : n ≤ 1048576) :
    Calls Try.prog 15 #[.slice A n c] w (DrewL w) := by
  have H := Lib.hid h
  clear h
  go_enter Try.func15, Try.ntmps15
  go_wp2_with (fail)
  refine (spec_DrawArrivedOver_any w H.out hn).mono ?_
  rintro e w1 ⟨xs, A1, n1, c1, m, rfl, hn1, hm, hi, hb⟩
  have I1 := Lib.hid hi
  have B1 := Lib.hid hb
  clear hi hb
  go_wp2_with (fail)
  exact bodyPost_ret (v := .tuple #[.slice A1 n1 c1, .int .i64 m]) (by simp [results, Try.results15, go_sem]) rfl ⟨xs, A1, n1, c1, m, rfl, hn1, hm, I1.out, B1.out⟩
end Go.Proofs.Ythbdcindhkjboaa
