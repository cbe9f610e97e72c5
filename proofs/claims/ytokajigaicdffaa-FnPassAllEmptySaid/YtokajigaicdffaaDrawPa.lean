/-
  Drawn arguments of the laws on passing: a list that the drawing function writes into. (Its words were written by a program of my own.)
-/
import Derived.Test.YtokajigaicdffaaGenB
import Derived.Test.YtokajigaicdffaaDrawBk
import Derived.Deep.RegionHeld3
import Derived.Deep.RegionLaw
import Derived.Deep.DeepMust
import Derived.Lib.MinMax
namespace Go.Proofs.Ytokajigaicdffaa
open Go.RowKit

/-- A slice of integers that may be written into. -/
def WS (w : World) (A : Option Addr) (n c : Nat) (xs : List Int) : Prop :=
  IS w A n c xs ∧ ∀ b off, A = some ⟨b, off, none⟩ → ∀ j, j < n → w.frozen? ⟨b, off + j, none⟩ = false
theorem OW.ws {w : World} {T base : Nat} {A : Option Addr} {n c : Nat} {xs : List Int} (h : OW w T base A n c xs) : WS w A n c xs := by
  refine ⟨h.is, fun b off e j hj => ?_⟩
  rcases h.form with ⟨rfl, _, _⟩ | ⟨g, rfl, _, _⟩
  · cases e
  · simp only [Option.some.injEq, Addr.mk.injEq, and_true] at e
    obtain ⟨rfl, rfl⟩ := e
    have := World.ownsRow.frozenAt h (0 + j)
    exact this
theorem WS.cut1 {w : World} {b off n c : Nat} {xs : List Int} (h : WS w (some ⟨b, off, none⟩) n c xs) (h1 : 1 ≤ n) : WS w (some ⟨b, off + 1, none⟩) (n - 1) (c - 1) ((xs.take n).drop 1) := by
  refine ⟨h.1.cut h1 (Nat.le_refl _), fun b' off' e j hj => ?_⟩
  simp only [Option.some.injEq, Addr.mk.injEq, and_true] at e
  obtain ⟨rfl, rfl⟩ := e
  have := h.2 _ _ rfl (1 + j) (by omega)
  rwa [← Nat.add_assoc] at this
theorem WS.empty (w : World) (A : Option Addr) {c : Nat} (hc : c ≤ maxLen) (h : A = none → c = 0) : WS w A 0 c [] := ⟨IS.empty w A hc h, fun _ _ _ j hj => by omega⟩
theorem WS.storedS {w : World} {b off n c : Nat} {xs : List Int} (h : WS w (some ⟨b, off, none⟩) n c xs) {k : Nat} (hk : k < n) (v : Int) : WS (w.setCell ⟨b, off + k, none⟩ (.int .i64 v)) (some ⟨b, off, none⟩) n c (xs.set k v) := by
  obtain ⟨⟨hl, hnc, hm, hc, hA⟩, hf⟩ := h
  refine ⟨⟨by simpa using hl, hnc, hm, fun hn => ⟨b, off, rfl, fun j hj => ?_⟩, hA⟩, fun b' off' e j hj => ?_⟩
  · obtain ⟨b', off', e, hc'⟩ := hc hn
    simp only [Option.some.injEq, Addr.mk.injEq, and_true] at e
    obtain ⟨rfl, rfl⟩ := e
    by_cases hjk : j = k
    · subst hjk
      rw [World.cell?_setCell_same' _ _ _ (by rw [hc' j hj]; rfl), List.getD_eq_getElem?_getD, List.getElem?_set_self (by omega)]
      rfl
    · have hne : (⟨b, off + k, none⟩ : Addr) ≠ ⟨b, off + j, none⟩ := by
        intro e
        simp only [Addr.mk.injEq, and_true, true_and] at e
        omega
      rw [World.cell?_setCell_other (h := hne), hc' j hj, List.getD_eq_getElem?_getD, List.getD_eq_getElem?_getD, List.getElem?_set_ne (by omega)]
  · simp only [World.frozen?_setCell]
    exact hf b' off' e j hj
theorem IS.lt0 {w : World} {A : Option Addr} {n c : Nat} {xs : List Int} (h : IS w A n c xs) : Lt A w.heap.size ∨ n = 0 := by
  rcases Nat.eq_zero_or_pos n with h0 | h0
  · exact .inr h0
  · left
    obtain ⟨g, off, v, rfl, _, hc⟩ := h.at_ h0
    intro p hp
    cases hp
    exact World.block_lt_of_cell? w ⟨g, off + 0, none⟩ hc
theorem IS.shift0 {w w' : World} {A : Option Addr} {c : Nat} {xs : List Int} (h : IS w A 0 c xs) : IS w' A 0 c xs := ⟨h.1, h.2.1, h.2.2.1, fun h0 => absurd h0 (by omega), h.2.2.2.2⟩
/-- Drawn integers that may be written into. -/
def DrewIntsW (R : TypeId) (w : World) (r N m : Nat) (e : Ending) (w' : World) : Prop :=
  ∃ xs A n c, e = .returned (.slice A n c) ∧ n ≤ m ∧ WS w' A n c xs ∧ Ge A w.heap.size ∧ RD w' R r N ∧ Rd w w' r
set_option maxHeartbeats 4000000 in
theorem spoilW_any {A : Option Addr} {n c : Nat} {xs : List Int} (r N : Nat) (v : Int) (w : World) (h : RD w 45 r N) (hN : N ≤ 900000) (hx : IS w A n c xs) (hn : n ≤ 1000) :
    Calls Try.prog 26 #[.pointer (some ⟨r, 0, none⟩), .slice A n c, .int .i64 v] w (DrewIntsW 45 w r (N + 3) (n + 1)) := by
  have hr := h.lt
  have H := Lib.hid h
  have HX := Lib.hid hx
  clear h hx
  go_enter Try.func26, Try.ntmps26
  go_wp2_with (fail)
  refine (spec_copyInts_any _ HX.out (by omega)).mono ?_
  rintro e w1 ⟨A1, n1, c1, rfl, o1, b1⟩
  have hn1 : n1 ≤ n := by have h1 := o1.len; have h2 := HX.out.len; omega
  have O1 := Lib.hid o1
  have B1 := Lib.hid b1
  have hz1 := b1.size
  clear o1 b1
  go_wp2_with (fail)
  refine (pick_any r N 20 _ (H.out.below (B1.out.mono (by omega))) (by omega) (by omega)).mono ?_
  rintro e w2 ⟨k, rfl, hk0, hk1, hr2, hw2⟩
  have HR2 := Lib.hid hr2
  have HW2 := Lib.hid ((Rd.of_below B1.out).trans hw2)
  have O2 := Lib.hid (O1.out.rd hw2 (by omega))
  have hz2 := hw2.size
  have hG2 : Hid (Ge A1 w.heap.size) := Lib.hid O1.out.ge
  clear hr2 hw2 hk1
  by_cases c0 : k = 0
  · subst c0
    have HSv : Hid (IS (w2.alloc (.cells #[.int .i64 v] 3)) (some ⟨w2.heap.size, 0, none⟩) 1 1 [v]) := Lib.hid (by simpa using (OW.lit w2 3 0 [v] (by simp) (by simp)).is)
    have O3 := Lib.hid (O2.out.alloc (.cells #[.int .i64 v] 3))
    go_wp2_with (at_builtin; go_must (refine wpList_append_is _ rfl (.tmp 14) (.tmp 16) _ rfl w.heap.size 3 infoInt Try.underlying25 _ _ _ _ rfl O3.out _ _ _ _ rfl HSv.out (by omega) (by simp; omega) ?_); intro A5 c5 w5 hown5 hg5; have O5 := Lib.hid hown5; have G5 := Lib.hid (row_of hg5); clear hown5 hg5)
    go_ret
    exact ⟨_, A5, _, c5, rfl, by omega, O5.out.ws, O5.out.ge, ((HR2.out.below ((below_new w2 _).mono (by omega))).row G5.out (O1.out.ge.mono hr)).mono (by omega), (HW2.out.alloc _).row G5.out O1.out.ge⟩
  have d0 : (k == 0) = false := by simpa using c0
  by_cases c1' : k = 1
  · subst c1'
    rcases Nat.eq_zero_or_pos n1 with h0 | h0
    · subst h0
      go_wp2_with (fail)
      go_ret
      exact ⟨_, A1, _, c1, rfl, by omega, O2.out.ws, hG2.out, HR2.out.mono (by omega), HW2.out⟩
    · obtain ⟨g, rfl, hg1, hg2⟩ := O2.out.pos h0
      have hnc := O2.out.is.2.1
      have hcm := O2.out.is.2.2.1
      simp only [maxLen] at hcm
      have hp0 : (0 : Int) < (n1 : Int) := by omega
      have hp1 : (1 : Int) ≤ (n1 : Int) := by omega
      have hp2 : (n1 : Int) ≤ (c1 : Int) := by omega
      by_cases hc1 : c1 = 1
      · subst hc1
        obtain rfl : n1 = 1 := by omega
        go_wp2_with (fail)
        all_goals go_ret
        all_goals exact ⟨[], _, _, _, rfl, by omega, WS.empty _ _ (by simp [maxLen]) (fun h => by cases h), (fun p hp => by cases hp; exact hg1), HR2.out.mono (by omega), HW2.out⟩
      · have HI := Lib.hid (O2.out.ws.cut1 (by omega))
        go_wp2_with (fail)
        all_goals go_ret
        all_goals exact ⟨_, _, _, _, rfl, by omega, by first | exact HI.out | (have := HI.out; simpa using this), (fun p hp => by cases hp; exact hg1), HR2.out.mono (by omega), HW2.out⟩
  have d1 : (k == 1) = false := by simpa using c1'
  by_cases c2 : k = 2
  · subst c2
    rcases Nat.eq_zero_or_pos n1 with h0 | h0
    · subst h0
      go_wp2_with (fail)
      go_ret
      exact ⟨_, A1, _, c1, rfl, by omega, O2.out.ws, hG2.out, HR2.out.mono (by omega), HW2.out⟩
    · obtain ⟨g, rfl, hg1, hg2⟩ := O2.out.pos h0
      have hp0 : (0 : Int) < (n1 : Int) := by omega
      go_wp2_with (fail)
      refine (pick_any r _ (n1 : Int) _ HR2.out (by omega) (by omega)).mono ?_
      rintro e w3 ⟨k3, rfl, hk30, hk31, hr3, hw3⟩
      have hk32 := hk31 (by omega)
      obtain ⟨j, rfl⟩ := Int.eq_ofNat_of_zero_le hk30
      have HR3 := Lib.hid hr3
      have HW3 := Lib.hid (HW2.out.trans hw3)
      have O3 := Lib.hid (O2.out.rd hw3 (by omega))
      have hz3 := hw3.size
      clear hr3 hw3 hk31
      go_wp2_with (fail)
      refine (one_any (xs := [-1, v, 0, 1]) (fun _ => True) r _ _ (HR3.out.below ((below_new w3 _).mono (by omega))) (by omega) (by simpa using OW.lit w3 3 (r + 1) [-1, v, 0, 1] (by omega) (by simp)) (by omega) (by omega) (by simp)).mono ?_
      rintro e w4 ⟨v4, rfl, _, hr4, hw4⟩
      have HR4 := Lib.hid hr4
      have HW4 := Lib.hid ((HW3.out.alloc (.cells #[.int .i64 (-1), .int .i64 v, .int .i64 0, .int .i64 1] 3)).trans hw4)
      have O4 := Lib.hid ((O3.out.alloc (.cells #[.int .i64 (-1), .int .i64 v, .int .i64 0, .int .i64 1] 3)).rd hw4 (by omega))
      clear hr4 hw4
      have hjn : j < n1 := by omega
      obtain ⟨_, _, u, e0, hx, hcv⟩ := O4.out.is.at_ hjn
      simp only [Option.some.injEq, Addr.mk.injEq, and_true] at e0
      obtain ⟨rfl, rfl⟩ := e0
      rw [Nat.zero_add] at hcv
      have hf : w4.frozen? ⟨g, j, none⟩ = false := World.ownsRow.frozenAt O4.out j
      clear hx
      go_wp2_with (fail)
      go_ret
      exact ⟨_, _, _, c1, rfl, by omega, (O4.out.storedS j v4).ws, hG2.out, (HR4.out.below ((Below.refl _ _).setCell (by show r + 1 ≤ g; omega) _)).mono (by omega), HW4.out.setCell (by show w.heap.size ≤ g; omega) _⟩
  have d2 : (k == 2) = false := by simpa using c2
  go_wp2_with (fail)
  go_ret
  exact ⟨_, A1, _, c1, rfl, by omega, O2.out.ws, hG2.out, HR2.out.mono (by omega), HW2.out⟩
set_option maxHeartbeats 4000000 in
theorem someSizes_any (r N : Nat) (w : World) (h : RD w 45 r N) (hN : N ≤ 800000) :
    Calls Try.prog 14 #[.pointer (some ⟨r, 0, none⟩)] w (DrewInts 45 w r (N + 18) 14) := by
  have hr := h.lt
  have H := Lib.hid h
  clear h
  go_enter Try.func14, Try.ntmps14
  go_wp2_with (fail)
  refine (one_any (xs := [5, 8, 3, 12, 1, 0, 13]) (fun x => 0 ≤ x ∧ x ≤ 13) r N _ (H.out.below (((below_new w _).trans ((below_new _ _).mono (by simp))).mono (by omega))) (by omega) (by simpa using OW.lit (w.alloc (.cells #[] 3)) 3 (r + 1) [5, 8, 3, 12, 1, 0, 13] (by simp; omega) (by simp)) (by omega) (by omega) (by simp)).mono ?_
  rintro e w1 ⟨k0, rfl, ⟨hk0, hk1⟩, hr1, hw1⟩
  obtain ⟨m, rfl⟩ := Int.eq_ofNat_of_zero_le hk0
  have R1 := Lib.hid (hr1.mono (show N + 1 ≤ N + 1 + (13 - m) by omega))
  have W1 := Lib.hid ((Rd.of_below ((below_new w (.cells #[] 3)).trans ((below_new _ (.cells #[.int .i64 5, .int .i64 8, .int .i64 3, .int .i64 12, .int .i64 1, .int .i64 0, .int .i64 13] 3)).mono (by simp)))).trans hw1)
  have hO : OW (w.alloc (.cells #[] 3)) 3 w.heap.size (some ⟨w.heap.size, 0, none⟩) 0 0 [] := by simpa using OW.lit w 3 w.heap.size [] (Nat.le_refl _) (by simp)
  have O1 := Lib.hid ((hO.alloc (.cells #[.int .i64 5, .int .i64 8, .int .i64 3, .int .i64 12, .int .i64 1, .int .i64 0, .int .i64 13] 3)).rd hw1 hr)
  clear hr1 hw1 hO
  go_wp2_with (fail)
  go_loopw [3, 4] (fun l i wr => ∃ (j : Nat) (xs : List Int) (A1 : Option Addr) (n1 c1 : Nat), j + n1 ≤ 13 ∧ i = .int .i64 (j : Int) ∧ l = .slice A1 n1 c1 ∧ Hid (OW wr 3 w.heap.size A1 n1 c1 xs) ∧ Hid (RD wr 45 r (N + 1 + (13 - j))) ∧ Hid (Rd w wr r)) (fun _ i _ => (intOf i).toNat)
  case atStart => exact ⟨m, [], _, 0, 0, by omega, rfl, rfl, O1, R1, W1⟩
  case round =>
    obtain ⟨j, xs, A1, n1, c1, hj, rfl, rfl, ho, hd, hg⟩ := hrel
    clear O1 R1 W1
    have hsz := hg.out.size
    by_cases h0 : 0 < j
    · have h0' : (0 : Int) < (j : Int) := by omega
      go_wp2_with (fail)
      refine (pick_any r _ 20 wr hd.out (by omega) (by omega)).mono ?_
      rintro e w2 ⟨x, rfl, hx0, hx1, hr2, hw2⟩
      have hx2 := hx1 (by omega)
      have R2 := Lib.hid (hr2.mono (show N + 1 + (13 - j) + 1 ≤ N + 1 + (13 - (j - 1)) by omega))
      have W2 := Lib.hid (hg.out.trans hw2)
      have O2 := Lib.hid (ho.out.rd hw2 hr)
      have hz2 := hw2.size
      clear hx1 hr2 hw2
      have O7 := Lib.hid (O2.out.alloc (.cells #[.int .i64 (1 + x)] 3))
      have SV : Hid (IS (w2.alloc (.cells #[.int .i64 (1 + x)] 3)) (some ⟨w2.heap.size, 0, none⟩) 1 1 [1 + x]) := Lib.hid (by simpa using (OW.lit w2 3 0 [1 + x] (by simp) (by simp)).is)
      have R7 := Lib.hid (R2.out.below ((below_new w2 (.cells #[.int .i64 (1 + x)] 3)).mono (by omega)))
      have W7 := Lib.hid (W2.out.alloc (.cells #[.int .i64 (1 + x)] 3))
      obtain ⟨i, hi⟩ : ∃ i, j = i + 1 := ⟨j - 1, by omega⟩
      have e1 : j - 1 = i := by omega
      rw [e1] at R7
      have hji : (j : Int) - 1 = (i : Int) := by omega
      have hw1 : IntKind.i64.wrap ((j : Int) - 1) = (i : Int) := by rw [IntKind.wrap_i64]; omega
      go_wp2_with (at_builtin; go_must (refine wpList_append_is _ rfl (.tmp 13) (.tmp 17) _ rfl w.heap.size 3 infoInt Try.underlying25 _ _ _ _ rfl O7.out _ _ _ _ rfl SV.out (by omega) (by simp; omega) ?_); intro A8 c8 w8 hown8 hg8; have O8 := Lib.hid hown8; have G8 := Lib.hid (row_of hg8); have R8 := Lib.hid (R7.out.row G8.out (O7.out.ge.mono (by omega))); have W8 := Lib.hid (W7.out.row G8.out O7.out.ge); clear hown8 hg8)
      go_roundw
      case rel => exact ⟨i, xs ++ [1 + x], A8, n1 + 1, c8, by omega, by first | rfl | go_num, rfl, O8, R8, W8⟩
      case measure => simp [intOf]; omega
    · have h0' : ¬ (0 : Int) < (j : Int) := by omega
      go_wp2_with (fail)
      refine (spoil_any r _ 21 wr hd.out (by omega) ho.out.is (by omega)).mono ?_
      rintro e w9 ⟨ys, A9, n9, c9, rfl, hn9, i9, g9, hr9, hw9⟩
      have I9 := Lib.hid i9
      have R9 := Lib.hid (hr9.mono (show N + 1 + (13 - j) + 3 ≤ N + 18 by omega))
      have W9 := Lib.hid (hg.out.trans hw9)
      have G9 := Lib.hid (g9.mono hsz)
      clear i9 g9 hr9 hw9
      go_wp2_with (fail)
      go_ret
      exact ⟨ys, A9, n9, c9, rfl, by omega, I9.out, G9.out, R9.out, W9.out⟩
set_option maxHeartbeats 4000000 in
theorem someTimes_any (r N m : Nat) (w : World) (h : RD w 45 r N) (hN : N ≤ 800000) (hm : m ≤ 14) :
    Calls Try.prog 15 #[.pointer (some ⟨r, 0, none⟩), .int .i64 (m : Int)] w (DrewIntsW 45 w r (N + 18) 15) := by
  have hr := h.lt
  have H := Lib.hid h
  clear h
  go_enter Try.func15, Try.ntmps15
  go_wp2_with (fail)
  refine (pick_any r N 30 _ (H.out.below ((below_new w _).mono hr)) (by omega) (by omega)).mono ?_
  rintro e w1 ⟨v0, rfl, hv00, hv01, hr1, hw1⟩
  have hv02 := hv01 (by omega)
  have R1 := Lib.hid (hr1.mono (show N + 1 ≤ N + 1 + (14 - m) by omega))
  have W1 := Lib.hid ((Rd.of_below (below_new w (.cells #[] 3))).trans hw1)
  have hO : OW (w.alloc (.cells #[] 3)) 3 w.heap.size (some ⟨w.heap.size, 0, none⟩) 0 0 [] := by simpa using OW.lit w 3 w.heap.size [] (Nat.le_refl _) (by simp)
  have O1 := Lib.hid (hO.rd hw1 hr)
  clear hv01 hr1 hw1 hO
  go_wp2_with (fail)
  go_loopw [5, 6, 7] (fun l v i wr => ∃ (j : Nat) (x : Int) (xs : List Int) (A1 : Option Addr) (n1 c1 : Nat), j + n1 ≤ 14 ∧ 0 ≤ x ∧ x ≤ 30 + 20 * n1 ∧ i = .int .i64 (j : Int) ∧ v = .int .i64 x ∧ l = .slice A1 n1 c1 ∧ Hid (OW wr 3 w.heap.size A1 n1 c1 xs) ∧ Hid (RD wr 45 r (N + 1 + (14 - j))) ∧ Hid (Rd w wr r)) (fun _ _ i _ => (intOf i).toNat)
  case atStart => exact ⟨m, v0, [], _, 0, 0, by omega, hv00, by omega, rfl, rfl, rfl, O1, R1, W1⟩
  case round =>
    obtain ⟨j, x, xs, A1, n1, c1, hj, hx0, hx1, rfl, rfl, rfl, ho, hd, hg⟩ := hrel
    clear O1 R1 W1
    have hsz := hg.out.size
    by_cases h0 : 0 < j
    · have h0' : (0 : Int) < (j : Int) := by omega
      have O7 := Lib.hid (ho.out.alloc (.cells #[.int .i64 x] 3))
      have SV : Hid (IS (wr.alloc (.cells #[.int .i64 x] 3)) (some ⟨wr.heap.size, 0, none⟩) 1 1 [x]) := Lib.hid (by simpa using (OW.lit wr 3 0 [x] (by simp) (by simp)).is)
      have R7 := Lib.hid (hd.out.below ((below_new wr (.cells #[.int .i64 x] 3)).mono (by omega)))
      have W7 := Lib.hid (hg.out.alloc (.cells #[.int .i64 x] 3))
      go_wp2_with (at_builtin; go_must (refine wpList_append_is _ rfl (.tmp 16) (.tmp 18) _ rfl w.heap.size 3 infoInt Try.underlying25 _ _ _ _ rfl O7.out _ _ _ _ rfl SV.out (by omega) (by simp; omega) ?_); intro A8 c8 w8 hown8 hg8; have O8 := Lib.hid hown8; have G8 := Lib.hid (row_of hg8); have hz8 := hg8.size; simp at hz8; have R8 := Lib.hid (R7.out.row G8.out (O7.out.ge.mono (by omega))); have W8 := Lib.hid (W7.out.row G8.out O7.out.ge); clear hown8 hg8)
      refine (one_any (xs := [0, 1, 5, 20, 3]) (fun y => 0 ≤ y ∧ y ≤ 20) r _ _ (R8.out.below ((below_new w8 _).mono (by omega))) (by omega) (by simpa using OW.lit w8 3 (r + 1) [0, 1, 5, 20, 3] (by omega) (by simp)) (by omega) (by omega) (by simp)).mono ?_
      rintro e w9 ⟨y, rfl, ⟨hy0, hy1⟩, hr9, hw9⟩
      have O9 := Lib.hid ((O8.out.alloc _).rd hw9 hr)
      have R9 := Lib.hid (hr9.mono (show N + 1 + (14 - j) + 1 ≤ N + 1 + (14 - (j - 1)) by omega))
      have W9 := Lib.hid (W8.out.trans ((Rd.of_below (below_new w8 (.cells #[.int .i64 0, .int .i64 1, .int .i64 5, .int .i64 20, .int .i64 3] 3))).trans hw9))
      clear hr9 hw9
      obtain ⟨i, hi⟩ : ∃ i, j = i + 1 := ⟨j - 1, by omega⟩
      have e1 : j - 1 = i := by omega
      rw [e1] at R9
      have hji : (j : Int) - 1 = (i : Int) := by omega
      have hw1 : IntKind.i64.wrap ((j : Int) - 1) = (i : Int) := by rw [IntKind.wrap_i64]; omega
      go_wp2_with (fail)
      go_roundw
      case rel => exact ⟨i, x + y, xs ++ [x], A8, n1 + 1, c8, by omega, by omega, by omega, by first | rfl | go_num, by first | rfl | go_num, rfl, O9, R9, W9⟩
      case measure => simp [intOf]; omega
    · have h0' : ¬ (0 : Int) < (j : Int) := by omega
      have hge : Ge A1 (r + 1) := ho.out.ge.mono (by omega)
      go_wp2_with (fail)
      refine (spoilW_any r _ 1001 wr hd.out (by omega) ho.out.is (by omega)).mono ?_
      rintro e w9 ⟨ys, A9, n9, c9, rfl, hn9, i9, g9, hr9, hw9⟩
      have I9 := Lib.hid i9
      have R9 := Lib.hid (hr9.mono (show N + 1 + (14 - j) + 3 ≤ N + 18 by omega))
      have W9 := Lib.hid (hg.out.trans hw9)
      have G9 := Lib.hid (g9.mono hsz)
      clear i9 g9 hr9 hw9
      go_wp2_with (fail)
      go_ret
      exact ⟨ys, A9, n9, c9, rfl, by omega, I9.out, G9.out, R9.out, W9.out⟩
/-- A drawn bucket, sizes and times. -/
def DrewPA (w : World) (e : Ending) (w' : World) : Prop :=
  ∃ (s p l t : Int) (xs ys : List Int) (A1 : Option Addr) (n1 c1 : Nat) (A2 : Option Addr) (n2 c2 : Nat), e = .returned (.tuple #[.agg #[.int .i64 s, .int .i64 p, .int .i64 l, .int .i64 t], .slice A1 n1 c1, .slice A2 n2 c2]) ∧ (1 ≤ s ∧ s ≤ 200) ∧ (0 ≤ p ∧ p ≤ 21) ∧ (0 ≤ l ∧ l ≤ 201) ∧ (-1 ≤ t ∧ t ≤ 1001) ∧ n1 ≤ 14 ∧ n2 ≤ 15 ∧ IS w' A1 n1 c1 xs ∧ IS w' A2 n2 c2 ys ∧ Below w.heap.size w w'
set_option maxHeartbeats 2000000 in
theorem spec_DrawPassAll_any {A : Option Addr} {n c : Nat} {zs : List Int} (w : World) (h : BS w A n c zs) (hn : n ≤ 1048576) :
    Calls Try.prog 6 #[.slice A n c] w (DrewPA w) := by
  have H := Lib.hid h
  clear h
  go_enter Try.func6, Try.ntmps6
  go_wp2_with (fail)
  refine (newReader_any _ (H.out.alloc _) hn).mono ?_
  rintro e w1 ⟨rfl, hr1, hb1⟩
  have R1 : Hid (RD w1 45 (w.heap.size + 1) 0) := Lib.hid (by simpa using hr1)
  have B1 := Lib.hid (below_then (below_new w _) hb1)
  have Q1 := Lib.hid ((Blk.new w 24 #[.int .i64 0, .int .i64 0, .int .i64 0, .int .i64 0]).on hb1)
  have hz1 := R1.out.lt
  clear hr1 hb1
  go_wp2_with (fail)
  refine (someBucket_any (w.heap.size + 1) 0 w1 R1.out (by omega)).mono ?_
  rintro e w2 ⟨s, p, l, t, rfl, ⟨hs0, hs1⟩, ⟨hp0, hp1⟩, ⟨hl0, hl1⟩, ⟨ht0, ht1⟩, hr2, hw2⟩
  have hz2 := hw2.size
  have B2 := Lib.hid ((B1.out.trans ((hw2.below (by omega)).mono (by omega))).alloc (by have := B1.out.size; omega) (.cells #[.int .i64 s, .int .i64 p, .int .i64 l, .int .i64 t] 24))
  have Q2 := Lib.hid ((Q1.out.rd hw2 (by omega)).alloc (.cells #[.int .i64 s, .int .i64 p, .int .i64 l, .int .i64 t] 24))
  have R2 := Lib.hid (hr2.below ((below_new w2 (.cells #[.int .i64 s, .int .i64 p, .int .i64 l, .int .i64 t] 24)).mono hr2.lt))
  have X2 := Lib.hid (Blk.new w2 24 #[.int .i64 s, .int .i64 p, .int .i64 l, .int .i64 t])
  clear hr2 hw2
  go_wp2_with (fail)
  refine (someSizes_any (w.heap.size + 1) _ _ R2.out (by omega)).mono ?_
  rintro e w3 ⟨xs, A1, n1, c1, rfl, hn1, i1, g1, hr3, hw3⟩
  have B3 := Lib.hid (B2.out.trans ((hw3.below (by simp; omega)).mono (by omega)))
  have Q3 := Lib.hid (Q2.out.rd hw3 (by omega))
  have X3 := Lib.hid (X2.out.rd hw3 (by omega))
  have I3 := Lib.hid i1
  have g1' : Ge A1 (w2.heap.size + 1) := by simpa using g1
  have G3 := Lib.hid g1'
  have R3 := Lib.hid hr3
  have L3 : Hid (Lt A1 w3.heap.size ∨ n1 = 0) := Lib.hid (IS.lt0 i1)
  have hz3 := X3.out.lt
  have hcap1 := i1.cap
  clear i1 g1 g1' hr3 hw3
  go_wp2_with (fail)
  refine (someTimes_any (w.heap.size + 1) _ n1 w3 R3.out (by omega) (by omega)).mono ?_
  rintro e w4 ⟨ys, A2, n2, c2, rfl, hn2, i2, g2, hr4, hw4⟩
  have B4 := Lib.hid (B3.out.trans ((hw4.below (by omega)).mono (by omega)))
  have Q4 := Lib.hid (Q3.out.rd hw4 (by omega))
  have X4 := Lib.hid (X3.out.rd hw4 (by omega))
  have I4 := Lib.hid (I3.out.rd hw4 (G3.out.mono (by omega)))
  have W4 := Lib.hid i2
  have G4 := Lib.hid g2
  have hz4 := X4.out.lt
  have hcap2 := i2.1.cap
  clear i2 g2 hr4 hw4
  go_wp2_with (fail)
  go_loopw [9] (fun i wr => ∃ (k : Nat) (vs : List Int), k ≤ n2 ∧ i = .int .i64 (k : Int) ∧ Hid (WS wr A2 n2 c2 vs) ∧ Hid (IS wr A1 n1 c1 xs) ∧ Hid (Blk wr w.heap.size 24 #[.int .i64 0, .int .i64 0, .int .i64 0, .int .i64 0]) ∧ Hid (Blk wr w2.heap.size 24 #[.int .i64 s, .int .i64 p, .int .i64 l, .int .i64 t]) ∧ Hid (Below w.heap.size w wr)) (fun i _ => n2 - (intOf i).toNat)
  case atStart => exact ⟨0, ys, Nat.zero_le _, rfl, W4, I4, Q4, X4, B4⟩
  case round =>
    obtain ⟨k, vs, hk, rfl, HW, HI, HQ, HX, HB⟩ := hrel
    clear W4 I4 Q4 X4 B4
    by_cases hlt : k < n2
    · have hlt' : (k : Int) < (n2 : Int) := by omega
      have hk0 : (0 : Int) ≤ (k : Int) := by omega
      have hat := HW.out.1.at_ hlt
      obtain ⟨g, off, v, rfl, hx, hc⟩ := hat
      have hf := HW.out.2 _ _ rfl k hlt
      have hg : w3.heap.size ≤ g := G4.out _ rfl
      obtain ⟨x0, x1, x2, x3⟩ := HX.out.c4
      have hxl := HX.out.lt
      obtain ⟨m, hm⟩ : ∃ m, max t 0 = m := ⟨_, rfl⟩
      obtain ⟨u, hu⟩ : ∃ u, IntKind.i64.wrap (v + m) = u := ⟨_, rfl⟩
      clear hx
      have D1 : Hid (Disj (some ⟨g, 0, none⟩) A1 ∨ n1 = 0) := Lib.hid (by
        rcases L3.out with h | h
        · exact .inl (fun p q hp hq e => by cases hp; have := h q hq; have e' : g = q.block := e; omega)
        · exact .inr h)
      go_wp2_with (fail)
      go_region
      all_goals (
        go_wp2_with (fail)
        go_roundw
        case rel => exact ⟨k + 1, vs.set k u, by omega, by first | rfl | go_num, Lib.hid (HW.out.storedS hlt u), Lib.hid (by
            rcases D1.out with h | h
            · exact HI.out.setCell h _
            · subst h; exact IS.shift0 HI.out), Lib.hid (HQ.out.far (p := ⟨g, off + k, none⟩) (by show w.heap.size ≠ g; omega) _), Lib.hid (HX.out.far (p := ⟨g, off + k, none⟩) (by show w2.heap.size ≠ g; omega) _), by first | exact Lib.hid (HB.out.setCell (p := ⟨g, off + k, none⟩) (by show w.heap.size ≤ g; omega) _) | exact Lib.hid (HB.out.setCell (p := ⟨g, off + k, none⟩) (by show w.heap.size ≤ g; omega) _).drew⟩
        case measure => simp [intOf]; omega)
    · have hlt' : ¬ (k : Int) < (n2 : Int) := by omega
      obtain ⟨q0, q1, q2, q3⟩ := HQ.out.c4
      obtain ⟨x0, x1, x2, x3⟩ := HX.out.c4
      have f0 := HQ.out.frozen 0
      have f1 := HQ.out.frozen 1
      have f2 := HQ.out.frozen 2
      have f3 := HQ.out.frozen 3
      have DA : Hid (Disj (some ⟨w.heap.size, 0, none⟩) A1) := Lib.hid (disj_box (show w.heap.size < w2.heap.size + 1 by omega) G3.out)
      have DB : Hid (Disj (some ⟨w.heap.size, 0, none⟩) A2) := Lib.hid (disj_box (show w.heap.size < w3.heap.size by omega) G4.out)
      have IW := Lib.hid HW.out.1
      go_wp2_with (fail)
      refine bodyPost_ret (v := .tuple #[.agg #[.int .i64 s, .int .i64 p, .int .i64 l, .int .i64 t], .slice A1 n1 c1, .slice A2 n2 c2]) (by simp [results, Try.results6, go_sem, q0, q1, q2, q3]) rfl ?_
      refine ⟨s, p, l, t, xs, vs, A1, n1, c1, A2, n2, c2, rfl, ⟨hs0, hs1⟩, ⟨hp0, hp1⟩, ⟨hl0, hl1⟩, ⟨ht0, ht1⟩, hn1, hn2, ?_, ?_, ?_⟩
      · repeat' (first | with_reducible exact HI.out | with_reducible refine IS.setCell ?_ ?_ _ | exact DA.out)
      · repeat' (first | with_reducible exact IW.out | with_reducible refine IS.setCell ?_ ?_ _ | exact DB.out)
      · repeat' (first | with_reducible exact HB.out | with_reducible refine Below.setCell ?_ ?_ _ | exact Nat.le_refl _)
end Go.Proofs.Ytokajigaicdffaa
