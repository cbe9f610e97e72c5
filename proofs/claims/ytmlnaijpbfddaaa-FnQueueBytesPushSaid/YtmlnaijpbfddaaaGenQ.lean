/-
  Drawn entries: someEntries, anyEntries.
-/
import Derived.Test.YtmlnaijpbfddaaaGenB
import Derived.Test.YtmlnaijpbfddaaaQuA
import Derived.Test.YtmlnaijpbfddaaaTriC
import Derived.Deep.RegionHeld3
import Derived.Deep.DeepMust
namespace Go.Proofs.Ytmlnaijpbfddaaa
open Go.RowKit

theorem OT.rd {w w' : World} {T base r : Nat} {A : Option Addr} {n c : Nat} {xs : List Tr} (h : OT w T base A n c xs) (hg : Rd w w' r) (hr : r < base) : OT w' T base A n c xs :=
  h.kept fun g e hlt => hg.block g hlt (fun e2 => by
    injection e2 with e2
    have h1 := h.ge _ e
    simp at h1
    omega)
theorem TS.rd {w w' : World} {r : Nat} {A : Option Addr} {n c : Nat} {xs : List Tr} (h : TS w A n c xs) (hg : Rd w w' r) (hr : Ge A (r + 1)) : TS w' A n c xs :=
  h.kept fun p hp hlt => hg.block p.block hlt (fun e => by injection e with e; have := hr p hp; omega)
theorem ts_one (w : World) (T : Nat) (a b c : Int) : TS (w.alloc (.cells #[.int .i64 a, .int .i64 b, .int .i64 c] T)) (some ⟨w.heap.size, 0, none⟩) 1 1 [⟨a, b, c⟩] := by
  have h := (OT.lit w T 0 [⟨a, b, c⟩] (Nat.zero_le _) (by simp)).ts
  simpa [cellsT] using h
theorem cellsT_seta {xs : List Tr} {j : Nat} {x : Tr} (h : xs[j]? = some x) (v : Int) : (cellsT xs).set (j * 3) (.int .i64 v) = cellsT (xs.set j ⟨v, x.b, x.c⟩) := by
  induction xs generalizing j with
  | nil => simp at h
  | cons y xs ih =>
    have e : ∀ z : Tr, ∀ l, cellsT (z :: l) = .int .i64 z.a :: .int .i64 z.b :: .int .i64 z.c :: cellsT l := fun z l => by simp [cellsT]
    rcases j with _ | j
    · simp at h; subst h; simp [e]
    · simp at h
      have e1 : (j + 1) * 3 = j * 3 + 3 := by omega
      rw [e1, List.set_cons_succ, e, e]
      simp only [List.set_cons_succ]
      rw [ih h]
theorem OT.puta {w : World} {T base g n c : Nat} {xs : List Tr} (h : OT w T base (some ⟨g, 0, none⟩) n c xs) {j : Nat} {x : Tr} (hx : xs[j]? = some x) (v : Int) :
    OT (w.setCell ⟨g, j * 3, none⟩ (.int .i64 v)) T base (some ⟨g, 0, none⟩) n c (xs.set j ⟨v, x.b, x.c⟩) := by
  unfold OT
  rw [← cellsT_seta hx]
  exact (World.ownsRow.stored h (j * 3) (.int .i64 v)).1
/-- Drawn entries of the call's own. -/
def DrewEnt (T R : TypeId) (w : World) (r N m : Nat) (e : Ending) (w' : World) : Prop :=
  ∃ xs A n c, e = .returned (.slice A n c) ∧ n ≤ m ∧ OT w' T w.heap.size A n c xs ∧ RD w' R r N ∧ Rd w w' r
set_option maxHeartbeats 8000000 in
theorem someEntries_any (r N : Nat) (w : World) (h : RD w 48 r N) (hN : N ≤ 800000) :
    Calls Try.prog 25 #[.pointer (some ⟨r, 0, none⟩)] w (DrewEnt 28 48 w r (N + 31) 10) := by
  have hr := h.lt
  have H := Lib.hid h
  clear h
  go_enter Try.func25, Try.ntmps25
  go_wp2_with (fail)
  refine (one_any (xs := [4, 6, 3, 8, 1, 0, 10]) (fun x => 0 ≤ x ∧ x ≤ 10) r N _ (H.out.below (((below_new w _).trans ((below_new _ _).mono (by simp))).mono (by omega))) (by omega) (by simpa using OW.lit (w.alloc (.cells #[] 28)) 3 (r + 1) [4, 6, 3, 8, 1, 0, 10] (by simp; omega) (by simp)) (by omega) (by omega) (by simp)).mono ?_
  rintro e w1 ⟨k0, rfl, ⟨hk0, hk1⟩, hr1, hw1⟩
  obtain ⟨m, rfl⟩ := Int.eq_ofNat_of_zero_le hk0
  have R1 := Lib.hid (hr1.mono (show N + 1 ≤ N + 1 + 3 * (10 - m) by omega))
  have W1 := Lib.hid ((Rd.of_below ((below_new w (.cells #[] 28)).trans ((below_new _ (.cells #[.int .i64 4, .int .i64 6, .int .i64 3, .int .i64 8, .int .i64 1, .int .i64 0, .int .i64 10] 3)).mono (by simp)))).trans hw1)
  have hO : OT (w.alloc (.cells #[] 28)) 28 w.heap.size (some ⟨w.heap.size, 0, none⟩) 0 0 [] := by simpa [cellsT] using OT.lit w 28 w.heap.size [] (Nat.le_refl _) (by simp)
  have O1 := Lib.hid ((hO.alloc (.cells #[.int .i64 4, .int .i64 6, .int .i64 3, .int .i64 8, .int .i64 1, .int .i64 0, .int .i64 10] 3)).rd hw1 hr)
  clear hr1 hw1 hO
  go_wp2_with (fail)
  go_loopw [3, 4] (fun l i wr => ∃ (j : Nat) (xs : List Tr) (A1 : Option Addr) (n1 c1 : Nat), j + n1 ≤ 10 ∧ i = .int .i64 (j : Int) ∧ l = .slice A1 n1 c1 ∧ Hid (OT wr 28 w.heap.size A1 n1 c1 xs) ∧ Hid (RD wr 48 r (N + 1 + 3 * (10 - j))) ∧ Hid (Rd w wr r) ∧ Hid (∀ x ∈ xs, 0 ≤ x.a ∧ x.a ≤ 200)) (fun _ i _ => (intOf i).toNat)
  case atStart => exact ⟨m, [], _, 0, 0, by omega, rfl, rfl, O1, R1, W1, Lib.hid (by simp)⟩
  case round =>
    obtain ⟨j, xs, A1, n1, c1, hj, rfl, rfl, ho, hd, hg, hx⟩ := hrel
    clear O1 R1 W1
    have hsz := hg.out.size
    by_cases h0 : 0 < j
    · have h0' : (0 : Int) < (j : Int) := by omega
      go_wp2_with (fail)
      refine (pick_any r _ 10 wr hd.out (by omega) (by omega)).mono ?_
      rintro e w2 ⟨x, rfl, hx0, hx1, hr2, hw2⟩
      have hx2 := hx1 (by omega)
      have R2 := Lib.hid hr2
      have W2 := Lib.hid (hg.out.trans hw2)
      have O2 := Lib.hid (ho.out.rd hw2 hr)
      clear hx1 hr2 hw2
      go_wp2_with (fail)
      refine (pick_any r _ 3 w2 R2.out (by omega) (by omega)).mono ?_
      rintro e w3 ⟨y, rfl, hy0, hy1, hr3, hw3⟩
      have hy2 := hy1 (by omega)
      have R3 := Lib.hid hr3
      have W3 := Lib.hid (W2.out.trans hw3)
      have O3 := Lib.hid (O2.out.rd hw3 hr)
      clear hy1 hr3 hw3
      go_wp2_with (fail)
      refine (pick_any r _ 20 w3 R3.out (by omega) (by omega)).mono ?_
      rintro e w4 ⟨z, rfl, hz0, hz1, hr4, hw4⟩
      have hz2 := hz1 (by omega)
      have R4 := Lib.hid (hr4.mono (show N + 1 + 3 * (10 - j) + 1 + 1 + 1 ≤ N + 1 + 3 * (10 - (j - 1)) by omega))
      have W4 := Lib.hid (W3.out.trans hw4)
      have O4 := Lib.hid (O3.out.rd hw4 hr)
      have hz4 := W4.out.size
      clear hz1 hr4 hw4
      have O7 := Lib.hid (O4.out.alloc (.cells #[.int .i64 (10 * (j : Int) + x), .int .i64 y, .int .i64 (1 + z)] 28))
      have SV := Lib.hid (ts_one w4 28 (10 * (j : Int) + x) y (1 + z))
      have R7 := Lib.hid (R4.out.below ((below_new w4 (.cells #[.int .i64 (10 * (j : Int) + x), .int .i64 y, .int .i64 (1 + z)] 28)).mono (by omega)))
      have W7 := Lib.hid (W4.out.alloc (.cells #[.int .i64 (10 * (j : Int) + x), .int .i64 y, .int .i64 (1 + z)] 28))
      obtain ⟨i, hi⟩ : ∃ i, j = i + 1 := ⟨j - 1, by omega⟩
      have e1 : j - 1 = i := by omega
      rw [e1] at R7
      clear e1
      have hji : (j : Int) - 1 = (i : Int) := by omega
      have hw1 : IntKind.i64.wrap ((j : Int) - 1) = (i : Int) := by rw [IntKind.wrap_i64]; omega
      clear hi
      have HXN : Hid (∀ t ∈ xs ++ [(⟨10 * (j : Int) + x, y, 1 + z⟩ : Tr)], 0 ≤ t.a ∧ t.a ≤ 200) := Lib.hid fun t ht => by
        rcases List.mem_append.1 ht with h | h
        · exact hx.out t h
        · simp at h
          subst h
          exact ⟨by show 0 ≤ 10 * (j : Int) + x; omega, by show 10 * (j : Int) + x ≤ 200; omega⟩
      go_wp2_with (at_builtin; go_must (refine wpList_append_ts _ rfl (.tmp 14) (.tmp 26) _ rfl w.heap.size 28 infoEnt2 Try.underlying23 _ _ _ xs rfl O7.out _ _ _ [⟨10 * (j : Int) + x, y, 1 + z⟩] rfl SV.out (by omega) (by simp; omega) ?_); intro A8 c8 w8 hown8 hg8; have O8 := Lib.hid hown8; have R8 := Lib.hid (R7.out.row hg8 (O7.out.ge.mono (by omega))); have W8 := Lib.hid (W7.out.row hg8 O7.out.ge); clear hown8 hg8)
      go_roundw
      case rel => exact ⟨i, _, A8, n1 + 1, c8, by omega, by first | rfl | go_num, rfl, O8, R8, W8, HXN⟩
      case measure => simp [intOf]; omega
    · have h0' : ¬ (0 : Int) < (j : Int) := by omega
      have R9 := Lib.hid (hd.out.mono (show N + 1 + 3 * (10 - j) ≤ N + 31 by omega))
      go_wp2_with (fail)
      go_loopw [5] (fun i wr => ∃ (k : Nat) (ys : List Tr), k ≤ n1 ∧ i = .int .i64 (k : Int) ∧ Hid (OT wr 28 w.heap.size A1 n1 c1 ys) ∧ Hid (RD wr 48 r (N + 31)) ∧ Hid (Rd w wr r) ∧ Hid (∀ x ∈ ys, 0 ≤ x.a ∧ x.a ≤ 200)) (fun i _ => n1 - (intOf i).toNat)
      case atStart => exact ⟨0, xs, Nat.zero_le _, rfl, ho, R9, hg, hx⟩
      case round =>
        obtain ⟨k, ys, hk, rfl, ho2, hd2, hg2, hx2⟩ := hrel
        have hsz2 := hg2.out.size
        by_cases hlt : k < n1
        · have hlt' : (k : Int) < (n1 : Int) := by omega
          obtain ⟨g, rfl, hg0, hg1⟩ := ho2.out.pos (by omega)
          obtain ⟨_, _, t, e0, ht, c0, _, _⟩ := ho2.out.ts.at_ hlt
          simp only [Option.some.injEq, Addr.mk.injEq, and_true] at e0
          obtain ⟨rfl, rfl⟩ := e0
          rw [Nat.zero_add] at c0
          obtain ⟨t0, t1⟩ := hx2.out t (List.mem_of_getElem? ht)
          have hfr : wr.frozen? ⟨g, k * 3, none⟩ = false := World.ownsRow.frozenAt ho2.out (k * 3)
          have zk : (0 : Int) ≤ (k : Int) := by omega
          have ON := Lib.hid (ho2.out.puta ht (t.a % 100))
          have RN := Lib.hid (hd2.out.below ((Below.refl _ _).setCell (p := ⟨g, k * 3, none⟩) (by show r + 1 ≤ g; omega) (.int .i64 (t.a % 100))))
          have WN := Lib.hid (hg2.out.setCell (p := ⟨g, k * 3, none⟩) (by show w.heap.size ≤ g; omega) (.int .i64 (t.a % 100)))
          have HXN : Hid (∀ x ∈ ys.set k ⟨t.a % 100, t.b, t.c⟩, 0 ≤ x.a ∧ x.a ≤ 200) := Lib.hid fun x hx => by
            rcases List.mem_or_eq_of_mem_set hx with h | h
            · exact hx2.out x h
            · subst h
              show 0 ≤ t.a % 100 ∧ t.a % 100 ≤ 200
              omega
          clear ht
          go_wp2_with (fail)
          go_roundw
          case rel => exact ⟨k + 1, _, by omega, by go_num, ON, RN, WN, HXN⟩
          case measure => simp [intOf]; omega
        · have hlt' : ¬ (k : Int) < (n1 : Int) := by omega
          rcases hv : validE ys with _ | _
          · have hn0 : 0 < n1 := by
              rcases Nat.eq_zero_or_pos n1 with e | e
              · have hl := ho2.out.len
                rw [e] at hl
                rw [List.length_eq_zero_iff.1 hl, validE_nil] at hv
                cases hv
              · exact e
            go_wp2_with (fail)
            refine (spec_validEntries_any _ ho2.out.ts).mono ?_
            rintro e w5 ⟨rfl, hb⟩
            rw [hv]
            have W5 := Rd.of_below (r := r) hb
            have O5 := Lib.hid (OT.cutTo (OT.rd ho2.out W5 hr) (k := 1) (by omega))
            have R5 := Lib.hid (hd2.out.below (hb.mono (by omega)))
            have G5 := Lib.hid (hg2.out.trans W5)
            obtain ⟨g, rfl, hg0, hg1⟩ := ho2.out.pos hn0
            have hcap := ho2.out.ts.2.1
            clear hb W5
            go_wp2_with (fail)
            go_ret
            exact ⟨_, _, _, _, rfl, by omega, O5.out, R5.out, G5.out⟩
          · go_wp2_with (fail)
            refine (spec_validEntries_any _ ho2.out.ts).mono ?_
            rintro e w5 ⟨rfl, hb⟩
            rw [hv]
            have W5 := Rd.of_below (r := r) hb
            have O5 := Lib.hid (ho2.out.rd W5 hr)
            have R5 := Lib.hid (hd2.out.below (hb.mono (by omega)))
            have G5 := Lib.hid (hg2.out.trans W5)
            clear hb W5
            go_wp2_with (fail)
            go_ret
            exact ⟨_, _, _, _, rfl, by omega, O5.out, R5.out, G5.out⟩
end Go.Proofs.Ytmlnaijpbfddaaa
