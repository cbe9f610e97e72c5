/-
  Contracts of arenas: a block freed.
-/
import Derived.Test.YtleoncjdhlomaaaArF
import Derived.Test.YtleoncjdhlomaaaConT
import Derived.Deep.RegionHeld3
import Derived.Deep.DrawnRows
import Derived.Deep.DeepCutAuto
import Derived.KernelRfl
namespace Go.Proofs.Ytleoncjdhlomaaa
open Go.RowKit
attribute [local go_sem ↓] Go.wp_at_zero Go.wp_at_succ
theorem SlT.two {w : World} {b : Nat} {A A2 : Option Addr} {n c n2 c2 : Nat} {x y : List Tr} (hc : w.cell? ⟨b, 0, none⟩ = some (.slice A n c)) (hc2 : w.cell? ⟨b, 1, none⟩ = some (.slice A2 n2 c2)) (hi : TS w A n c x) (hi2 : TS w A2 n2 c2 y) :
    SlT w (some ⟨b, 0, none⟩) 2 [x, y] := by
  refine ⟨rfl, fun j hj => ?_⟩
  rcases (by omega : j = 0 ∨ j = 1) with rfl | rfl
  · exact ⟨b, 0, A, n, c, x, rfl, rfl, hc, hi⟩
  · exact ⟨b, 0, A2, n2, c2, y, rfl, rfl, by simpa using hc2, hi2⟩
theorem flat2 {w : World} {T base : Nat} {A : Option Addr} {n c : Nat} {x y : List Tr} (h : OT w T base A n c [x, y].flatten) : OT w T base A n c (x ++ y) := by simpa using h
theorem cell_setB {w : World} {p q : Addr} {u v : Value} (hne : q.block ≠ p.block) (h : w.cell? q = some v) : (w.setCell p u).cell? q = some v := by
  rw [World.cell?_of_block (Below.heap_setCell w p u q.block hne)]
  exact h
set_option maxHeartbeats 4000000 in
theorem impl_FreeBlock_any {A : Option Addr} {n c : Nat} {xs : List Tr} (s nm : Int) (w : World) (h : TS w A n c xs) :
    Calls Try.prog 21 #[.agg #[.int .i64 s, .slice A n c], .int .i64 nm] w (GaveArB 39 w (frS s xs nm) (frX s xs nm) (frOK s xs nm)) := by
  have hl := h.len
  have hcap := h.cap
  have H := Lib.hid h
  clear h
  rcases hv : validA s xs with _ | _
  · clear hl
    go_enter Try.func21, Try.ntmps21
    go_wp2_with (fail)
    refine (call_b (impl_ValidArena_any s _ ((H.out.alloc _).alloc _)) hv).mono ?_
    rintro e w1 ⟨rfl, hb⟩
    have B1 := Lib.hid (Below.trans (((Below.refl w.heap.size w).alloc (Nat.le_refl _) _).alloc (by simp) _) (hb.mono (by simp; try omega)))
    have Q1 : Hid (Blk w1 (w.heap.size + 1) 25 #[.int .i64 0, .slice none 0 0]) := Lib.hid ((by simpa using Blk.new (w.alloc (.cells #[.int .i64 s, .slice A n c] 25)) 25 #[.int .i64 0, .slice none 0 0] : Blk _ (w.heap.size + 1) _ _).on hb)
    clear hb
    obtain ⟨q0, q1⟩ := Q1.out.c2
    have f0 := Q1.out.frozen 0
    have f1 := Q1.out.frozen 1
    go_wp2_with (fail)
    refine bodyPost_ret (v := .tuple #[.agg #[.int .i64 0, .slice none 0 0], .bool false]) (by simp [results, Try.results21, go_sem, q0, q1]) rfl ?_
    refine gaveFr_f (frOK_f1 hv) ?_
    repeat' (first | with_reducible exact B1.out | refine Below.setCell ?_ ?_ _ | (show w.heap.size ≤ _; first | omega | (simp; done) | (simp; omega)))
  obtain ⟨h10, _⟩ := validA_used hv
  have hn : n ≤ 10 := by omega
  have HV := Lib.hid hv
  have HL := Lib.hid hl
  clear hl h10 hv
  by_cases hw : whereA nm xs < xs.length
  case neg =>
    have hw2 := named_neg.2 hw
    have e1 : namedA nm xs = -1 := by simp [namedA, hw]
    go_enter Try.func21, Try.ntmps21
    go_wp2_with (fail)
    refine (call_b (impl_ValidArena_any s _ ((H.out.alloc _).alloc _)) HV.out).mono ?_
    rintro e w1 ⟨rfl, hb⟩
    have B1 := Lib.hid (Below.trans (((Below.refl w.heap.size w).alloc (Nat.le_refl _) _).alloc (by simp) _) (hb.mono (by simp; try omega)))
    have P1 : Hid (Blk w1 w.heap.size 25 #[.int .i64 s, .slice A n c]) := Lib.hid (((Blk.new w _ _).alloc _).on hb)
    have Q1 : Hid (Blk w1 (w.heap.size + 1) 25 #[.int .i64 0, .slice none 0 0]) := Lib.hid ((by simpa using Blk.new (w.alloc (.cells #[.int .i64 s, .slice A n c] 25)) 25 #[.int .i64 0, .slice none 0 0] : Blk _ (w.heap.size + 1) _ _).on hb)
    have T1 := Lib.hid (((H.out.alloc _).alloc _).below hb (Nat.le_refl _))
    clear hb
    obtain ⟨p0, p1⟩ := P1.out.c2
    go_wp2_with (fail)
    refine (call_int (impl_placeOfName_any s nm _ T1.out (by omega)) e1).mono ?_
    rintro e w2 ⟨rfl, hb⟩
    have B2 := Lib.hid (B1.out.trans (hb.mono B1.out.size))
    have Q2 := Lib.hid (Q1.out.on hb)
    clear hb p0 p1
    obtain ⟨q0, q1⟩ := Q2.out.c2
    have f0 := Q2.out.frozen 0
    have f1 := Q2.out.frozen 1
    go_wp2_with (fail)
    refine bodyPost_ret (v := .tuple #[.agg #[.int .i64 0, .slice none 0 0], .bool false]) (by simp [results, Try.results21, go_sem, q0, q1]) rfl ?_
    refine gaveFr_f (frOK_f2 hw) ?_
    repeat' (first | with_reducible exact B2.out | refine Below.setCell ?_ ?_ _ | (show w.heap.size ≤ _; first | omega | (simp; done) | (simp; omega)))
  obtain ⟨K, hK⟩ : ∃ K : Nat, K = whereA nm xs := ⟨_, rfl⟩
  have e1 : namedA nm xs = (K : Int) := by rw [named_eq hw, hK]
  have hKn : K < n := by have := HL.out; omega
  have HK := Lib.hid hK
  have E1 := Lib.hid e1
  have HW := Lib.hid hw
  clear hK e1 hw
  have hKi : (K : Int) < (n : Int) := by omega
  have hk0 : ¬ (K : Int) < 0 := by omega
  go_enter Try.func21, Try.ntmps21
  go_wp2_with (fail)
  refine (call_b (impl_ValidArena_any s _ ((H.out.alloc _).alloc _)) HV.out).mono ?_
  rintro e w1 ⟨rfl, hb⟩
  have B1 := Lib.hid (Below.trans (((Below.refl w.heap.size w).alloc (Nat.le_refl _) _).alloc (by simp) _) (hb.mono (by simp; try omega)))
  have P1 : Hid (Blk w1 w.heap.size 25 #[.int .i64 s, .slice A n c]) := Lib.hid (((Blk.new w _ _).alloc _).on hb)
  have Q1 : Hid (Blk w1 (w.heap.size + 1) 25 #[.int .i64 0, .slice none 0 0]) := Lib.hid ((by simpa using Blk.new (w.alloc (.cells #[.int .i64 s, .slice A n c] 25)) 25 #[.int .i64 0, .slice none 0 0] : Blk _ (w.heap.size + 1) _ _).on hb)
  have T1 := Lib.hid (((H.out.alloc _).alloc _).below hb (Nat.le_refl _))
  have hz1 := hb.size
  simp at hz1
  clear hb
  obtain ⟨p0, p1⟩ := P1.out.c2
  go_wp2_with (fail)
  refine (call_int (impl_placeOfName_any s nm _ T1.out (by omega )) E1.out).mono ?_
  rintro e w2 ⟨rfl, hb⟩
  have B2 := Lib.hid (B1.out.trans (hb.mono B1.out.size))
  have P2 := Lib.hid (P1.out.on hb)
  have Q2 := Lib.hid (Q1.out.on hb)
  have T2 := Lib.hid (T1.out.below hb (Nat.le_refl _))
  have hz2 := hb.size
  clear hb p0 p1
  obtain ⟨p0, p1⟩ := P2.out.c2
  obtain ⟨b, off, x, rfl, _, hxa, _⟩ := T2.out.at_ hKn
  have hbl : b < w2.heap.size := World.block_lt_of_cell? w2 ⟨b, off + K * 3, none⟩ hxa
  clear hxa
  have hpl : w.heap.size < w2.heap.size := by omega
  have hql : w.heap.size + 1 < w2.heap.size := by omega
  have hnc := T2.out.2.1
  have hkc : (K : Int) ≤ (c : Int) := by omega
  have HT4 : Hid (TS w2 (some ⟨b, off, none⟩) K c (xs.take K)) := Lib.hid (by simpa using (T2.out.cut (lo := 0) (hi := K) (by omega) (by omega)))
  obtain ⟨AX, hAX⟩ : ∃ v, (if c = K + 1 then some (⟨b, off, none⟩ : Addr) else some ⟨b, off + (K + 1) * 3, none⟩) = v := ⟨_, rfl⟩
  have T7 : Hid (TS w2 AX (n - (K + 1)) (c - (K + 1)) (xs.drop (K + 1))) := Lib.hid (hAX ▸ T2.out.rest hKn)
  have L7 : Hid (Lt AX w2.heap.size) := Lib.hid (by rw [← hAX]; split <;> (intro p hp; cases hp; exact hbl))
  have L4 : Hid (Lt (some ⟨b, off, none⟩) w2.heap.size) := Lib.hid (by intro p hp; cases hp; exact hbl)
  have hwr : IntKind.i64.wrap ((K : Int) + 1) = (K : Int) + 1 := by rw [IntWalk.i64_in _ (by omega)]
  have htn : ((K : Int) + 1).toNat = K + 1 := by omega
  have hx1 : (0 : Int) ≤ (K : Int) + 1 := by omega
  have hx2 : (K : Int) + 1 ≤ (n : Int) := by omega
  have hx3 : (n : Int) ≤ (c : Int) := by omega
  have hcat : catTN [xs.take K, xs.drop (K + 1)] ≤ 536870912 := by
    simp [catTN]
    have := HL.out
    omega
  go_wp2_with (fail)
  go_region_held3 (fun w' => w'.cell? ⟨w.heap.size, 0, none⟩ = some (.int .i64 s) ∧ w'.cell? ⟨w.heap.size, 1, none⟩ = some (.slice (some ⟨b, off, none⟩) n c)) (refine And.intro ?_ ?_ <;> (repeat (with_reducible refine cell_setB (by show w.heap.size ≠ w.heap.size + 1; omega) ?_)) <;> first | (refine cell_up (w := w2) ?_ p0 <;> (repeat' (first | with_reducible exact W4.out | exact Below.refl _ _ | refine Below.drew ?_ | refine Below.alloc ?_ ?_ _ | omega | (simp; done) | (simp; omega)))) | (refine cell_up (w := w2) ?_ p1 <;> (repeat' (first | with_reducible exact W4.out | exact Below.refl _ _ | refine Below.drew ?_ | refine Below.alloc ?_ ?_ _ | omega | (simp; done) | (simp; omega)))))
    ((go_at_call 44; go_must (refine (concatT_any (X := [xs.take K, xs.drop (K + 1)]) _ ?_ (by omega) hcat).mono ?_; (focus (exact SlT.two (Blk.new _ _ _).c2.1 (Blk.new _ _ _).c2.2 (HT4.out.below (by repeat (first | exact Below.refl _ _ | refine Below.drew ?_ | refine Below.alloc ?_ (by simp; try omega) _)) (Nat.le_refl _)) (T7.out.below (by repeat (first | exact Below.refl _ _ | refine Below.drew ?_ | refine Below.alloc ?_ (by simp; try omega) _)) (Nat.le_refl _)))); rintro e w4 ⟨A4, n4, c4, rfl, ho, hb⟩; have O4 := Lib.hid (flat2 ho); have W4 := Lib.hid (below_then (a := w2) (by repeat (first | exact Below.refl _ _ | refine Below.drew ?_ | refine Below.alloc ?_ (by simp; try omega) _)) hb); have Q4 := Lib.hid (Q2.out.on W4.out); clear ho hb; obtain ⟨q0, q1⟩ := Q4.out.c2; have g0 := Q4.out.frozen 0; have g1 := Q4.out.frozen 1)))
  all_goals (
    rename_i KK hKK _
    show KK _ _
    refine hKK _ _ ?_
    go_wp2_with (fail)
    have QF := (Q4.out.set_ 0 (.int .i64 s)).set_ 1 (.slice A4 n4 c4)
    obtain ⟨z0, z1⟩ := (by simpa using QF : Blk _ _ 25 #[.int .i64 s, .slice A4 n4 c4]).c2
    refine bodyPost_ret (v := .tuple #[.agg #[.int .i64 s, .slice A4 n4 c4], .bool true]) (by simp [results, Try.results21, go_sem, z0, z1]) rfl ?_
    have hok := frOK_t (nm := nm) HV.out HW.out
    have B8 := B2.out.trans (W4.out.mono (Nat.le_of_lt hpl))
    refine ⟨A4, n4, c4, by simp only [frS, hok, if_true], ?_, (B8.setCell (by show w.heap.size ≤ w.heap.size + 1; omega) _).setCell (by show w.heap.size ≤ w.heap.size + 1; omega) _⟩
    simp only [frX, hok, if_true, ← HK.out]
    refine ((O4.out.setCell2 (.inl ?_) _).setCell2 (.inl ?_) _).base_le ?_ <;> first | (show w.heap.size + 1 < (w2.alloc _).heap.size; simp; omega) | (show w.heap.size ≤ (w2.alloc _).heap.size; simp; omega))
end Go.Proofs.Ytleoncjdhlomaaa
