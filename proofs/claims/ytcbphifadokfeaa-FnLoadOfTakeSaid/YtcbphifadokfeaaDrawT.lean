/-
  Drawn arguments of the laws on budgets.
-/
import Derived.Test.YtcbphifadokfeaaDrawB
import Derived.IntWalk
namespace Go.Proofs.Ytcbphifadokfeaa
open Go.RowKit
attribute [local go_sem ↓] Go.wp_at_zero Go.wp_at_succ

set_option maxHeartbeats 4000000 in
theorem spec_DrawTakeCredit_any {A : Option Addr} {n c : Nat} {zs : List Int} (w : World) (h : BS w A n c zs) (hn : n ≤ 1048576) :
    Calls Try.prog 19 #[.slice A n c] w (DrewBCS w) := by
  have H := Lib.hid h
  clear h
  go_enter Try.func19, Try.ntmps19
  go_wp2_with (fail)
  refine (newReader_any _ (H.out.alloc _) hn).mono ?_
  rintro e w1 ⟨rfl, hr1, hb1⟩
  have R1 : Hid (RD w1 62 (w.heap.size + 1) 0) := Lib.hid (by simpa using hr1)
  have B1 := Lib.hid (below_then (below_new w _) hb1)
  have Q1 := Lib.hid ((Blk.new w 33 #[.int .i64 0, .slice none 0 0, .slice none 0 0]).on hb1)
  have hz1 := R1.out.lt
  clear hr1 hb1
  go_wp2_with (fail)
  refine (anyBudget_any (w.heap.size + 1) 0 w1 R1.out (by omega)).mono ?_
  rintro e w2 ⟨t, ks, us, A2, n2, c2, A2', n2', c2', rfl, hn2, hn2', i1, i2, ge1, ge2, hr2, hw2⟩
  have I1 := Lib.hid (i1.alloc (.cells #[.int .i64 t, .slice A2 n2 c2, .slice A2' n2' c2'] 33))
  have I2 := Lib.hid (i2.alloc (.cells #[.int .i64 t, .slice A2 n2 c2, .slice A2' n2' c2'] 33))
  have hG1 : Hid (Ge A2 (w.heap.size + 1 + 1)) := Lib.hid (ge1.mono (by omega))
  have hG2 : Hid (Ge A2' (w.heap.size + 1 + 1)) := Lib.hid (ge2.mono (by omega))
  have D1 : Hid (Disj (some ⟨w.heap.size, 0, none⟩) A2) := Lib.hid (box_far (show w.heap.size < w1.heap.size by omega) ge1)
  have D2 : Hid (Disj (some ⟨w.heap.size, 0, none⟩) A2') := Lib.hid (box_far (show w.heap.size < w1.heap.size by omega) ge2)
  have B2 := Lib.hid ((B1.out.trans ((hw2.below (by omega)).mono (by omega))).alloc (by have := B1.out.size; have := hw2.size; omega) (.cells #[.int .i64 t, .slice A2 n2 c2, .slice A2' n2' c2'] 33))
  have Q2 := Lib.hid ((Q1.out.rd hw2 (by omega)).alloc (.cells #[.int .i64 t, .slice A2 n2 c2, .slice A2' n2' c2'] 33))
  have R2 := Lib.hid (hr2.below ((below_new w2 (.cells #[.int .i64 t, .slice A2 n2 c2, .slice A2' n2' c2'] 33)).mono hr2.lt))
  have X2 := Lib.hid (Blk.new w2 33 #[.int .i64 t, .slice A2 n2 c2, .slice A2' n2' c2'])
  have hz2 := hw2.size
  clear i1 i2 ge1 ge2 hr2 hw2
  obtain ⟨wy, eW⟩ : ∃ v, v = w2.alloc (.cells #[.int .i64 t, .slice A2 n2 c2, .slice A2' n2' c2'] 33) := ⟨_, rfl⟩
  go_wp2_with (fail)
  rw [← eW] at I1 I2 B2 Q2 R2 X2 ⊢
  have hsy : wy.heap.size = w2.heap.size + 1 := by rw [eW]; simp
  have hsz : w2.heap.size < wy.heap.size := by omega
  clear hsy eW
  have hbr : w2.heap.size ≠ w.heap.size + 1 := by omega
  refine (someClass_any (w.heap.size + 1) _ _ R2.out (by omega)).mono ?_
  rintro e w3 ⟨cl, rfl, ⟨hcl0, hcl1⟩, hr3, hw3⟩
  have R3 := Lib.hid hr3
  have X3 := Lib.hid (X2.out.rd hw3 hbr)
  have Q3 := Lib.hid (Q2.out.rd hw3 (by omega))
  have J1 := Lib.hid (I1.out.rd hw3 hG1.out)
  have J2 := Lib.hid (I2.out.rd hw3 hG2.out)
  have B3 := Lib.hid (B2.out.trans ((hw3.below (by omega)).mono (by omega)))
  have hz3 := hw3.size
  clear hr3 hw3
  obtain ⟨xa, xb, xc⟩ := X3.out.c3
  have hxl3 : w2.heap.size < w3.heap.size := by omega
  obtain ⟨R, hR⟩ : ∃ R, roomV t ks us cl = R := ⟨_, rfl⟩
  obtain ⟨hR0, hR1⟩ := roomV_bd t cl ks us
  rw [hR] at hR0 hR1
  have VR := Lib.hid (fun (W : World) (i : IS W A2 n2 c2 ks) (i' : IS W A2' n2' c2' us) => call_int (spec_RoomFor_any t cl W i i') hR)
  clear hR
  have hw1 : IntKind.i64.wrap (R + 1) = R + 1 := IntWalk.i64_in _ (by omega)
  have hr3 : w.heap.size + 1 < w3.heap.size := R3.out.lt
  go_wp2_with (fail)
  go_region_held3 (fun w' => w'.cell? ⟨w2.heap.size, 0, none⟩ = some (.int .i64 t) ∧ w'.cell? ⟨w2.heap.size, 1, none⟩ = some (.slice A2 n2 c2) ∧ w'.cell? ⟨w2.heap.size, 2, none⟩ = some (.slice A2' n2' c2')) (first | with_reducible exact S6 | with_reducible exact S5 | with_reducible exact S4 | go_keep | (exact And.intro (cell_alloc (w := w5) S5.1 _) (And.intro (cell_alloc (w := w5) S5.2.1 _) (cell_alloc (w := w5) S5.2.2 _))) | (refine And.intro ?_ (And.intro ?_ ?_) <;> (repeat' (first | with_reducible exact S6.1 | with_reducible exact S6.2.1 | with_reducible exact S6.2.2 | refine cell_set ?_ ?_ _ | (show w2.heap.size ≠ w.heap.size; omega)))))
    (first
     | (go_at_call 38; ((with_reducible refine (VR.out w3.drew J1.out.drew J2.out.drew).mono ?_); rintro e w4 ⟨rfl, hb4⟩; have B4 := Lib.hid (Below.trans ((Below.refl w3.heap.size w3).drew) hb4); have X4 := Lib.hid (X3.out.on B4.out); have S4 := And.intro X4.out.c3.1 (And.intro X4.out.c3.2.1 X4.out.c3.2.2); have L1 := Lib.hid (J1.out.below B4.out (Nat.le_refl _)); have L2 := Lib.hid (J2.out.below B4.out (Nat.le_refl _)); clear hb4))
     | (go_at_call 38; ((with_reducible refine (VR.out w4 L1.out L2.out).mono ?_); rintro e w5 ⟨rfl, hb5⟩; have B5 := Lib.hid (B4.out.trans (hb5.mono B4.out.size)); have X5 := Lib.hid (X3.out.on B5.out); have S5 := And.intro X5.out.c3.1 (And.intro X5.out.c3.2.1 X5.out.c3.2.2); have hz5 := B5.out.size; clear hb5))
     | (go_at_call 37; go_must (refine (one_any (n := 9) (c := 9) (xs := [0, 1, 5, 10, 20, R, R + 1, 201, -1]) (fun x => -1 ≤ x ∧ x ≤ 201) (w.heap.size + 1) _ _ (R3.out.below ((B5.out.mono (by omega)).alloc (by omega) _)) (by omega) (OW.lit w5 3 (w.heap.size + 1 + 1) [0, 1, 5, 10, 20, R, R + 1, 201, -1] (by omega) (by simp)) (by omega) (by omega) (by simp; omega)).mono ?_; rintro e w6 ⟨s, rfl, hs, hr6, hw6⟩; have hs0 := hs.1; have hs1 := hs.2; have W4 := Lib.hid ((Rd.of_below (a := w3) (B5.out.alloc B5.out.size _)).trans hw6); have X6 := Lib.hid (X3.out.rd W4.out hbr); have S6 := And.intro X6.out.c3.1 (And.intro X6.out.c3.2.1 X6.out.c3.2.2); have Q4 := Lib.hid (Q3.out.rd W4.out (by omega)); obtain ⟨qa, qb, qc⟩ := Q4.out.c3; have f0 := Q4.out.frozen 0; have f1 := Q4.out.frozen 1; have f2 := Q4.out.frozen 2; clear hs hr6 hw6)))
  have K1 := Lib.hid (J1.out.rd W4.out hG1.out)
  have K2 := Lib.hid (J2.out.rd W4.out hG2.out)
  have B4 := Lib.hid (B3.out.trans ((W4.out.below (by omega)).mono (by omega)))
  go_wp2_with (fail)
  refine bodyPost_ret (v := .tuple #[.agg #[.int .i64 t, .slice A2 n2 c2, .slice A2' n2' c2'], .int .i64 cl, .int .i64 s]) (by simp [results, Try.results19, go_sem, qa, qb, qc]) rfl ?_
  refine ⟨t, ks, us, A2, n2, c2, A2', n2', c2', cl, s, rfl, hn2, hn2', hcl0, hcl1, hs0, hs1, ?_, ?_, ?_⟩
  · repeat' (first | with_reducible exact K1.out | refine IS.setCell ?_ ?_ _ | exact D1.out)
  · repeat' (first | with_reducible exact K2.out | refine IS.setCell ?_ ?_ _ | exact D2.out)
  · repeat' (first | with_reducible exact B4.out | refine Below.setCell ?_ ?_ _ | exact Nat.le_refl _)
end Go.Proofs.Ytcbphifadokfeaa
