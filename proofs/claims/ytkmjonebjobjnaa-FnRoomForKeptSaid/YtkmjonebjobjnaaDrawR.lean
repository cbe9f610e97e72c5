/-
  Drawn arguments of the laws on budgets.
-/
import Derived.Test.YtkmjonebjobjnaaDrawB
namespace Go.Proofs.Ytkmjonebjobjnaa
open Go.RowKit
attribute [local go_sem ↓] Go.wp_at_zero Go.wp_at_succ

set_option maxHeartbeats 4000000 in
theorem spec_DrawRoomFor_any {A : Option Addr} {n c : Nat} {zs : List Int} (w : World) (h : BS w A n c zs) (hn : n ≤ 1048576) :
    Calls Try.prog 18 #[.slice A n c] w (DrewBC w) := by
  have H := Lib.hid h
  clear h
  go_enter Try.func18, Try.ntmps18
  go_wp2_with (fail)
  refine (newReader_any _ (H.out.alloc _) hn).mono ?_
  rintro e w1 ⟨rfl, hr1, hb1⟩
  have R1 : Hid (RD w1 52 (w.heap.size + 1) 0) := Lib.hid (by simpa using hr1)
  have B1 := Lib.hid (below_then (below_new w _) hb1)
  have Q1 := Lib.hid ((Blk.new w 25 #[.int .i64 0, .slice none 0 0, .slice none 0 0]).on hb1)
  have hz1 := R1.out.lt
  clear hr1 hb1
  go_wp2_with (fail)
  refine (anyBudget_any (w.heap.size + 1) 0 w1 R1.out (by omega)).mono ?_
  rintro e w2 ⟨t, ks, us, A2, n2, c2, A2', n2', c2', rfl, hn2, hn2', i1, i2, ge1, ge2, hr2, hw2⟩
  have I1 := Lib.hid (i1.alloc (.cells #[.int .i64 t, .slice A2 n2 c2, .slice A2' n2' c2'] 25))
  have I2 := Lib.hid (i2.alloc (.cells #[.int .i64 t, .slice A2 n2 c2, .slice A2' n2' c2'] 25))
  have hG1 : Hid (Ge A2 (w.heap.size + 1 + 1)) := Lib.hid (ge1.mono (by omega))
  have hG2 : Hid (Ge A2' (w.heap.size + 1 + 1)) := Lib.hid (ge2.mono (by omega))
  have D1 : Hid (Disj (some ⟨w.heap.size, 0, none⟩) A2) := Lib.hid (box_far (show w.heap.size < w1.heap.size by omega) ge1)
  have D2 : Hid (Disj (some ⟨w.heap.size, 0, none⟩) A2') := Lib.hid (box_far (show w.heap.size < w1.heap.size by omega) ge2)
  have B2 := Lib.hid ((B1.out.trans ((hw2.below (by omega)).mono (by omega))).alloc (by have := B1.out.size; have := hw2.size; omega) (.cells #[.int .i64 t, .slice A2 n2 c2, .slice A2' n2' c2'] 25))
  have Q2 := Lib.hid ((Q1.out.rd hw2 (by omega)).alloc (.cells #[.int .i64 t, .slice A2 n2 c2, .slice A2' n2' c2'] 25))
  have R2 := Lib.hid (hr2.below ((below_new w2 (.cells #[.int .i64 t, .slice A2 n2 c2, .slice A2' n2' c2'] 25)).mono hr2.lt))
  have X2 := Lib.hid (Blk.new w2 25 #[.int .i64 t, .slice A2 n2 c2, .slice A2' n2' c2'])
  have hz2 := hw2.size
  clear i1 i2 ge1 ge2 hr2 hw2
  obtain ⟨wy, eW⟩ : ∃ v, v = w2.alloc (.cells #[.int .i64 t, .slice A2 n2 c2, .slice A2' n2' c2'] 25) := ⟨_, rfl⟩
  go_upto_region 3 with (fail)
  rw [← eW] at I1 I2 B2 Q2 R2 X2 ⊢
  have hsy : wy.heap.size = w2.heap.size + 1 := by rw [eW]; simp
  have hsz : w2.heap.size < wy.heap.size := by omega
  clear hsy eW
  have hbr : w2.heap.size ≠ w.heap.size + 1 := by omega
  obtain ⟨xa, xb, xc⟩ := X2.out.c3
  go_region_held3 (fun w' => w'.cell? ⟨w2.heap.size, 0, none⟩ = some (.int .i64 t) ∧ w'.cell? ⟨w2.heap.size, 1, none⟩ = some (.slice A2 n2 c2) ∧ w'.cell? ⟨w2.heap.size, 2, none⟩ = some (.slice A2' n2' c2')) (first | with_reducible exact S3 | go_keep | (refine And.intro ?_ (And.intro ?_ ?_) <;> (repeat' (first | with_reducible exact S3.1 | with_reducible exact S3.2.1 | with_reducible exact S3.2.2 | refine cell_set ?_ ?_ _ | (show w2.heap.size ≠ w.heap.size; omega)))))
    ((go_at_call 38; go_must (refine (someClass_any (w.heap.size + 1) _ _ (R2.out.below ((Below.refl _ _).drew)) (by omega)).mono ?_; rintro e w3 ⟨cl, rfl, hcl, hr3, hw3⟩; have hcl0 := hcl.1; have hcl1 := hcl.2; have W3 := Lib.hid ((Rd.of_below ((Below.refl wy.heap.size wy).drew)).trans hw3); have X3 := Lib.hid (X2.out.rd W3.out hbr); have S3 := And.intro X3.out.c3.1 (And.intro X3.out.c3.2.1 X3.out.c3.2.2); have Q3 := Lib.hid (Q2.out.rd W3.out (by omega)); obtain ⟨qa, qb, qc⟩ := Q3.out.c3; have f0 := Q3.out.frozen 0; have f1 := Q3.out.frozen 1; have f2 := Q3.out.frozen 2; clear hcl hr3 hw3)))
  have J1 := Lib.hid (I1.out.rd W3.out hG1.out)
  have J2 := Lib.hid (I2.out.rd W3.out hG2.out)
  have B3 := Lib.hid (B2.out.trans ((W3.out.below (by omega)).mono (by omega)))
  go_wp2_with (fail)
  refine bodyPost_ret (v := .tuple #[.agg #[.int .i64 t, .slice A2 n2 c2, .slice A2' n2' c2'], .int .i64 cl]) (by simp [results, Try.results18, go_sem, qa, qb, qc]) rfl ?_
  refine ⟨t, ks, us, A2, n2, c2, A2', n2', c2', cl, rfl, hn2, hn2', hcl0, hcl1, ?_, ?_, ?_⟩
  · repeat' (first | with_reducible exact J1.out | refine IS.setCell ?_ ?_ _ | exact D1.out)
  · repeat' (first | with_reducible exact J2.out | refine IS.setCell ?_ ?_ _ | exact D2.out)
  · repeat' (first | with_reducible exact B3.out | refine Below.setCell ?_ ?_ _ | exact Nat.le_refl _)
end Go.Proofs.Ytkmjonebjobjnaa
