/-
  The walk of FnRoomForKept. (Its words were written by a program of my own.)
-/
import Derived.Test.YtkmjonebjobjnaaDrawR
import Derived.Test.YtkmjonebjobjnaaBudZ
import Derived.Lib.QuietBelow
import Derived.Deep.DeepMust
import Derived.Deep.RegionHeld3
import Derived.Deep.DrawnRows
import Derived.Deep.DeepCutAuto
import Derived.KernelRfl
import Derived.IntWalk
namespace Go.Proofs.Ytkmjonebjobjnaa
open Go.RowKit
attribute [local go_sem ↓] Go.wp_at_zero Go.wp_at_succ
-- CALL: W s0
set_option maxHeartbeats 4000000 in
theorem walk_FnRoomForKept {A : Option Addr} {n c : Nat} {zs : List Int} (w : World) (h : BS w A n c zs) :
    Calls Try.prog 5 #[.slice A n c] w fun e w' => e = .returned (.bool true) ∧ Below w.heap.size w w' := by
  have H := Lib.hid h
  clear h
  rcases Nat.lt_or_ge 1048576 n with h1 | h1
  · have h1' : (1048576 : Int) < (n : Int) := by omega
    go_enter Try.func5, Try.ntmps5
    go_wp2_with (fail)
    go_ret
    exact ⟨rfl, Below.refl _ _⟩
  have h1' : ¬ (1048576 : Int) < (n : Int) := by omega
  go_enter Try.func5, Try.ntmps5
  go_wp2_with (fail)
  refine (spec_DrawRoomFor_any w H.out h1).mono ?_
  rintro e w1 ⟨t, ks, us, A1, n1, c1, A2, n2, c2, cl, rfl, hn1, hn2, hcl0, hcl1, hI1, hI2, hb⟩
  have B := Lib.hid hb
  have I1 := Lib.hid hI1
  have I2 := Lib.hid hI2
  clear hb hI1 hI2
  replace I1 := Lib.hid (I1.out.alloc (.cells #[.int .i64 t, .slice A1 n1 c1, .slice A2 n2 c2] 25))
  replace I2 := Lib.hid (I2.out.alloc (.cells #[.int .i64 t, .slice A1 n1 c1, .slice A2 n2 c2] 25))
  replace B := Lib.hid (B.out.alloc B.out.size (.cells #[.int .i64 t, .slice A1 n1 c1, .slice A2 n2 c2] 25))
  have Q := Lib.hid (Blk.new w1 25 #[.int .i64 t, .slice A1 n1 c1, .slice A2 n2 c2])
  obtain ⟨R, hR⟩ : ∃ R, roomV t ks us cl = R := ⟨_, rfl⟩
  obtain ⟨hR0, hR1⟩ := roomV_bd t cl ks us
  rw [hR] at hR0 hR1
  have HR := Lib.hid hR
  clear hR
  go_wp2_with (fail)
  refine (call_int (impl_RoomFor_any t cl _ I1.out I2.out) HR.out).mono ?_
  rintro e w2 ⟨rfl, hb⟩
  replace I1 := Lib.hid (I1.out.below hb (Nat.le_refl _))
  replace I2 := Lib.hid (I2.out.below hb (Nat.le_refl _))
  replace Q := Lib.hid (Q.out.on hb)
  replace B := Lib.hid (B.out.trans (hb.mono B.out.size))
  clear hb
  rcases Int.lt_or_le R 0 with hneg | hneg
  · skip
    obtain ⟨q0, q1, q2⟩ := Q.out.c3
    have ql := Q.out.lt
    go_wp2_with (fail)
    refine (call_int (spec_RoomFor_any t cl _ I1.out I2.out) HR.out).mono ?_
    clear q0 q1 q2 ql
    rintro e w3 ⟨rfl, hb⟩
    replace I1 := Lib.hid (I1.out.below hb (Nat.le_refl _))
    replace I2 := Lib.hid (I2.out.below hb (Nat.le_refl _))
    replace Q := Lib.hid (Q.out.on hb)
    replace B := Lib.hid (B.out.trans (hb.mono B.out.size))
    clear hb
    obtain ⟨q0, q1, q2⟩ := Q.out.c3
    have ql := Q.out.lt
    go_wp2_with (fail)
    refine (call_int (spec_RoomFor_any t cl _ I1.out I2.out) HR.out).mono ?_
    clear q0 q1 q2 ql
    rintro e w4 ⟨rfl, hb⟩
    replace I1 := Lib.hid (I1.out.below hb (Nat.le_refl _))
    replace I2 := Lib.hid (I2.out.below hb (Nat.le_refl _))
    replace Q := Lib.hid (Q.out.on hb)
    replace B := Lib.hid (B.out.trans (hb.mono B.out.size))
    clear hb
    go_wp2_with (fail)
    go_ret
    exact ⟨ret_bool (by simp), B.out⟩
  have hnd : decide (R < 0) = false := decide_eq_false (by omega)
  have hneg' : ¬ R < 0 := by omega
  obtain ⟨q0, q1, q2⟩ := Q.out.c3
  have ql := Q.out.lt
  go_wp2_with (fail)
  refine (call_int (spec_RoomFor_any t cl _ I1.out I2.out) HR.out).mono ?_
  clear q0 q1 q2 ql
  rintro e w3 ⟨rfl, hb⟩
  replace I1 := Lib.hid (I1.out.below hb (Nat.le_refl _))
  replace I2 := Lib.hid (I2.out.below hb (Nat.le_refl _))
  replace Q := Lib.hid (Q.out.on hb)
  replace B := Lib.hid (B.out.trans (hb.mono B.out.size))
  clear hb
  obtain ⟨hv, hc⟩ := roomV_pos (by rw [HR.out]; exact hneg)
  obtain ⟨hc0, hc1⟩ := inR_iff.1 hc
  obtain ⟨j, rfl⟩ := Int.eq_ofNat_of_zero_le hc0
  have hj : j < 3 := by omega
  obtain rfl : n1 = 3 := I1.out.len ▸ (validB_len hv).1
  obtain rfl : n2 = 3 := I2.out.len ▸ (validB_len hv).2
  obtain ⟨b1, o1, kx, rfl, hx1, hcx1⟩ := I1.out.at_ hj
  obtain ⟨b2, o2, ux, rfl, hx2, hcx2⟩ := I2.out.at_ hj
  obtain ⟨_, hkb0, _, hkb2, hkb3⟩ := cnt_at (validB_iff.1 hv).2.1 hj
  obtain ⟨_, hub0, _, hub2, hub3⟩ := cnt_at (validB_iff.1 hv).2.2.1 hj
  rw [hx1] at hkb0
  rw [hx2] at hub0
  injection hkb0 with hkb0
  injection hub0 with hub0
  subst hkb0 hub0
  obtain ⟨m1, m2, m3, m4⟩ := kept_ok hv hc rfl hx1 hx2
  rw [← roomV_t hv hc, HR.out] at m1
  have ho := cls_next hc
  have ho2 := roomV_t hv ho
  obtain ⟨o, hoo⟩ : ∃ o, ((j : Int) + 1) % 3 = o := ⟨_, rfl⟩
  have hcm : ((j : Int) + 1) % 3 = o := hoo
  rw [hoo] at m2 m3 m4 ho2
  obtain ⟨R2, hR2⟩ : ∃ r, roomL t ks us o = r := ⟨_, rfl⟩
  rw [hR2] at m2 m3 m4 ho2
  have HO2 := Lib.hid ho2
  have M2 := Lib.hid m2
  have M5 := Lib.hid (roomV_t m4 hc)
  obtain ⟨R3, hR3⟩ : ∃ r, roomL t ks (addL us o R2) (j : Int) = r := ⟨_, rfl⟩
  rw [hR3] at m3
  have HR3 := Lib.hid hR3
  have X1 := Lib.hid hcx1
  have X2 := Lib.hid hcx2
  clear hv hc m2 m4 ho ho2 hoo hR2 hR3 hx1 hx2 hcx1 hcx2
  obtain ⟨q0, q1, q2⟩ := Q.out.c3
  go_upto_region 8 with (fail)
  rw [hcm]
  go_cut [7, 8] (fun s7 s8 wx => ∃ (g : Nat) (A3 : Option Addr) (n3 c3 : Nat) (A4 : Option Addr) (n4 c4 : Nat), s7 = .pointer (some ⟨g, 0, none⟩) ∧ s8 = .bool true ∧ Hid (CutB 25 3 w3 wx g t ks (addL us o R2) A3 n3 c3 A4 n4 c4))
  case first =>
    go_region_held3 (fun w' => w'.cell? ⟨w1.heap.size, 0, none⟩ = some (.int .i64 t) ∧ w'.cell? ⟨w1.heap.size, 1, none⟩ = some (.slice (some ⟨b1, o1, none⟩) 3 c1) ∧ w'.cell? ⟨w1.heap.size, 2, none⟩ = some (.slice (some ⟨b2, o2, none⟩) 3 c2))
      (refine And.intro (cell_up (w := w3) ?_ q0) (And.intro (cell_up (w := w3) ?_ q1) (cell_up (w := w3) ?_ q2)) <;> (repeat' (first | with_reducible exact HW5.out | with_reducible exact HW4.out | with_reducible exact Below.refl _ _ | refine Below.drew ?_ | refine Below.alloc ?_ ?_ _ | refine Below.setCell ?_ ?_ _ | omega | (simp; done) | (simp; omega))))
      (first
       | (go_at_call 19; go_must (refine (call_int (impl_RoomFor_any t o _ (I1.out.below (by repeat (first | exact Below.refl _ _ | refine Below.drew ?_ | refine Below.alloc ?_ (by first | omega | (simp; done) | (simp; omega)) _)) (Nat.le_refl _)) (I2.out.below (by repeat (first | exact Below.refl _ _ | refine Below.drew ?_ | refine Below.alloc ?_ (by first | omega | (simp; done) | (simp; omega)) _)) (Nat.le_refl _))) HO2.out).mono ?_; rintro e w4 ⟨rfl, hb4⟩; have HW4 := Lib.hid (below_then (a := w3) (by repeat (first | exact Below.refl _ _ | refine Below.drew ?_ | refine Below.alloc ?_ (by first | omega | (simp; done) | (simp; omega)) _)) hb4); have z4 := HW4.out.size; have z4b := hb4.size; (try simp at z4b); (try (have G4 := Lib.hid ((Blk.new w3 25 #[.int .i64 0, .slice none 0 0, .slice none 0 0]).on hb4))); (try (have G4 := Lib.hid ((Blk.new w3 25 #[.int .i64 0, .slice none 0 0, .slice none 0 0]).drew.on hb4))); clear hb4))
       | (go_at_call 21; go_must (refine (impl_TakeCredit_yes t o R2 _ ((I1.out.below HW4.out (Nat.le_refl _)).below (by repeat (first | exact Below.refl _ _ | refine Below.drew ?_ | refine Below.alloc ?_ (by first | omega | (simp; done) | (simp; omega)) _)) (Nat.le_refl _)) ((I2.out.below HW4.out (Nat.le_refl _)).below (by repeat (first | exact Below.refl _ _ | refine Below.drew ?_ | refine Below.alloc ?_ (by first | omega | (simp; done) | (simp; omega)) _)) (Nat.le_refl _)) M2.out).mono ?_; rintro e w5 ⟨A3, n3, c3, A4, n4, c4, rfl, ho3, ho4, hd, hb5⟩; have P1 := Lib.hid ho3; have P2 := Lib.hid ho4; have DB := Lib.hid hd; have HW5 := Lib.hid (HW4.out.trans ((below_then (a := w4) (by repeat (first | exact Below.refl _ _ | refine Below.drew ?_ | refine Below.alloc ?_ (by first | omega | (simp; done) | (simp; omega)) _)) hb5).mono z4)); have z5 := HW5.out.size; (try (have G5 := Lib.hid ((Blk.new w4 25 #[.int .i64 0, .slice none 0 0, .slice none 0 0]).on hb5))); (try (have G5 := Lib.hid (G4.out.on hb5))); (try obtain ⟨g50, g51, g52⟩ := G5.out.c3); (try have g53 := G5.out.frozen 0); (try have g54 := G5.out.frozen 1); (try have g55 := G5.out.frozen 2); clear ho3 ho4 hd hb5)))
    all_goals (go_wp2_with (fail); go_meet)
    all_goals (first
      | exact ⟨_, A3, n3, c3, A4, n4, c4, rfl, rfl, Lib.hid (cut_new (P1.out.base_le (by first | exact z4 | (simp; omega))) (P2.out.base_le (by first | exact z4 | (simp; omega))) DB.out HW5.out)⟩
      | exact ⟨_, A3, n3, c3, A4, n4, c4, rfl, rfl, Lib.hid (cut_set G5.out (P1.out.base_le (by first | exact z4 | (simp; omega))) (P2.out.base_le (by first | exact z4 | (simp; omega))) DB.out (box_far (by first | exact G4.out.lt | (simp; done) | (simp; omega)) P1.out.ge) (box_far (by first | exact G4.out.lt | (simp; done) | (simp; omega)) P2.out.ge) HW5.out (by first | exact Nat.le_refl _ | exact z4))⟩)
  case rest =>
    obtain ⟨g, A3, n3, c3, A4, n4, c4, rfl, rfl, HC⟩ := hcut
    have bx := HC.out.2.2.2.2.2.2.1
    have F := Lib.hid HC.out.1
    have I3 := Lib.hid HC.out.2.1.is
    have I4 := Lib.hid HC.out.2.2.1.is
    replace B := Lib.hid (B.out.trans (bx.mono B.out.size))
    replace Q := Lib.hid (Q.out.on bx)
    have hcx1 := cell_up bx X1.out
    have hcx2 := cell_up bx X2.out
    clear bx HC q0 q1 q2 I1 I2 X1 X2
    obtain ⟨q0, q1, q2⟩ := Q.out.c3
    obtain ⟨f0, f1, f2⟩ := F.out.c3
    have V1 := Lib.hid (fun (d : Nat) (os : Array Obj) => call_int (impl_RoomFor_any t (j : Int) (Go.Sort.grow (redrawn wc d) os) (I3.out.regrown d os) (I4.out.regrown d os)) (M5.out.trans HR3.out))
    have qq0 := fun d os => cell_regrown q0 d os
    have qq1 := fun d os => cell_regrown q1 d os
    have qq2 := fun d os => cell_regrown q2 d os
    have qf0 := fun d os => cell_regrown f0 d os
    have qf1 := fun d os => cell_regrown f1 d os
    have qf2 := fun d os => cell_regrown f2 d os
    have qx1 := fun d os => cell_regrown hcx1 d os
    have qx2 := fun d os => cell_regrown hcx2 d os
    have hj0 : (0 : Int) ≤ (j : Int) := by omega
    have hj1 : (j : Int) < 3 := by omega
    have hw1 : IntKind.i64.wrap (kx - ux) = kx - ux := IntWalk.i64_in _ (by omega)
    have e1 : decide (kx - ux ≤ R) = true := decide_eq_true m1
    have e2 : decide (kx - ux ≤ R3) = true := decide_eq_true m3
    clear q0 q1 q2 f0 f1 f2 hcx1 hcx2
    go_wp2_with (fail)
    refine wp_region_quiet_below (by kernel_rfl) (by kernel_rfl) ?_
    repeat (first | go_big_quiet_step ((go_at_call 19; with_reducible exact Calls.regrown_of (V1.out _ _))) | quiet_step ((go_at_call 19; with_reducible exact Calls.regrown_of (V1.out _ _))))
    refine wpQuiet_nil ?_
    intro wq hw'
    have hb : Below wc.heap.size wc wq := by obtain ⟨p, rfl⟩ := hw'; exact below_regrown _ _ _
    have BQ := Lib.hid (B.out.trans (hb.mono B.out.size))
    clear hw' hb
    go_wp2_with (fail)
    go_ret
    exact ⟨ret_bool (by first | rfl | (simp; done) | (simp; omega) | omega), BQ.out⟩
end Go.Proofs.Ytkmjonebjobjnaa
