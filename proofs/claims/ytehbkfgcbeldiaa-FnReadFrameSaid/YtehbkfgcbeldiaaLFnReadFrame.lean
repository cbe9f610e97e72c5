/-
  The walk of FnReadFrame. (Its words were written by a program of my own.)
-/
import Derived.Test.YtehbkfgcbeldiaaStreamA
import Derived.Test.YtehbkfgcbeldiaaReadF
import Derived.Test.YtehbkfgcbeldiaaReadS
import Derived.Test.YtehbkfgcbeldiaaLawT
import Derived.Test.YtehbkfgcbeldiaaRf
import Derived.Deep.RegionHeld3
import Derived.Deep.DeepMust
import Derived.Deep.DeepCutAuto
namespace Go.Proofs.Ytehbkfgcbeldiaa
open Go.RowKit
-- CALL: W s0
set_option maxHeartbeats 1600000 in
theorem walk_FnReadFrame {A : Option Addr} {n c : Nat} {zs : List Int} (w : World) (h : BS w A n c zs) :
    Calls Try.prog 3 #[.slice A n c] w fun e w' => e = .returned (.bool true) ∧ Below w.heap.size w w' := by
  have H := Lib.hid h
  clear h
  rcases Nat.lt_or_ge 1048576 n with h1 | h1
  · have h1' : (1048576 : Int) < (n : Int) := by omega
    go_enter Try.func3, Try.ntmps3
    go_wp2_with (fail)
    go_ret
    exact ⟨rfl, Below.refl _ _⟩
  have h1' : ¬ (1048576 : Int) < (n : Int) := by omega
  go_enter Try.func3, Try.ntmps3
  go_wp2_with (fail)
  refine (spec_DrawReadFrame_any w H.out h1).mono ?_
  rintro e w1 ⟨bs, A1, n1, c1, rfl, hn1, o1, hb⟩
  have B1 := Lib.hid hb
  have hz1 := B1.out.size
  clear hb 
  have T := Lib.hid o1.is
  clear o1
  have HTL := Lib.hid T.out.len
  have hcap1 := T.out.cap
  obtain ⟨C, hC⟩ : ∃ v, rC bs = v := ⟨_, rfl⟩
  obtain ⟨Y, hY⟩ : ∃ v, rK bs = v := ⟨_, rfl⟩
  obtain ⟨X, hX⟩ : ∃ v, rX bs = v := ⟨_, rfl⟩
  obtain ⟨L, hL⟩ : ∃ v, rL bs = v := ⟨_, rfl⟩
  have HC := Lib.hid hC
  have HY := Lib.hid hY
  have HX := Lib.hid hX
  have HL := Lib.hid hL
  clear hC hY hX hL
  have hll : ((L : Int) == (L : Int)) = true := by simp
  have hln : ((L : Int) != (L : Int)) = false := by simp
  rcases hok : rOK bs with _ | _
  · skip
    have HOK := Lib.hid hok
    clear hok
    go_wp2_with (fail)
    refine (impl_ReadFrame_any _ T.out).mono ?_
    rintro e w2 ⟨A2, n2, c2, rfl, ho, hb⟩
    rw [HC.out, HY.out, HL.out, HOK.out]
    rw [HX.out] at ho
    have hoi := ho.is
    clear ho
    replace T := Lib.hid (T.out.below hb (Nat.le_refl _))
    replace B1 := Lib.hid (B1.out.trans (hb.mono B1.out.size))
    clear hb
    have I := Lib.hid hoi
    clear hoi
    replace T := Lib.hid (T.out.alloc (.cells #[.int .i64 C, .int .i64 Y, .slice A2 n2 c2] 26))
    replace I := Lib.hid (I.out.alloc (.cells #[.int .i64 C, .int .i64 Y, .slice A2 n2 c2] 26))
    replace B1 := Lib.hid (B1.out.alloc B1.out.size (.cells #[.int .i64 C, .int .i64 Y, .slice A2 n2 c2] 26))
    have P := Lib.hid (Blk.new w2 26 #[.int .i64 C, .int .i64 Y, .slice A2 n2 c2])
    go_wp2_with (fail)
    refine (spec_ReadFrame_any _ T.out).mono ?_
    rintro e w3 ⟨A3, n3, c3, rfl, ho, hb⟩
    rw [HC.out, HY.out, HL.out, HOK.out]
    rw [HX.out] at ho
    have hoi := ho.is
    clear ho
    replace T := Lib.hid (T.out.below hb (Nat.le_refl _))
    replace I := Lib.hid (I.out.below hb (Nat.le_refl _))
    replace P := Lib.hid (P.out.on hb)
    replace B1 := Lib.hid (B1.out.trans (hb.mono B1.out.size))
    clear hb
    have J := Lib.hid hoi
    clear hoi
    replace T := Lib.hid (T.out.alloc (.cells #[.int .i64 C, .int .i64 Y, .slice A3 n3 c3] 26))
    replace I := Lib.hid (I.out.alloc (.cells #[.int .i64 C, .int .i64 Y, .slice A3 n3 c3] 26))
    replace J := Lib.hid (J.out.alloc (.cells #[.int .i64 C, .int .i64 Y, .slice A3 n3 c3] 26))
    replace P := Lib.hid (P.out.alloc (.cells #[.int .i64 C, .int .i64 Y, .slice A3 n3 c3] 26))
    replace B1 := Lib.hid (B1.out.alloc B1.out.size (.cells #[.int .i64 C, .int .i64 Y, .slice A3 n3 c3] 26))
    have G := Lib.hid (Blk.new w3 26 #[.int .i64 C, .int .i64 Y, .slice A3 n3 c3])
    obtain ⟨p0, p1, p2⟩ := P.out.c3
    go_wp2_with (fail)
    refine (laws_equalItem_rf C Y _ I.out J.out).mono ?_
    clear p0 p1 p2
    rintro e w4 ⟨rfl, hb⟩
    replace T := Lib.hid (T.out.below hb (Nat.le_refl _))
    replace I := Lib.hid (I.out.below hb (Nat.le_refl _))
    replace J := Lib.hid (J.out.below hb (Nat.le_refl _))
    replace P := Lib.hid (P.out.on hb)
    replace G := Lib.hid (G.out.on hb)
    replace B1 := Lib.hid (B1.out.trans (hb.mono B1.out.size))
    clear hb
    obtain ⟨p0, p1, p2⟩ := P.out.c3
    obtain ⟨g0, g1, g2⟩ := G.out.c3
    go_wp2_with (fail)
    refine (laws_equalItem_rf C Y _ I.out J.out).mono ?_
    clear p0 p1 p2 g0 g1 g2
    rintro e w5 ⟨rfl, hb⟩
    replace T := Lib.hid (T.out.below hb (Nat.le_refl _))
    replace I := Lib.hid (I.out.below hb (Nat.le_refl _))
    replace J := Lib.hid (J.out.below hb (Nat.le_refl _))
    replace P := Lib.hid (P.out.on hb)
    replace G := Lib.hid (G.out.on hb)
    replace B1 := Lib.hid (B1.out.trans (hb.mono B1.out.size))
    clear hb
    go_wp2_with (fail)
    go_ret
    exact ⟨ret_bool (by first | rfl | (simp; done) | (simp; omega)), B1.out⟩
  have HOK := Lib.hid hok
  obtain ⟨t1, t2, t3⟩ := rOK_take hok
  have HF : Hid (frameOfL C Y X = bs.take L) := Lib.hid (by
    rw [← HC.out, ← HY.out, ← HX.out, ← HL.out, frameOfL_t t3, (r_t hok).2.2.2]
    exact t1.symm)
  have HV : Hid (validI C Y X = true) := Lib.hid (by rw [← HC.out, ← HY.out, ← HX.out]; exact t3)
  have hLn : L ≤ n1 := by have h1 := HL.out; rw [(r_t hok).2.2.2] at h1; have h2 := HTL.out; omega
  have hL1 : 1 ≤ L := by have h1 := HL.out; rw [(r_t hok).2.2.2] at h1; omega
  clear hok t1 t2 t3
  go_wp2_with (fail)
  refine (impl_ReadFrame_any _ T.out).mono ?_
  rintro e w2 ⟨A2, n2, c2, rfl, ho, hb⟩
  rw [HC.out, HY.out, HL.out, HOK.out]
  rw [HX.out] at ho
  have hoi := ho.is
  clear ho
  replace T := Lib.hid (T.out.below hb (Nat.le_refl _))
  replace B1 := Lib.hid (B1.out.trans (hb.mono B1.out.size))
  clear hb
  have I := Lib.hid hoi
  clear hoi
  replace T := Lib.hid (T.out.alloc (.cells #[.int .i64 C, .int .i64 Y, .slice A2 n2 c2] 26))
  replace I := Lib.hid (I.out.alloc (.cells #[.int .i64 C, .int .i64 Y, .slice A2 n2 c2] 26))
  replace B1 := Lib.hid (B1.out.alloc B1.out.size (.cells #[.int .i64 C, .int .i64 Y, .slice A2 n2 c2] 26))
  have P := Lib.hid (Blk.new w2 26 #[.int .i64 C, .int .i64 Y, .slice A2 n2 c2])
  go_wp2_with (fail)
  refine (spec_ReadFrame_any _ T.out).mono ?_
  rintro e w3 ⟨A3, n3, c3, rfl, ho, hb⟩
  rw [HC.out, HY.out, HL.out, HOK.out]
  rw [HX.out] at ho
  have hoi := ho.is
  clear ho
  replace T := Lib.hid (T.out.below hb (Nat.le_refl _))
  replace I := Lib.hid (I.out.below hb (Nat.le_refl _))
  replace P := Lib.hid (P.out.on hb)
  replace B1 := Lib.hid (B1.out.trans (hb.mono B1.out.size))
  clear hb
  have J := Lib.hid hoi
  clear hoi
  replace T := Lib.hid (T.out.alloc (.cells #[.int .i64 C, .int .i64 Y, .slice A3 n3 c3] 26))
  replace I := Lib.hid (I.out.alloc (.cells #[.int .i64 C, .int .i64 Y, .slice A3 n3 c3] 26))
  replace J := Lib.hid (J.out.alloc (.cells #[.int .i64 C, .int .i64 Y, .slice A3 n3 c3] 26))
  replace P := Lib.hid (P.out.alloc (.cells #[.int .i64 C, .int .i64 Y, .slice A3 n3 c3] 26))
  replace B1 := Lib.hid (B1.out.alloc B1.out.size (.cells #[.int .i64 C, .int .i64 Y, .slice A3 n3 c3] 26))
  have G := Lib.hid (Blk.new w3 26 #[.int .i64 C, .int .i64 Y, .slice A3 n3 c3])
  obtain ⟨p0, p1, p2⟩ := P.out.c3
  go_wp2_with (fail)
  refine (laws_equalItem_rf C Y _ I.out J.out).mono ?_
  clear p0 p1 p2
  rintro e w4 ⟨rfl, hb⟩
  replace T := Lib.hid (T.out.below hb (Nat.le_refl _))
  replace I := Lib.hid (I.out.below hb (Nat.le_refl _))
  replace J := Lib.hid (J.out.below hb (Nat.le_refl _))
  replace P := Lib.hid (P.out.on hb)
  replace G := Lib.hid (G.out.on hb)
  replace B1 := Lib.hid (B1.out.trans (hb.mono B1.out.size))
  clear hb
  have e0 := T.out.at_ (k := 0) (by omega)
  obtain ⟨b1', off1, _, rfl, _, _⟩ := e0
  have hnc1 := T.out.2.1
  have hcm1 := T.out.2.2.1
  simp only [maxLen] at hcm1
  have P1 : Hid (IS w4 (some ⟨b1', off1, none⟩) L c1 (bs.take L)) := Lib.hid (by have h := T.out.cut (lo := 0) (hi := L) (by omega) (by omega); simpa using h)
  have s0 : (0 : Int) ≤ (L : Int) := by omega
  have s1 : (L : Int) ≤ (n1 : Int) := by omega
  have s2 : (L : Int) ≤ (c1 : Int) := by omega
  have s4 : (n1 : Int) ≤ (c1 : Int) := by omega
  have s5 : decide ((L : Int) ≤ (n1 : Int)) = true := by simp; omega
  have s6 : decide (L ≤ n1) = true := by simp; omega
  have Qw := P
  obtain ⟨q0, q1, q2⟩ := Qw.out.c3
  have ql := Qw.out.lt
  go_wp2_with (fail)
  go_region_held3 (fun w' => w'.cell? ⟨w2.heap.size, 0, none⟩ = some (.int .i64 C) ∧ w'.cell? ⟨w2.heap.size, 1, none⟩ = some (.int .i64 Y) ∧ w'.cell? ⟨w2.heap.size, 2, none⟩ = some (.slice A2 n2 c2))
    (refine And.intro ?_ (And.intro ?_ ?_) <;> ((first | with_reducible refine cell_up (w := w4) ?_ q0 | with_reducible refine cell_up (w := w4) ?_ q1 | with_reducible refine cell_up (w := w4) ?_ q2); (repeat' (first | with_reducible exact HW3.out | with_reducible exact HW2.out | with_reducible exact HW.out | with_reducible exact Below.refl _ _ | with_reducible refine Below.drew ?_))))
    (first
     | (go_at_call 9; go_must (refine (impl_FrameOf_any C Y _ (by first | exact I.out | exact I.out.drew)).mono ?_; rintro e w6 ⟨A6, n6, k6, rfl, ho, hb⟩; have HW : Hid (Below w4.heap.size w4 w6) := Lib.hid (by first | exact hb | exact (Below.refl w4.heap.size w4).drew.trans hb); rw [HF.out] at ho; have J6 := Lib.hid ho.is; have P6 := Lib.hid (P1.out.below HW.out (Nat.le_refl _)); have I6 := Lib.hid (I.out.below HW.out (Nat.le_refl _)); clear ho hb))
     | (go_at_call 8; go_must (refine (call_b (laws_equalInts_any _ (by first | exact J6.out | exact J6.out.drew) (by first | exact P6.out | exact P6.out.drew)) (decide_eq_true rfl)).mono ?_; rintro e w7 ⟨rfl, mm, h4⟩; have HW2 : Hid (Below w4.heap.size w4 w7) := Lib.hid (by first | (rw [h4]; exact below_drewN HW.out mm) | (rw [h4]; exact below_drewN HW.out.drew mm)); have I7 : Hid (IS w7 A2 n2 c2 X) := Lib.hid (by first | (rw [h4]; exact I6.out.drewN mm) | (rw [h4]; exact I6.out.drew.drewN mm)); clear h4))
     | (go_at_call 10; go_must (refine (call_b (impl_ValidItem_any C Y _ (by first | exact I7.out | exact I7.out.drew)) HV.out).mono ?_; rintro e w8 ⟨rfl, hb⟩; have HW3 : Hid (Below w4.heap.size w4 w8) := Lib.hid (by first | exact HW2.out.trans (hb.mono HW2.out.size) | exact (Below.drew HW2.out).trans (hb.mono (Below.size (Below.drew HW2.out)))); clear hb)))
  all_goals (
    go_wp2_with (fail)
    go_ret
    exact ⟨ret_bool (by first | rfl | (simp; done)), by first | exact B1.out.trans (HW3.out.mono B1.out.size) | exact (B1.out.trans (HW3.out.mono B1.out.size)).drew⟩)
end Go.Proofs.Ytehbkfgcbeldiaa
