/-
  The walk of FnPassAllStep. (Its words were written by a program of my own.)
-/
import Derived.Test.YtokajigaicdffaaDrawPa
import Derived.Test.YtokajigaicdffaaBkP
import Derived.Test.YtokajigaicdffaaBkN
import Derived.Deep.RegionHeld3
import Derived.Deep.DeepMust
import Derived.Deep.DeepCutAuto
namespace Go.Proofs.Ytokajigaicdffaa
open Go.RowKit
-- CALL: W s0
set_option maxHeartbeats 4000000 in
theorem walk_FnPassAllStep {A : Option Addr} {n c : Nat} {zs : List Int} (w : World) (h : BS w A n c zs) :
    Calls Try.prog 4 #[.slice A n c] w fun e w' => e = .returned (.bool true) ∧ Below w.heap.size w w' := by
  have H := Lib.hid h
  clear h
  rcases Nat.lt_or_ge 1048576 n with h1 | h1
  · have h1' : (1048576 : Int) < (n : Int) := by omega
    go_enter Try.func4, Try.ntmps4
    go_wp2_with (fail)
    go_ret
    exact ⟨rfl, Below.refl _ _⟩
  have h1' : ¬ (1048576 : Int) < (n : Int) := by omega
  go_enter Try.func4, Try.ntmps4
  go_wp2_with (fail)
  refine (spec_DrawPassAll_any w H.out h1).mono ?_
  rintro e w1 ⟨s, p, l, t, xs, ys, A1, n1, k1, A4, n4, k4, rfl, ⟨hs0, hs1⟩, ⟨hp0, hp1⟩, ⟨hl0, hl1⟩, ⟨ht0, ht1⟩, hn1, hn4, i1, i4, hb⟩
  have T := Lib.hid i1
  have U := Lib.hid i4
  have B1 := Lib.hid hb
  have hz1 := B1.out.size
  clear hb i1 i4
  have HXL := Lib.hid T.out.len
  have HYL := Lib.hid U.out.len
  have hcap1 := T.out.cap
  have hcap4 := U.out.cap
  replace T := Lib.hid (T.out.alloc (.cells #[.int .i64 s, .int .i64 p, .int .i64 l, .int .i64 t] 24))
  replace U := Lib.hid (U.out.alloc (.cells #[.int .i64 s, .int .i64 p, .int .i64 l, .int .i64 t] 24))
  replace B1 := Lib.hid (B1.out.alloc B1.out.size (.cells #[.int .i64 s, .int .i64 p, .int .i64 l, .int .i64 t] 24))
  have Q := Lib.hid (Blk.new w1 24 #[.int .i64 s, .int .i64 p, .int .i64 l, .int .i64 t])
  obtain ⟨os, hos⟩ : ∃ os, paL s p l t xs ys = os := ⟨_, rfl⟩
  have HOS := Lib.hid hos
  clear hos
  obtain ⟨q0, q1, q2, q3⟩ := Q.out.c4
  go_wp2_with (fail)
  refine (impl_PassAll_any s p l t _ T.out U.out).mono ?_
  clear q0 q1 q2 q3
  rintro e w2 ⟨A2, n2, k2, rfl, ho, hb⟩
  rw [HOS.out] at ho
  have hoi := ho.is
  have HL := Lib.hid ho.len
  clear ho
  replace T := Lib.hid (T.out.below hb (Nat.le_refl _))
  replace U := Lib.hid (U.out.below hb (Nat.le_refl _))
  replace Q := Lib.hid (Q.out.on hb)
  replace B1 := Lib.hid (B1.out.trans (hb.mono B1.out.size))
  clear hb
  have I := Lib.hid hoi
  clear hoi
  have hcap2 := I.out.cap
  rcases Nat.lt_or_ge n2 1 with hs | hs
  · skip
    have hg : ((n2 : Int) == 0) = true := by simp; omega
    obtain ⟨q0, q1, q2, q3⟩ := Q.out.c4
    go_wp2_with (fail)
    refine (spec_PassAll_any s p l t _ T.out U.out).mono ?_
    clear q0 q1 q2 q3
    rintro e w3 ⟨A3, n3, k3, rfl, ho, hb⟩
    rw [HOS.out] at ho
    have hoi := ho.is
    clear ho
    replace T := Lib.hid (T.out.below hb (Nat.le_refl _))
    replace U := Lib.hid (U.out.below hb (Nat.le_refl _))
    replace I := Lib.hid (I.out.below hb (Nat.le_refl _))
    replace Q := Lib.hid (Q.out.on hb)
    replace B1 := Lib.hid (B1.out.trans (hb.mono B1.out.size))
    clear hb
    have K := Lib.hid hoi
    clear hoi
    go_wp2_with (fail)
    refine (call_b (laws_equalInts_any _ I.out K.out) (decide_eq_true rfl)).mono ?_
    rintro e w4 ⟨rfl, mm, h4⟩
    replace T := Lib.hid (show IS w4 A1 n1 k1 xs by rw [h4]; exact T.out.drewN mm)
    replace U := Lib.hid (show IS w4 A4 n4 k4 ys by rw [h4]; exact U.out.drewN mm)
    replace I := Lib.hid (show IS w4 A2 n2 k2 os by rw [h4]; exact I.out.drewN mm)
    replace K := Lib.hid (show IS w4 A3 n3 k3 os by rw [h4]; exact K.out.drewN mm)
    replace Q := Lib.hid (show Blk w4 (w1.heap.size) 24 #[.int .i64 s, .int .i64 p, .int .i64 l, .int .i64 t] by rw [h4]; exact Q.out)
    replace B1 := Lib.hid (show Below w.heap.size w w4 by rw [h4]; exact below_drewN B1.out mm)
    clear h4
    clear K
    obtain ⟨q0, q1, q2, q3⟩ := Q.out.c4
    go_wp2_with (fail)
    refine (spec_PassAll_any s p l t _ T.out U.out).mono ?_
    clear q0 q1 q2 q3
    rintro e w5 ⟨A3, n3, k3, rfl, ho, hb⟩
    rw [HOS.out] at ho
    have hoi := ho.is
    clear ho
    replace T := Lib.hid (T.out.below hb (Nat.le_refl _))
    replace U := Lib.hid (U.out.below hb (Nat.le_refl _))
    replace I := Lib.hid (I.out.below hb (Nat.le_refl _))
    replace Q := Lib.hid (Q.out.on hb)
    replace B1 := Lib.hid (B1.out.trans (hb.mono B1.out.size))
    clear hb
    have K := Lib.hid hoi
    clear hoi
    go_wp2_with (fail)
    refine (call_b (laws_equalInts_any _ I.out K.out) (decide_eq_true rfl)).mono ?_
    rintro e w6 ⟨rfl, mm, h4⟩
    replace T := Lib.hid (show IS w6 A1 n1 k1 xs by rw [h4]; exact T.out.drewN mm)
    replace U := Lib.hid (show IS w6 A4 n4 k4 ys by rw [h4]; exact U.out.drewN mm)
    replace I := Lib.hid (show IS w6 A2 n2 k2 os by rw [h4]; exact I.out.drewN mm)
    replace K := Lib.hid (show IS w6 A3 n3 k3 os by rw [h4]; exact K.out.drewN mm)
    replace Q := Lib.hid (show Blk w6 (w1.heap.size) 24 #[.int .i64 s, .int .i64 p, .int .i64 l, .int .i64 t] by rw [h4]; exact Q.out)
    replace B1 := Lib.hid (show Below w.heap.size w w6 by rw [h4]; exact below_drewN B1.out mm)
    clear h4
    clear K
    go_wp2_with (fail)
    go_ret
    exact ⟨ret_bool (by first | rfl | (simp; done) | (simp; omega)), B1.out⟩
  have hg : ((n2 : Int) == 0) = false := by simp; omega
  have HP : Hid (paOK s p l t xs ys = true) := Lib.hid (by
    rcases h : paOK s p l t xs ys with _ | _
    · have h1 := HL.out; rw [← HOS.out, paL_f h] at h1; simp at h1; omega
    · rfl)
  have hnn : n2 = n1 := by have h1 := HL.out; rw [← HOS.out, paL_t HP.out, paN_len] at h1; have h2 := HXL.out; omega
  have hnm : n4 = n1 := by have h1 := (paOK_in HP.out).2.1; have h2 := HXL.out; have h3 := HYL.out; omega
  have h12 : n1 ≤ 12 := by have h1 := (paOK_in HP.out).2.2.1; have h2 := HXL.out; omega
  subst hnn
  subst hnm
  have HON : Hid (os = paN s p l t xs ys n4) := Lib.hid (by rw [← HOS.out, paL_t HP.out, HXL.out])
  obtain ⟨q0, q1, q2, q3⟩ := Q.out.c4
  go_wp2_with (fail)
  refine (spec_PassAll_any s p l t _ T.out U.out).mono ?_
  clear q0 q1 q2 q3
  rintro e w3 ⟨A3, n3, k3, rfl, ho, hb⟩
  rw [HOS.out] at ho
  have hoi := ho.is
  clear ho
  replace T := Lib.hid (T.out.below hb (Nat.le_refl _))
  replace U := Lib.hid (U.out.below hb (Nat.le_refl _))
  replace I := Lib.hid (I.out.below hb (Nat.le_refl _))
  replace Q := Lib.hid (Q.out.on hb)
  replace B1 := Lib.hid (B1.out.trans (hb.mono B1.out.size))
  clear hb
  have K := Lib.hid hoi
  clear hoi
  go_wp2_with (fail)
  refine (call_b (laws_equalInts_any _ I.out K.out) (decide_eq_true rfl)).mono ?_
  rintro e w4 ⟨rfl, mm, h4⟩
  replace T := Lib.hid (show IS w4 A1 n4 k1 xs by rw [h4]; exact T.out.drewN mm)
  replace U := Lib.hid (show IS w4 A4 n4 k4 ys by rw [h4]; exact U.out.drewN mm)
  replace I := Lib.hid (show IS w4 A2 n4 k2 os by rw [h4]; exact I.out.drewN mm)
  replace K := Lib.hid (show IS w4 A3 n3 k3 os by rw [h4]; exact K.out.drewN mm)
  replace Q := Lib.hid (show Blk w4 (w1.heap.size) 24 #[.int .i64 s, .int .i64 p, .int .i64 l, .int .i64 t] by rw [h4]; exact Q.out)
  replace B1 := Lib.hid (show Below w.heap.size w w4 by rw [h4]; exact below_drewN B1.out mm)
  clear h4
  clear K
  have hbk := bkV_in (paOK_in HP.out).1
  have e1 := T.out.at_ (k := 0) (by omega)
  have e2 := U.out.at_ (k := 0) (by omega)
  have e3 := I.out.at_ (k := 0) (by omega)
  obtain ⟨g1, o1, x, rfl, hx, hc1⟩ := e1
  obtain ⟨g2, o2, y, rfl, hy, hc2⟩ := e2
  obtain ⟨g3, o3, b, rfl, hb, hc3⟩ := e3
  have hxg := getD_of hx
  have hyg := getD_of hy
  have hkx : 0 < xs.length := by have := HXL.out; omega
  have hx20 := allR_at hx (paOK_in HP.out).2.2.2.1
  have hy20 := allR_at hy (paOK_in HP.out).2.2.2.2.1
  have hbe : b = toI (paB s p l t xs ys 0) := by
    rw [HON.out] at hb
    simp only [paN, List.getElem?_map, List.getElem?_range (show 0 < n4 by omega), Option.map_some, Option.some.injEq] at hb
    exact hb.symm
  have hpb : paB s p l t xs ys 0 = tkOK s p l t x y := by unfold paB; rw [hxg, hyg]; rfl
  rw [hpb] at hbe
  have hc1' : w4.cell? ⟨g1, o1, none⟩ = some (.int .i64 x) := by simpa using hc1
  have hc2' : w4.cell? ⟨g2, o2, none⟩ = some (.int .i64 y) := by simpa using hc2
  have hc3' : w4.cell? ⟨g3, o3, none⟩ = some (.int .i64 b) := by simpa using hc3
  have s0 : (0 : Int) < (n4 : Int) := by omega
  have s0n : 0 < n4 := by omega
  have s1 : (1 : Int) ≤ (n4 : Int) := by omega
  have hnc1 := T.out.2.1
  have hnc2 := U.out.2.1
  have hnc3 := I.out.2.1
  have hcm1 := T.out.2.2.1
  have hcm2 := U.out.2.2.1
  have hcm3 := I.out.2.2.1
  simp only [maxLen] at hcm1 hcm2 hcm3
  have s2 : (n4 : Int) ≤ (k1 : Int) := by omega
  have s3 : (n4 : Int) ≤ (k4 : Int) := by omega
  have s4 : (n4 : Int) ≤ (k2 : Int) := by omega
  have s5 : (1 : Int) ≤ (k1 : Int) := by omega
  have s6 : (1 : Int) ≤ (k4 : Int) := by omega
  have HBE := Lib.hid hbe
  have HPB := Lib.hid hpb
  obtain ⟨M, hM⟩ : ∃ M, n4 - 1 = M := ⟨_, rfl⟩
  have hM' : (n4 : Int) - 1 = (M : Int) := by omega
  obtain ⟨E1, hE1⟩ : ∃ e : Option Addr, (if k1 = 1 then some ⟨g1, o1, none⟩ else some ⟨g1, o1 + 1, none⟩) = e := ⟨_, rfl⟩
  obtain ⟨E2, hE2⟩ : ∃ e : Option Addr, (if k4 = 1 then some ⟨g2, o2, none⟩ else some ⟨g2, o2 + 1, none⟩) = e := ⟨_, rfl⟩
  obtain ⟨E3, hE3⟩ : ∃ e : Option Addr, (if k2 = 1 then some ⟨g3, o3, none⟩ else some ⟨g3, o3 + 1, none⟩) = e := ⟨_, rfl⟩
  have R1 : Hid (IS w4 E1 M (k1 - 1) (xs.drop 1)) := Lib.hid (by have h := T.out.rest (K := 1) (by omega); rw [hE1, hM] at h; exact h)
  have R2 : Hid (IS w4 E2 M (k4 - 1) (ys.drop 1)) := Lib.hid (by have h := U.out.rest (K := 1) (by omega); rw [hE2, hM] at h; exact h)
  have R3 : Hid (IS w4 E3 M (k2 - 1) (os.drop 1)) := Lib.hid (by have h := I.out.rest (K := 1) (by omega); rw [hE3, hM] at h; exact h)
  have HXG := Lib.hid hxg
  have HYG := Lib.hid hyg
  have C3 : Hid (w4.cell? ⟨g3, o3, none⟩ = some (.int .i64 b)) := Lib.hid hc3'
  have LT1 : Hid (∀ p, E1 = some p → p.block < w4.heap.size) := Lib.hid (by have h := World.block_lt_of_cell? w4 ⟨g1, o1, none⟩ hc1'; intro p hp; rw [← hE1] at hp; split at hp <;> (cases hp; exact h))
  have LT2 : Hid (∀ p, E2 = some p → p.block < w4.heap.size) := Lib.hid (by have h := World.block_lt_of_cell? w4 ⟨g2, o2, none⟩ hc2'; intro p hp; rw [← hE2] at hp; split at hp <;> (cases hp; exact h))
  have LT3 : Hid (∀ p, E3 = some p → p.block < w4.heap.size) := Lib.hid (by have h := World.block_lt_of_cell? w4 ⟨g3, o3, none⟩ hc3'; intro p hp; rw [← hE3] at hp; split at hp <;> (cases hp; exact h))
  clear hx hy hb hxg hyg hbe hpb hc1 hc2 hc3
  have Qw := Q
  obtain ⟨q0, q1, q2, q3⟩ := Qw.out.c4
  have ql := Qw.out.lt
  rcases ho : tkOK s p l t x y with _ | _
  · have HT := Lib.hid ho
    have hb0 : b = 0 := by rw [HBE.out, ho]; rfl
    subst hb0
    have h1P : paP s p l t xs ys 1 = (l, t) := paP_no (k := 0) (HPB.out.trans ho)
    have HTL : Hid (paL s p l t (xs.drop 1) (ys.drop 1) = os.drop 1) := Lib.hid (by rw [← HOS.out]; exact pa_tail HP.out hkx h1P)
    clear h1P ho
    go_wp2_with (fail)
    go_region_held3 (fun w' => w'.cell? ⟨w1.heap.size, 0, none⟩ = some (.int .i64 s) ∧ w'.cell? ⟨w1.heap.size, 1, none⟩ = some (.int .i64 p) ∧ w'.cell? ⟨w1.heap.size, 2, none⟩ = some (.int .i64 l) ∧ w'.cell? ⟨w1.heap.size, 3, none⟩ = some (.int .i64 t) ∧ w'.cell? ⟨g1, o1, none⟩ = some (.int .i64 x) ∧ w'.cell? ⟨g2, o2, none⟩ = some (.int .i64 y))
      (refine And.intro ?_ (And.intro ?_ (And.intro ?_ (And.intro ?_ (And.intro ?_ ?_)))) <;> ((first | with_reducible refine cell_up (w := w4) ?_ q0 | with_reducible refine cell_up (w := w4) ?_ q1 | with_reducible refine cell_up (w := w4) ?_ q2 | with_reducible refine cell_up (w := w4) ?_ q3 | with_reducible refine cell_up (w := w4) ?_ hc1' | with_reducible refine cell_up (w := w4) ?_ hc2'); (repeat' (first | with_reducible exact HW.out | with_reducible exact Below.refl _ _ | with_reducible refine Below.drew ?_ | with_reducible refine Below.setCell ?_ (by first | omega | (simp; done) | (simp; omega)) _ | with_reducible refine Below.alloc ?_ (by first | omega | (simp; done) | (simp; omega)) _))))
      (first
        | (go_at_call 10; go_must (refine (tk_no (impl_TakeFrom_any s p l t x y _) HT.out).mono ?_; rintro e w6 ⟨rfl, hb⟩; have HW : Hid (Below w4.heap.size w4 w6) := Lib.hid (by first | exact hb | exact (Below.refl w4.heap.size w4).drew.trans hb | exact below_then (below_new w4 (.cells #[.int .i64 0, .int .i64 0, .int .i64 0, .int .i64 0] 24)) hb | exact below_then (Below.drew (below_new w4 (.cells #[.int .i64 0, .int .i64 0, .int .i64 0, .int .i64 0] 24))) hb); (try (have N0 : Hid (Blk w6 w4.heap.size 24 #[.int .i64 0, .int .i64 0, .int .i64 0, .int .i64 0]) := Lib.hid (Blk.on (by first | exact Blk.new w4 _ _ | exact (Blk.new w4 _ _).drew) hb); have n0 := N0.out.frozen 0; have n1 := N0.out.frozen 1; have n2 := N0.out.frozen 2; have n3 := N0.out.frozen 3; obtain ⟨z0, z1, z2, z3⟩ := N0.out.c4)); have zs6 := HW.out.size; clear hb)))
    · skip
      have BV : Hid (Below w4.heap.size w4 (w6.alloc (.cells #[.int .i64 0, .int .i64 0, .int .i64 0, .int .i64 0] 24))) := Lib.hid (HW.out.alloc HW.out.size _)
      have N := Lib.hid (Blk.new w6 24 #[.int .i64 0, .int .i64 0, .int .i64 0, .int .i64 0])
      have hg1 : w4.heap.size ≤ w6.heap.size := by have h2 := zs6; omega
      obtain ⟨V, eV⟩ : ∃ vv : World, vv = (w6.alloc (.cells #[.int .i64 0, .int .i64 0, .int .i64 0, .int .i64 0] 24)) := ⟨_, rfl⟩
      rw [← eV] at BV N ⊢
      clear eV
      obtain ⟨gn, hgn⟩ : ∃ z, z = w6.heap.size := ⟨_, rfl⟩
      have hg2 : w4.heap.size ≤ gn := by omega
      rw [← hgn] at N ⊢
      clear hg1 hgn
      have QV := Lib.hid (Q.out.on BV.out)
      have VB := Lib.hid (B1.out.trans (BV.out.mono B1.out.size))
      have S1 := Lib.hid (R1.out.below BV.out (Nat.le_refl _))
      have S2 := Lib.hid (R2.out.below BV.out (Nat.le_refl _))
      have S3 := Lib.hid (R3.out.below BV.out (Nat.le_refl _))
      have c3 := cell_up BV.out hc3'
      have hbv := BV.out.size
      clear q0 q1 q2 q3 hc1' hc2' hc3'
      obtain ⟨q0, q1, q2, q3⟩ := QV.out.c4
      have ql2 := QV.out.lt
      obtain ⟨m0, m1, m2, m3⟩ := N.out.c4
      have nl := N.out.lt
      have f0 := N.out.frozen 0
      have f1 := N.out.frozen 1
      have f2 := N.out.frozen 2
      have f3 := N.out.frozen 3
      have hgq : g3 < gn := by have := World.block_lt_of_cell? w4 ⟨g3, o3, none⟩ C3.out; have : g3 < w4.heap.size := this; omega
      have D1 : Hid (∀ W : World, ∀ u : Value, ∀ j : Nat, ∀ (A : Option Addr) (n c : Nat) (zs : List Int), (∀ p, A = some p → p.block < gn) → IS W A n c zs → IS (W.setCell ⟨gn, j, none⟩ u) A n c zs) := Lib.hid (fun W u j A n c zs hA h => h.setCell (fun a b' ha hb e => by cases ha; have := hA b' hb; have e' : gn = b'.block := e; omega) u)
      have l1 : ∀ p, E1 = some p → p.block < gn := fun p hp => by have := LT1.out p hp; omega
      have l2 : ∀ p, E2 = some p → p.block < gn := fun p hp => by have := LT2.out p hp; omega
      have l3 : ∀ p, E3 = some p → p.block < gn := fun p hp => by have := LT3.out p hp; omega
      have NX : Hid (Blk ((((V.setCell ⟨gn, 0, none⟩ (.int .i64 s)).setCell ⟨gn, 1, none⟩ (.int .i64 p)).setCell ⟨gn, 2, none⟩ (.int .i64 l)).setCell ⟨gn, 3, none⟩ (.int .i64 t)) gn 24 #[.int .i64 s, .int .i64 p, .int .i64 l, .int .i64 t]) := Lib.hid ((((N.out.set_ 0 _).set_ 1 _).set_ 2 _).set_ 3 _)
      have SX1 := Lib.hid (D1.out _ (.int .i64 t) 3 _ _ _ _ l1 (D1.out _ (.int .i64 l) 2 _ _ _ _ l1 (D1.out _ (.int .i64 p) 1 _ _ _ _ l1 (D1.out _ (.int .i64 s) 0 _ _ _ _ l1 S1.out))))
      have SX2 := Lib.hid (D1.out _ (.int .i64 t) 3 _ _ _ _ l2 (D1.out _ (.int .i64 l) 2 _ _ _ _ l2 (D1.out _ (.int .i64 p) 1 _ _ _ _ l2 (D1.out _ (.int .i64 s) 0 _ _ _ _ l2 S2.out))))
      have SX3 := Lib.hid (D1.out _ (.int .i64 t) 3 _ _ _ _ l3 (D1.out _ (.int .i64 l) 2 _ _ _ _ l3 (D1.out _ (.int .i64 p) 1 _ _ _ _ l3 (D1.out _ (.int .i64 s) 0 _ _ _ _ l3 S3.out))))
      have BX := Lib.hid ((((VB.out.setCell (p := ⟨gn, 0, none⟩) (show w.heap.size ≤ gn by have := B1.out.size; omega) (.int .i64 s)).setCell (p := ⟨gn, 1, none⟩) (show w.heap.size ≤ gn by have := B1.out.size; omega) (.int .i64 p)).setCell (p := ⟨gn, 2, none⟩) (show w.heap.size ≤ gn by have := B1.out.size; omega) (.int .i64 l)).setCell (p := ⟨gn, 3, none⟩) (show w.heap.size ≤ gn by have := B1.out.size; omega) (.int .i64 t))
      have cx3 := cell_set (cell_set (cell_set (cell_set c3 (p := ⟨gn, 0, none⟩) (show g3 ≠ gn by omega) (.int .i64 s)) (p := ⟨gn, 1, none⟩) (show g3 ≠ gn by omega) (.int .i64 p)) (p := ⟨gn, 2, none⟩) (show g3 ≠ gn by omega) (.int .i64 l)) (p := ⟨gn, 3, none⟩) (show g3 ≠ gn by omega) (.int .i64 t)
      go_wp2_with (fail)
      obtain ⟨X, eX⟩ : ∃ vv : World, vv = ((((V.setCell ⟨gn, 0, none⟩ (.int .i64 s)).setCell ⟨gn, 1, none⟩ (.int .i64 p)).setCell ⟨gn, 2, none⟩ (.int .i64 l)).setCell ⟨gn, 3, none⟩ (.int .i64 t)) := ⟨_, rfl⟩
      rw [← eX] at NX SX1 SX2 SX3 BX cx3 ⊢
      clear eX q0 q1 q2 q3 m0 m1 m2 m3 f0 f1 f2 f3 c3 l1 l2 l3 D1
      obtain ⟨m0, m1, m2, m3⟩ := NX.out.c4
      have nl2 := NX.out.lt
      go_region_held3 (fun w' => w'.cell? ⟨gn, 0, none⟩ = some (.int .i64 s) ∧ w'.cell? ⟨gn, 1, none⟩ = some (.int .i64 p) ∧ w'.cell? ⟨gn, 2, none⟩ = some (.int .i64 l) ∧ w'.cell? ⟨gn, 3, none⟩ = some (.int .i64 t) ∧ w'.cell? ⟨g3, o3, none⟩ = some (.int .i64 0))
        (refine And.intro ?_ (And.intro ?_ (And.intro ?_ (And.intro ?_ ?_))) <;> ((first | with_reducible refine cell_up (w := X) ?_ m0 | with_reducible refine cell_up (w := X) ?_ m1 | with_reducible refine cell_up (w := X) ?_ m2 | with_reducible refine cell_up (w := X) ?_ m3 | with_reducible refine cell_up (w := X) ?_ cx3); (repeat' (first | with_reducible exact HY2.out | with_reducible exact HY.out | with_reducible exact Below.refl _ _ | with_reducible refine Below.drew ?_))))
        (first
         | (go_at_call 7; go_must (refine (impl_PassAll_any s p l t _ (by first | exact SX1.out | exact SX1.out.drew) (by first | exact SX2.out | exact SX2.out.drew)).mono ?_; rintro e w7 ⟨A7, n7, k7, rfl, ho, hb⟩; have HY : Hid (Below X.heap.size X w7) := Lib.hid (by first | exact hb | exact (Below.refl X.heap.size X).drew.trans hb); rw [HTL.out] at ho; have J7 := Lib.hid ho.is; have P7 := Lib.hid (SX3.out.below HY.out (Nat.le_refl _)); clear ho hb))
         | (go_at_call 8; go_must (refine (call_b (laws_equalInts_any _ (by first | exact J7.out | exact J7.out.drew) (by first | exact P7.out | exact P7.out.drew)) (decide_eq_true rfl)).mono ?_; rintro e w8 ⟨rfl, mm, h4⟩; have HY2 : Hid (Below X.heap.size X w8) := Lib.hid (by first | (rw [h4]; exact below_drewN HY.out mm) | (rw [h4]; exact below_drewN HY.out.drew mm)); clear h4)))
      all_goals (
        go_wp2_with (fail)
        go_ret
        exact ⟨ret_bool (by first | rfl | (simp; done)), by first | exact BX.out.trans (HY2.out.mono BX.out.size) | exact (BX.out.trans (HY2.out.mono BX.out.size)).drew⟩)
    · skip
      have BV : Hid (Below w4.heap.size w4 ((((w6.setCell ⟨w4.heap.size, 0, none⟩ (.int .i64 0)).setCell ⟨w4.heap.size, 1, none⟩ (.int .i64 0)).setCell ⟨w4.heap.size, 2, none⟩ (.int .i64 0)).setCell ⟨w4.heap.size, 3, none⟩ (.int .i64 0))) := Lib.hid ((((HW.out.setCell (Nat.le_refl _) _).setCell (Nat.le_refl _) _).setCell (Nat.le_refl _) _).setCell (Nat.le_refl _) _)
      have N : Hid (Blk ((((w6.setCell ⟨w4.heap.size, 0, none⟩ (.int .i64 0)).setCell ⟨w4.heap.size, 1, none⟩ (.int .i64 0)).setCell ⟨w4.heap.size, 2, none⟩ (.int .i64 0)).setCell ⟨w4.heap.size, 3, none⟩ (.int .i64 0)) w4.heap.size 24 #[.int .i64 0, .int .i64 0, .int .i64 0, .int .i64 0]) := Lib.hid ((((N0.out.set_ 0 _).set_ 1 _).set_ 2 _).set_ 3 _)
      clear n0 n1 n2 n3 z0 z1 z2 z3 N0
      have hg1 : w4.heap.size ≤ w4.heap.size := by have h2 := zs6; omega
      obtain ⟨V, eV⟩ : ∃ vv : World, vv = ((((w6.setCell ⟨w4.heap.size, 0, none⟩ (.int .i64 0)).setCell ⟨w4.heap.size, 1, none⟩ (.int .i64 0)).setCell ⟨w4.heap.size, 2, none⟩ (.int .i64 0)).setCell ⟨w4.heap.size, 3, none⟩ (.int .i64 0)) := ⟨_, rfl⟩
      rw [← eV] at BV N ⊢
      clear eV
      obtain ⟨gn, hgn⟩ : ∃ z, z = w4.heap.size := ⟨_, rfl⟩
      have hg2 : w4.heap.size ≤ gn := by omega
      rw [← hgn] at N ⊢
      clear hg1 hgn
      have QV := Lib.hid (Q.out.on BV.out)
      have VB := Lib.hid (B1.out.trans (BV.out.mono B1.out.size))
      have S1 := Lib.hid (R1.out.below BV.out (Nat.le_refl _))
      have S2 := Lib.hid (R2.out.below BV.out (Nat.le_refl _))
      have S3 := Lib.hid (R3.out.below BV.out (Nat.le_refl _))
      have c3 := cell_up BV.out hc3'
      have hbv := BV.out.size
      clear q0 q1 q2 q3 hc1' hc2' hc3'
      obtain ⟨q0, q1, q2, q3⟩ := QV.out.c4
      have ql2 := QV.out.lt
      obtain ⟨m0, m1, m2, m3⟩ := N.out.c4
      have nl := N.out.lt
      have f0 := N.out.frozen 0
      have f1 := N.out.frozen 1
      have f2 := N.out.frozen 2
      have f3 := N.out.frozen 3
      have hgq : g3 < gn := by have := World.block_lt_of_cell? w4 ⟨g3, o3, none⟩ C3.out; have : g3 < w4.heap.size := this; omega
      have D1 : Hid (∀ W : World, ∀ u : Value, ∀ j : Nat, ∀ (A : Option Addr) (n c : Nat) (zs : List Int), (∀ p, A = some p → p.block < gn) → IS W A n c zs → IS (W.setCell ⟨gn, j, none⟩ u) A n c zs) := Lib.hid (fun W u j A n c zs hA h => h.setCell (fun a b' ha hb e => by cases ha; have := hA b' hb; have e' : gn = b'.block := e; omega) u)
      have l1 : ∀ p, E1 = some p → p.block < gn := fun p hp => by have := LT1.out p hp; omega
      have l2 : ∀ p, E2 = some p → p.block < gn := fun p hp => by have := LT2.out p hp; omega
      have l3 : ∀ p, E3 = some p → p.block < gn := fun p hp => by have := LT3.out p hp; omega
      have NX : Hid (Blk ((((V.setCell ⟨gn, 0, none⟩ (.int .i64 s)).setCell ⟨gn, 1, none⟩ (.int .i64 p)).setCell ⟨gn, 2, none⟩ (.int .i64 l)).setCell ⟨gn, 3, none⟩ (.int .i64 t)) gn 24 #[.int .i64 s, .int .i64 p, .int .i64 l, .int .i64 t]) := Lib.hid ((((N.out.set_ 0 _).set_ 1 _).set_ 2 _).set_ 3 _)
      have SX1 := Lib.hid (D1.out _ (.int .i64 t) 3 _ _ _ _ l1 (D1.out _ (.int .i64 l) 2 _ _ _ _ l1 (D1.out _ (.int .i64 p) 1 _ _ _ _ l1 (D1.out _ (.int .i64 s) 0 _ _ _ _ l1 S1.out))))
      have SX2 := Lib.hid (D1.out _ (.int .i64 t) 3 _ _ _ _ l2 (D1.out _ (.int .i64 l) 2 _ _ _ _ l2 (D1.out _ (.int .i64 p) 1 _ _ _ _ l2 (D1.out _ (.int .i64 s) 0 _ _ _ _ l2 S2.out))))
      have SX3 := Lib.hid (D1.out _ (.int .i64 t) 3 _ _ _ _ l3 (D1.out _ (.int .i64 l) 2 _ _ _ _ l3 (D1.out _ (.int .i64 p) 1 _ _ _ _ l3 (D1.out _ (.int .i64 s) 0 _ _ _ _ l3 S3.out))))
      have BX := Lib.hid ((((VB.out.setCell (p := ⟨gn, 0, none⟩) (show w.heap.size ≤ gn by have := B1.out.size; omega) (.int .i64 s)).setCell (p := ⟨gn, 1, none⟩) (show w.heap.size ≤ gn by have := B1.out.size; omega) (.int .i64 p)).setCell (p := ⟨gn, 2, none⟩) (show w.heap.size ≤ gn by have := B1.out.size; omega) (.int .i64 l)).setCell (p := ⟨gn, 3, none⟩) (show w.heap.size ≤ gn by have := B1.out.size; omega) (.int .i64 t))
      have cx3 := cell_set (cell_set (cell_set (cell_set c3 (p := ⟨gn, 0, none⟩) (show g3 ≠ gn by omega) (.int .i64 s)) (p := ⟨gn, 1, none⟩) (show g3 ≠ gn by omega) (.int .i64 p)) (p := ⟨gn, 2, none⟩) (show g3 ≠ gn by omega) (.int .i64 l)) (p := ⟨gn, 3, none⟩) (show g3 ≠ gn by omega) (.int .i64 t)
      go_wp2_with (fail)
      obtain ⟨X, eX⟩ : ∃ vv : World, vv = ((((V.setCell ⟨gn, 0, none⟩ (.int .i64 s)).setCell ⟨gn, 1, none⟩ (.int .i64 p)).setCell ⟨gn, 2, none⟩ (.int .i64 l)).setCell ⟨gn, 3, none⟩ (.int .i64 t)) := ⟨_, rfl⟩
      rw [← eX] at NX SX1 SX2 SX3 BX cx3 ⊢
      clear eX q0 q1 q2 q3 m0 m1 m2 m3 f0 f1 f2 f3 c3 l1 l2 l3 D1
      obtain ⟨m0, m1, m2, m3⟩ := NX.out.c4
      have nl2 := NX.out.lt
      go_region_held3 (fun w' => w'.cell? ⟨gn, 0, none⟩ = some (.int .i64 s) ∧ w'.cell? ⟨gn, 1, none⟩ = some (.int .i64 p) ∧ w'.cell? ⟨gn, 2, none⟩ = some (.int .i64 l) ∧ w'.cell? ⟨gn, 3, none⟩ = some (.int .i64 t) ∧ w'.cell? ⟨g3, o3, none⟩ = some (.int .i64 0))
        (refine And.intro ?_ (And.intro ?_ (And.intro ?_ (And.intro ?_ ?_))) <;> ((first | with_reducible refine cell_up (w := X) ?_ m0 | with_reducible refine cell_up (w := X) ?_ m1 | with_reducible refine cell_up (w := X) ?_ m2 | with_reducible refine cell_up (w := X) ?_ m3 | with_reducible refine cell_up (w := X) ?_ cx3); (repeat' (first | with_reducible exact HY2.out | with_reducible exact HY.out | with_reducible exact Below.refl _ _ | with_reducible refine Below.drew ?_))))
        (first
         | (go_at_call 7; go_must (refine (impl_PassAll_any s p l t _ (by first | exact SX1.out | exact SX1.out.drew) (by first | exact SX2.out | exact SX2.out.drew)).mono ?_; rintro e w7 ⟨A7, n7, k7, rfl, ho, hb⟩; have HY : Hid (Below X.heap.size X w7) := Lib.hid (by first | exact hb | exact (Below.refl X.heap.size X).drew.trans hb); rw [HTL.out] at ho; have J7 := Lib.hid ho.is; have P7 := Lib.hid (SX3.out.below HY.out (Nat.le_refl _)); clear ho hb))
         | (go_at_call 8; go_must (refine (call_b (laws_equalInts_any _ (by first | exact J7.out | exact J7.out.drew) (by first | exact P7.out | exact P7.out.drew)) (decide_eq_true rfl)).mono ?_; rintro e w8 ⟨rfl, mm, h4⟩; have HY2 : Hid (Below X.heap.size X w8) := Lib.hid (by first | (rw [h4]; exact below_drewN HY.out mm) | (rw [h4]; exact below_drewN HY.out.drew mm)); clear h4)))
      all_goals (
        go_wp2_with (fail)
        go_ret
        exact ⟨ret_bool (by first | rfl | (simp; done)), by first | exact BX.out.trans (HY2.out.mono BX.out.size) | exact (BX.out.trans (HY2.out.mono BX.out.size)).drew⟩)
  · have HT := Lib.hid ho
    have hb0 : b = 1 := by rw [HBE.out, ho]; rfl
    subst hb0
    obtain ⟨v, hv⟩ : ∃ v, lvV s p l t y - x = v := ⟨_, rfl⟩
    have h1P : paP s p l t xs ys 1 = (v, y) := by
      have h := paP_yes (k := 0) (HPB.out.trans ho)
      have e1 : paP s p l t xs ys 0 = (l, t) := rfl
      rw [e1] at h
      simp only at h
      rw [HXG.out, HYG.out, hv] at h
      exact h
    have HV := Lib.hid hv
    clear hv
    have HTL : Hid (paL s p v y (xs.drop 1) (ys.drop 1) = os.drop 1) := Lib.hid (by rw [← HOS.out]; exact pa_tail HP.out hkx h1P)
    clear h1P ho
    go_wp2_with (fail)
    go_region_held3 (fun w' => w'.cell? ⟨w1.heap.size, 0, none⟩ = some (.int .i64 s) ∧ w'.cell? ⟨w1.heap.size, 1, none⟩ = some (.int .i64 p) ∧ w'.cell? ⟨w1.heap.size, 2, none⟩ = some (.int .i64 l) ∧ w'.cell? ⟨w1.heap.size, 3, none⟩ = some (.int .i64 t) ∧ w'.cell? ⟨g1, o1, none⟩ = some (.int .i64 x) ∧ w'.cell? ⟨g2, o2, none⟩ = some (.int .i64 y))
      (refine And.intro ?_ (And.intro ?_ (And.intro ?_ (And.intro ?_ (And.intro ?_ ?_)))) <;> ((first | with_reducible refine cell_up (w := w4) ?_ q0 | with_reducible refine cell_up (w := w4) ?_ q1 | with_reducible refine cell_up (w := w4) ?_ q2 | with_reducible refine cell_up (w := w4) ?_ q3 | with_reducible refine cell_up (w := w4) ?_ hc1' | with_reducible refine cell_up (w := w4) ?_ hc2'); (repeat' (first | with_reducible exact HW.out | with_reducible exact Below.refl _ _ | with_reducible refine Below.drew ?_ | with_reducible refine Below.setCell ?_ (by first | omega | (simp; done) | (simp; omega)) _ | with_reducible refine Below.alloc ?_ (by first | omega | (simp; done) | (simp; omega)) _))))
      (first
        | (go_at_call 10; go_must (refine (tk_yes (impl_TakeFrom_any s p l t x y _) HT.out HV.out).mono ?_; rintro e w6 ⟨rfl, hb⟩; have HW : Hid (Below w4.heap.size w4 w6) := Lib.hid (by first | exact hb | exact (Below.refl w4.heap.size w4).drew.trans hb | exact below_then (below_new w4 (.cells #[.int .i64 0, .int .i64 0, .int .i64 0, .int .i64 0] 24)) hb | exact below_then (Below.drew (below_new w4 (.cells #[.int .i64 0, .int .i64 0, .int .i64 0, .int .i64 0] 24))) hb); (try (have N0 : Hid (Blk w6 w4.heap.size 24 #[.int .i64 0, .int .i64 0, .int .i64 0, .int .i64 0]) := Lib.hid (Blk.on (by first | exact Blk.new w4 _ _ | exact (Blk.new w4 _ _).drew) hb); have n0 := N0.out.frozen 0; have n1 := N0.out.frozen 1; have n2 := N0.out.frozen 2; have n3 := N0.out.frozen 3; obtain ⟨z0, z1, z2, z3⟩ := N0.out.c4)); have zs6 := HW.out.size; clear hb)))
    · skip
      have BV : Hid (Below w4.heap.size w4 (w6.alloc (.cells #[.int .i64 s, .int .i64 p, .int .i64 v, .int .i64 y] 24))) := Lib.hid (HW.out.alloc HW.out.size _)
      have N := Lib.hid (Blk.new w6 24 #[.int .i64 s, .int .i64 p, .int .i64 v, .int .i64 y])
      have hg1 : w4.heap.size ≤ w6.heap.size := by have h2 := zs6; omega
      obtain ⟨V, eV⟩ : ∃ vv : World, vv = (w6.alloc (.cells #[.int .i64 s, .int .i64 p, .int .i64 v, .int .i64 y] 24)) := ⟨_, rfl⟩
      rw [← eV] at BV N ⊢
      clear eV
      obtain ⟨gn, hgn⟩ : ∃ z, z = w6.heap.size := ⟨_, rfl⟩
      have hg2 : w4.heap.size ≤ gn := by omega
      rw [← hgn] at N ⊢
      clear hg1 hgn
      have QV := Lib.hid (Q.out.on BV.out)
      have VB := Lib.hid (B1.out.trans (BV.out.mono B1.out.size))
      have S1 := Lib.hid (R1.out.below BV.out (Nat.le_refl _))
      have S2 := Lib.hid (R2.out.below BV.out (Nat.le_refl _))
      have S3 := Lib.hid (R3.out.below BV.out (Nat.le_refl _))
      have c3 := cell_up BV.out hc3'
      have hbv := BV.out.size
      clear q0 q1 q2 q3 hc1' hc2' hc3'
      go_wp2_with (fail)
      obtain ⟨m0, m1, m2, m3⟩ := N.out.c4
      have nl2 := N.out.lt
      go_region_held3 (fun w' => w'.cell? ⟨gn, 0, none⟩ = some (.int .i64 s) ∧ w'.cell? ⟨gn, 1, none⟩ = some (.int .i64 p) ∧ w'.cell? ⟨gn, 2, none⟩ = some (.int .i64 v) ∧ w'.cell? ⟨gn, 3, none⟩ = some (.int .i64 y) ∧ w'.cell? ⟨g3, o3, none⟩ = some (.int .i64 1))
        (refine And.intro ?_ (And.intro ?_ (And.intro ?_ (And.intro ?_ ?_))) <;> ((first | with_reducible refine cell_up (w := V) ?_ m0 | with_reducible refine cell_up (w := V) ?_ m1 | with_reducible refine cell_up (w := V) ?_ m2 | with_reducible refine cell_up (w := V) ?_ m3 | with_reducible refine cell_up (w := V) ?_ c3); (repeat' (first | with_reducible exact HY2.out | with_reducible exact HY.out | with_reducible exact Below.refl _ _ | with_reducible refine Below.drew ?_))))
        (first
         | (go_at_call 7; go_must (refine (impl_PassAll_any s p v y _ (by first | exact S1.out | exact S1.out.drew) (by first | exact S2.out | exact S2.out.drew)).mono ?_; rintro e w7 ⟨A7, n7, k7, rfl, ho, hb⟩; have HY : Hid (Below V.heap.size V w7) := Lib.hid (by first | exact hb | exact (Below.refl V.heap.size V).drew.trans hb); rw [HTL.out] at ho; have J7 := Lib.hid ho.is; have P7 := Lib.hid (S3.out.below HY.out (Nat.le_refl _)); clear ho hb))
         | (go_at_call 8; go_must (refine (call_b (laws_equalInts_any _ (by first | exact J7.out | exact J7.out.drew) (by first | exact P7.out | exact P7.out.drew)) (decide_eq_true rfl)).mono ?_; rintro e w8 ⟨rfl, mm, h4⟩; have HY2 : Hid (Below V.heap.size V w8) := Lib.hid (by first | (rw [h4]; exact below_drewN HY.out mm) | (rw [h4]; exact below_drewN HY.out.drew mm)); clear h4)))
      all_goals (
        go_wp2_with (fail)
        go_ret
        exact ⟨ret_bool (by first | rfl | (simp; done)), by first | exact VB.out.trans (HY2.out.mono VB.out.size) | exact (VB.out.trans (HY2.out.mono VB.out.size)).drew⟩)
    · skip
      have BV : Hid (Below w4.heap.size w4 ((((w6.setCell ⟨w4.heap.size, 0, none⟩ (.int .i64 s)).setCell ⟨w4.heap.size, 1, none⟩ (.int .i64 p)).setCell ⟨w4.heap.size, 2, none⟩ (.int .i64 v)).setCell ⟨w4.heap.size, 3, none⟩ (.int .i64 y))) := Lib.hid ((((HW.out.setCell (Nat.le_refl _) _).setCell (Nat.le_refl _) _).setCell (Nat.le_refl _) _).setCell (Nat.le_refl _) _)
      have N : Hid (Blk ((((w6.setCell ⟨w4.heap.size, 0, none⟩ (.int .i64 s)).setCell ⟨w4.heap.size, 1, none⟩ (.int .i64 p)).setCell ⟨w4.heap.size, 2, none⟩ (.int .i64 v)).setCell ⟨w4.heap.size, 3, none⟩ (.int .i64 y)) w4.heap.size 24 #[.int .i64 s, .int .i64 p, .int .i64 v, .int .i64 y]) := Lib.hid ((((N0.out.set_ 0 _).set_ 1 _).set_ 2 _).set_ 3 _)
      clear n0 n1 n2 n3 z0 z1 z2 z3 N0
      have hg1 : w4.heap.size ≤ w4.heap.size := by have h2 := zs6; omega
      obtain ⟨V, eV⟩ : ∃ vv : World, vv = ((((w6.setCell ⟨w4.heap.size, 0, none⟩ (.int .i64 s)).setCell ⟨w4.heap.size, 1, none⟩ (.int .i64 p)).setCell ⟨w4.heap.size, 2, none⟩ (.int .i64 v)).setCell ⟨w4.heap.size, 3, none⟩ (.int .i64 y)) := ⟨_, rfl⟩
      rw [← eV] at BV N ⊢
      clear eV
      obtain ⟨gn, hgn⟩ : ∃ z, z = w4.heap.size := ⟨_, rfl⟩
      have hg2 : w4.heap.size ≤ gn := by omega
      rw [← hgn] at N ⊢
      clear hg1 hgn
      have QV := Lib.hid (Q.out.on BV.out)
      have VB := Lib.hid (B1.out.trans (BV.out.mono B1.out.size))
      have S1 := Lib.hid (R1.out.below BV.out (Nat.le_refl _))
      have S2 := Lib.hid (R2.out.below BV.out (Nat.le_refl _))
      have S3 := Lib.hid (R3.out.below BV.out (Nat.le_refl _))
      have c3 := cell_up BV.out hc3'
      have hbv := BV.out.size
      clear q0 q1 q2 q3 hc1' hc2' hc3'
      go_wp2_with (fail)
      obtain ⟨m0, m1, m2, m3⟩ := N.out.c4
      have nl2 := N.out.lt
      go_region_held3 (fun w' => w'.cell? ⟨gn, 0, none⟩ = some (.int .i64 s) ∧ w'.cell? ⟨gn, 1, none⟩ = some (.int .i64 p) ∧ w'.cell? ⟨gn, 2, none⟩ = some (.int .i64 v) ∧ w'.cell? ⟨gn, 3, none⟩ = some (.int .i64 y) ∧ w'.cell? ⟨g3, o3, none⟩ = some (.int .i64 1))
        (refine And.intro ?_ (And.intro ?_ (And.intro ?_ (And.intro ?_ ?_))) <;> ((first | with_reducible refine cell_up (w := V) ?_ m0 | with_reducible refine cell_up (w := V) ?_ m1 | with_reducible refine cell_up (w := V) ?_ m2 | with_reducible refine cell_up (w := V) ?_ m3 | with_reducible refine cell_up (w := V) ?_ c3); (repeat' (first | with_reducible exact HY2.out | with_reducible exact HY.out | with_reducible exact Below.refl _ _ | with_reducible refine Below.drew ?_))))
        (first
         | (go_at_call 7; go_must (refine (impl_PassAll_any s p v y _ (by first | exact S1.out | exact S1.out.drew) (by first | exact S2.out | exact S2.out.drew)).mono ?_; rintro e w7 ⟨A7, n7, k7, rfl, ho, hb⟩; have HY : Hid (Below V.heap.size V w7) := Lib.hid (by first | exact hb | exact (Below.refl V.heap.size V).drew.trans hb); rw [HTL.out] at ho; have J7 := Lib.hid ho.is; have P7 := Lib.hid (S3.out.below HY.out (Nat.le_refl _)); clear ho hb))
         | (go_at_call 8; go_must (refine (call_b (laws_equalInts_any _ (by first | exact J7.out | exact J7.out.drew) (by first | exact P7.out | exact P7.out.drew)) (decide_eq_true rfl)).mono ?_; rintro e w8 ⟨rfl, mm, h4⟩; have HY2 : Hid (Below V.heap.size V w8) := Lib.hid (by first | (rw [h4]; exact below_drewN HY.out mm) | (rw [h4]; exact below_drewN HY.out.drew mm)); clear h4)))
      all_goals (
        go_wp2_with (fail)
        go_ret
        exact ⟨ret_bool (by first | rfl | (simp; done)), by first | exact VB.out.trans (HY2.out.mono VB.out.size) | exact (VB.out.trans (HY2.out.mono VB.out.size)).drew⟩)
end Go.Proofs.Ytokajigaicdffaa
