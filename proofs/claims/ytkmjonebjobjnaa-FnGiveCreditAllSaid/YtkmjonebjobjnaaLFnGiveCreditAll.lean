/-
  The walk of FnGiveCreditAll. (Its words were written by a program of my own.)
-/
import Derived.Test.YtkmjonebjobjnaaDrawG
import Derived.Test.YtkmjonebjobjnaaBudY
import Derived.Lib.QuietBelow
import Derived.Deep.DeepMust
import Derived.IntWalk
import Derived.Test.YtkmjonebjobjnaaBudZ
import Derived.Deep.RegionHeld3
import Derived.Deep.DrawnRows
import Derived.Deep.DeepCutAuto
import Derived.KernelRfl
namespace Go.Proofs.Ytkmjonebjobjnaa
open Go.RowKit
attribute [local go_sem ↓] Go.wp_at_zero Go.wp_at_succ
-- CALL: W s0
set_option maxHeartbeats 4000000 in
theorem walk_FnGiveCreditAll {A : Option Addr} {n c : Nat} {zs : List Int} (w : World) (h : BS w A n c zs) :
    Calls Try.prog 13 #[.slice A n c] w fun e w' => e = .returned (.bool true) ∧ Below w.heap.size w w' := by
  have H := Lib.hid h
  clear h
  rcases Nat.lt_or_ge 1048576 n with h1 | h1
  · have h1' : (1048576 : Int) < (n : Int) := by omega
    go_enter Try.func13, Try.ntmps13
    go_wp2_with (fail)
    go_ret
    exact ⟨rfl, Below.refl _ _⟩
  have h1' : ¬ (1048576 : Int) < (n : Int) := by omega
  go_enter Try.func13, Try.ntmps13
  go_wp2_with (fail)
  refine (spec_DrawGiveCredit_any w H.out h1).mono ?_
  rintro e w1 ⟨t, ks, us, A1, n1, c1, A2, n2, c2, cl, s, rfl, hn1, hn2, hcl0, hcl1, hs0, hs1, hI1, hI2, hb⟩
  have B := Lib.hid hb
  have I1 := Lib.hid hI1
  have I2 := Lib.hid hI2
  clear hb hI1 hI2
  replace I1 := Lib.hid (I1.out.alloc (.cells #[.int .i64 t, .slice A1 n1 c1, .slice A2 n2 c2] 25))
  replace I2 := Lib.hid (I2.out.alloc (.cells #[.int .i64 t, .slice A1 n1 c1, .slice A2 n2 c2] 25))
  replace B := Lib.hid (B.out.alloc B.out.size (.cells #[.int .i64 t, .slice A1 n1 c1, .slice A2 n2 c2] 25))
  have Q := Lib.hid (Blk.new w1 25 #[.int .i64 t, .slice A1 n1 c1, .slice A2 n2 c2])
  rcases hok : gcOK t ks us cl s with _ | _
  · skip
    go_wp2_with (fail)
    refine (impl_GiveCredit_no t cl s _ I1.out I2.out hok).mono ?_
    rintro e w2 ⟨A3, n3, c3, A4, n4, c4, rfl, ho3, ho4, hd, hb⟩
    replace I1 := Lib.hid (I1.out.below hb (Nat.le_refl _))
    replace I2 := Lib.hid (I2.out.below hb (Nat.le_refl _))
    replace Q := Lib.hid (Q.out.on hb)
    replace B := Lib.hid (B.out.trans (hb.mono B.out.size))
    have I3 := Lib.hid ho3.is
    have I4 := Lib.hid ho4.is
    clear hb
    have Qp := Q
    replace Q := Lib.hid (Q.out.alloc (.cells #[.int .i64 0, .slice A3 n3 c3, .slice A4 n4 c4] 25))
    replace I1 := Lib.hid (I1.out.alloc (.cells #[.int .i64 0, .slice A3 n3 c3, .slice A4 n4 c4] 25))
    replace I2 := Lib.hid (I2.out.alloc (.cells #[.int .i64 0, .slice A3 n3 c3, .slice A4 n4 c4] 25))
    replace I3 := Lib.hid (I3.out.alloc (.cells #[.int .i64 0, .slice A3 n3 c3, .slice A4 n4 c4] 25))
    replace I4 := Lib.hid (I4.out.alloc (.cells #[.int .i64 0, .slice A3 n3 c3, .slice A4 n4 c4] 25))
    replace B := Lib.hid (B.out.alloc B.out.size (.cells #[.int .i64 0, .slice A3 n3 c3, .slice A4 n4 c4] 25))
    have F := Lib.hid (Blk.new w2 25 #[.int .i64 0, .slice A3 n3 c3, .slice A4 n4 c4])
    obtain ⟨q0, q1, q2⟩ := Qp.out.c3
    have ql := Qp.out.lt
    go_wp2_with (fail)
    refine (spec_GiveCredit_no t cl s _ I1.out I2.out hok).mono ?_
    clear q0 q1 q2 ql
    rintro e w3 ⟨A5, n5, c5, A6, n6, c6, rfl, ho5, ho6, hd, hb⟩
    replace I1 := Lib.hid (I1.out.below hb (Nat.le_refl _))
    replace I2 := Lib.hid (I2.out.below hb (Nat.le_refl _))
    replace I3 := Lib.hid (I3.out.below hb (Nat.le_refl _))
    replace I4 := Lib.hid (I4.out.below hb (Nat.le_refl _))
    replace Q := Lib.hid (Q.out.on hb)
    replace F := Lib.hid (F.out.on hb)
    replace B := Lib.hid (B.out.trans (hb.mono B.out.size))
    have I5 := Lib.hid ho5.is
    have I6 := Lib.hid ho6.is
    clear hb
    replace Qp := Q
    replace Q := Lib.hid (Q.out.alloc (.cells #[.int .i64 0, .slice A5 n5 c5, .slice A6 n6 c6] 25))
    have Fp := F
    replace F := Lib.hid (F.out.alloc (.cells #[.int .i64 0, .slice A5 n5 c5, .slice A6 n6 c6] 25))
    replace I1 := Lib.hid (I1.out.alloc (.cells #[.int .i64 0, .slice A5 n5 c5, .slice A6 n6 c6] 25))
    replace I2 := Lib.hid (I2.out.alloc (.cells #[.int .i64 0, .slice A5 n5 c5, .slice A6 n6 c6] 25))
    replace I3 := Lib.hid (I3.out.alloc (.cells #[.int .i64 0, .slice A5 n5 c5, .slice A6 n6 c6] 25))
    replace I4 := Lib.hid (I4.out.alloc (.cells #[.int .i64 0, .slice A5 n5 c5, .slice A6 n6 c6] 25))
    replace I5 := Lib.hid (I5.out.alloc (.cells #[.int .i64 0, .slice A5 n5 c5, .slice A6 n6 c6] 25))
    replace I6 := Lib.hid (I6.out.alloc (.cells #[.int .i64 0, .slice A5 n5 c5, .slice A6 n6 c6] 25))
    replace B := Lib.hid (B.out.alloc B.out.size (.cells #[.int .i64 0, .slice A5 n5 c5, .slice A6 n6 c6] 25))
    have G := Lib.hid (Blk.new w3 25 #[.int .i64 0, .slice A5 n5 c5, .slice A6 n6 c6])
    obtain ⟨f0, f1, f2⟩ := Fp.out.c3
    have fl := Fp.out.lt
    go_wp2_with (fail)
    refine (laws_equalBudget_same 0 _ I3.out I4.out I5.out I6.out).mono ?_
    clear f0 f1 f2 fl
    rintro e w4 ⟨rfl, hb⟩
    replace I1 := Lib.hid (I1.out.below hb (Nat.le_refl _))
    replace I2 := Lib.hid (I2.out.below hb (Nat.le_refl _))
    replace I3 := Lib.hid (I3.out.below hb (Nat.le_refl _))
    replace I4 := Lib.hid (I4.out.below hb (Nat.le_refl _))
    replace I5 := Lib.hid (I5.out.below hb (Nat.le_refl _))
    replace I6 := Lib.hid (I6.out.below hb (Nat.le_refl _))
    replace Q := Lib.hid (Q.out.on hb)
    replace F := Lib.hid (F.out.on hb)
    replace G := Lib.hid (G.out.on hb)
    replace B := Lib.hid (B.out.trans (hb.mono B.out.size))
    clear hb
    obtain ⟨f0, f1, f2⟩ := F.out.c3
    have fl := F.out.lt
    obtain ⟨g0, g1, g2⟩ := G.out.c3
    have gl := G.out.lt
    go_wp2_with (fail)
    refine (laws_equalBudget_same 0 _ I3.out I4.out I5.out I6.out).mono ?_
    clear f0 f1 f2 fl g0 g1 g2 gl
    rintro e w5 ⟨rfl, hb⟩
    replace I1 := Lib.hid (I1.out.below hb (Nat.le_refl _))
    replace I2 := Lib.hid (I2.out.below hb (Nat.le_refl _))
    replace I3 := Lib.hid (I3.out.below hb (Nat.le_refl _))
    replace I4 := Lib.hid (I4.out.below hb (Nat.le_refl _))
    replace I5 := Lib.hid (I5.out.below hb (Nat.le_refl _))
    replace I6 := Lib.hid (I6.out.below hb (Nat.le_refl _))
    replace Q := Lib.hid (Q.out.on hb)
    replace F := Lib.hid (F.out.on hb)
    replace G := Lib.hid (G.out.on hb)
    replace B := Lib.hid (B.out.trans (hb.mono B.out.size))
    clear hb
    go_wp2_with (fail)
    go_ret
    exact ⟨ret_bool (by first | rfl | (simp; done) | (simp; omega) | omega), B.out⟩
  go_wp2_with (fail)
  refine (impl_GiveCredit_yes t cl s _ I1.out I2.out hok).mono ?_
  rintro e w2 ⟨A3, n3, c3, A4, n4, c4, rfl, ho3, ho4, hd, hb⟩
  replace I1 := Lib.hid (I1.out.below hb (Nat.le_refl _))
  replace I2 := Lib.hid (I2.out.below hb (Nat.le_refl _))
  replace Q := Lib.hid (Q.out.on hb)
  replace B := Lib.hid (B.out.trans (hb.mono B.out.size))
  have I3 := Lib.hid ho3.is
  have I4 := Lib.hid ho4.is
  clear hb
  have Qp := Q
  replace Q := Lib.hid (Q.out.alloc (.cells #[.int .i64 t, .slice A3 n3 c3, .slice A4 n4 c4] 25))
  replace I1 := Lib.hid (I1.out.alloc (.cells #[.int .i64 t, .slice A3 n3 c3, .slice A4 n4 c4] 25))
  replace I2 := Lib.hid (I2.out.alloc (.cells #[.int .i64 t, .slice A3 n3 c3, .slice A4 n4 c4] 25))
  replace I3 := Lib.hid (I3.out.alloc (.cells #[.int .i64 t, .slice A3 n3 c3, .slice A4 n4 c4] 25))
  replace I4 := Lib.hid (I4.out.alloc (.cells #[.int .i64 t, .slice A3 n3 c3, .slice A4 n4 c4] 25))
  replace B := Lib.hid (B.out.alloc B.out.size (.cells #[.int .i64 t, .slice A3 n3 c3, .slice A4 n4 c4] 25))
  have F := Lib.hid (Blk.new w2 25 #[.int .i64 t, .slice A3 n3 c3, .slice A4 n4 c4])
  obtain ⟨q0, q1, q2⟩ := Qp.out.c3
  have ql := Qp.out.lt
  go_wp2_with (fail)
  refine (spec_GiveCredit_yes t cl s _ I1.out I2.out hok).mono ?_
  clear q0 q1 q2 ql
  rintro e w3 ⟨A5, n5, c5, A6, n6, c6, rfl, ho5, ho6, hd, hb⟩
  replace I1 := Lib.hid (I1.out.below hb (Nat.le_refl _))
  replace I2 := Lib.hid (I2.out.below hb (Nat.le_refl _))
  replace I3 := Lib.hid (I3.out.below hb (Nat.le_refl _))
  replace I4 := Lib.hid (I4.out.below hb (Nat.le_refl _))
  replace Q := Lib.hid (Q.out.on hb)
  replace F := Lib.hid (F.out.on hb)
  replace B := Lib.hid (B.out.trans (hb.mono B.out.size))
  have I5 := Lib.hid ho5.is
  have I6 := Lib.hid ho6.is
  clear hb
  replace Qp := Q
  replace Q := Lib.hid (Q.out.alloc (.cells #[.int .i64 t, .slice A5 n5 c5, .slice A6 n6 c6] 25))
  have Fp := F
  replace F := Lib.hid (F.out.alloc (.cells #[.int .i64 t, .slice A5 n5 c5, .slice A6 n6 c6] 25))
  replace I1 := Lib.hid (I1.out.alloc (.cells #[.int .i64 t, .slice A5 n5 c5, .slice A6 n6 c6] 25))
  replace I2 := Lib.hid (I2.out.alloc (.cells #[.int .i64 t, .slice A5 n5 c5, .slice A6 n6 c6] 25))
  replace I3 := Lib.hid (I3.out.alloc (.cells #[.int .i64 t, .slice A5 n5 c5, .slice A6 n6 c6] 25))
  replace I4 := Lib.hid (I4.out.alloc (.cells #[.int .i64 t, .slice A5 n5 c5, .slice A6 n6 c6] 25))
  replace I5 := Lib.hid (I5.out.alloc (.cells #[.int .i64 t, .slice A5 n5 c5, .slice A6 n6 c6] 25))
  replace I6 := Lib.hid (I6.out.alloc (.cells #[.int .i64 t, .slice A5 n5 c5, .slice A6 n6 c6] 25))
  replace B := Lib.hid (B.out.alloc B.out.size (.cells #[.int .i64 t, .slice A5 n5 c5, .slice A6 n6 c6] 25))
  have G := Lib.hid (Blk.new w3 25 #[.int .i64 t, .slice A5 n5 c5, .slice A6 n6 c6])
  obtain ⟨f0, f1, f2⟩ := Fp.out.c3
  have fl := Fp.out.lt
  go_wp2_with (fail)
  refine (laws_equalBudget_same t _ I3.out I4.out I5.out I6.out).mono ?_
  clear f0 f1 f2 fl
  rintro e w4 ⟨rfl, hb⟩
  replace I1 := Lib.hid (I1.out.below hb (Nat.le_refl _))
  replace I2 := Lib.hid (I2.out.below hb (Nat.le_refl _))
  replace I3 := Lib.hid (I3.out.below hb (Nat.le_refl _))
  replace I4 := Lib.hid (I4.out.below hb (Nat.le_refl _))
  replace I5 := Lib.hid (I5.out.below hb (Nat.le_refl _))
  replace I6 := Lib.hid (I6.out.below hb (Nat.le_refl _))
  replace Q := Lib.hid (Q.out.on hb)
  replace F := Lib.hid (F.out.on hb)
  replace G := Lib.hid (G.out.on hb)
  replace B := Lib.hid (B.out.trans (hb.mono B.out.size))
  have Bz := B.out.size
  clear hb
  obtain ⟨hv, hc, hs0', hs1', hsu, hva⟩ := gc_parts hok
  obtain ⟨us0, hu0⟩ : ∃ v, addL us cl (-s) = v := ⟨_, rfl⟩
  rw [hu0] at hva I4
  have HV := Lib.hid hva
  have HZ0 : Hid (validB t ks (zap us0 0) = true) := Lib.hid (by simpa [zap] using hva)
  replace I4 : Hid (IS _ A4 n4 c4 (zap us0 0)) := Lib.hid (by have := I4.out; simpa [zap] using this)
  clear hok hv hc hva hsu hu0
  obtain ⟨f0, f1, f2⟩ := F.out.c3
  have fl := F.out.lt
  go_wp2_with (fail)
  clear f0 f1 f2 fl
  replace Qp := Q
  replace Q := Lib.hid (Q.out.alloc (.cells #[.int .i64 t, .slice A3 n3 c3, .slice A4 n4 c4] 25))
  replace Fp := F
  replace F := Lib.hid (F.out.alloc (.cells #[.int .i64 t, .slice A3 n3 c3, .slice A4 n4 c4] 25))
  have Gp := G
  replace G := Lib.hid (G.out.alloc (.cells #[.int .i64 t, .slice A3 n3 c3, .slice A4 n4 c4] 25))
  replace I1 := Lib.hid (I1.out.alloc (.cells #[.int .i64 t, .slice A3 n3 c3, .slice A4 n4 c4] 25))
  replace I2 := Lib.hid (I2.out.alloc (.cells #[.int .i64 t, .slice A3 n3 c3, .slice A4 n4 c4] 25))
  replace I3 := Lib.hid (I3.out.alloc (.cells #[.int .i64 t, .slice A3 n3 c3, .slice A4 n4 c4] 25))
  replace I4 := Lib.hid (I4.out.alloc (.cells #[.int .i64 t, .slice A3 n3 c3, .slice A4 n4 c4] 25))
  replace I5 := Lib.hid (I5.out.alloc (.cells #[.int .i64 t, .slice A3 n3 c3, .slice A4 n4 c4] 25))
  replace I6 := Lib.hid (I6.out.alloc (.cells #[.int .i64 t, .slice A3 n3 c3, .slice A4 n4 c4] 25))
  replace B := Lib.hid (B.out.alloc B.out.size (.cells #[.int .i64 t, .slice A3 n3 c3, .slice A4 n4 c4] 25))
  have Bw : Hid (w.heap.size ≤ w4.heap.size) := Lib.hid Bz
  have N := Lib.hid (Blk.new w4 25 #[.int .i64 t, .slice A3 n3 c3, .slice A4 n4 c4])
  
  go_loopw [11] (fun i wr => ∃ (k : Nat) (A5 : Option Addr) (n5 c5 : Nat) (A6 : Option Addr) (n6 c6 : Nat), k ≤ 3 ∧ i = .int .i64 k ∧ Hid (validB t ks (zap us0 k) = true) ∧ Hid (Below w.heap.size w wr ∧ Blk wr w4.heap.size 25 #[.int .i64 t, .slice A5 n5 c5, .slice A6 n6 c6] ∧ IS wr A5 n5 c5 ks ∧ IS wr A6 n6 c6 (zap us0 k))) (fun i _ => 3 - (intOf i).toNat)
  case atStart => exact ⟨0, A3, n3, c3, A4, n4, c4, by omega, rfl, HZ0, Lib.hid ⟨B.out, N.out, I3.out, I4.out⟩⟩
  case round =>
    obtain ⟨k, A5, n5, c5, A6, n6, c6, hk, rfl, HZ, HH⟩ := hrel
    have hw4 : w.heap.size ≤ w4.heap.size := Bw.out
    clear B Q F G N I1 I2 I3 I4 I5 I6
    obtain ⟨bx, nx, i5, i6⟩ := HH.out
    have B := Lib.hid bx
    have N := Lib.hid nx
    have I5 := Lib.hid i5
    have I6 := Lib.hid i6
    have hNl := nx.lt
    clear bx nx i5 i6 HH
    obtain ⟨k0, k1, k2⟩ := N.out.c3
    by_cases hlt : k < 3
    · have hi : (k : Int) < 3 := by omega
      have hi0 : (0 : Int) ≤ (k : Int) := by omega
      obtain rfl : n6 = 3 := I6.out.len ▸ (validB_len HZ.out).2
      obtain ⟨b6, o6, v, rfl, hx6, hcx⟩ := I6.out.at_ hlt
      obtain ⟨z1, z2, z3⟩ := zap_next HV.out HZ.out hlt hx6
      have Z1 := Lib.hid z1
      have Z2 := Lib.hid z2
      have Z3 := Lib.hid z3
      clear hx6 z1 z2 z3
      go_upto_region 12 with (fail)
      go_cut [12, 13] (fun s12 s13 wx => ∃ (g : Nat) (B1 : Option Addr) (m1 e1 : Nat) (B2 : Option Addr) (m2 e2 : Nat), s12 = .pointer (some ⟨g, 0, none⟩) ∧ s13 = .bool true ∧ Hid (CutB 25 3 wr wx g t ks (zap us0 (k + 1)) B1 m1 e1 B2 m2 e2))
      case first =>
        go_region_held3 (fun w' => w'.cell? ⟨w4.heap.size, 0, none⟩ = some (.int .i64 t) ∧ w'.cell? ⟨w4.heap.size, 1, none⟩ = some (.slice A5 n5 c5) ∧ w'.cell? ⟨w4.heap.size, 2, none⟩ = some (.slice (some ⟨b6, o6, none⟩) 3 c6) ∧ w'.cell? ⟨b6, o6 + k, none⟩ = some (.int .i64 v))
          (refine And.intro (cell_up (w := wr) ?_ k0) (And.intro (cell_up (w := wr) ?_ k1) (And.intro (cell_up (w := wr) ?_ k2) (cell_up (w := wr) ?_ hcx))) <;> (repeat' (first | with_reducible exact HW5.out | with_reducible exact Below.refl _ _ | refine Below.drew ?_ | refine Below.alloc ?_ ?_ _ | refine Below.setCell ?_ ?_ _ | omega | (simp; done) | (simp; omega))))
          ((go_at_call 25; go_must (refine (impl_GiveCredit_yes t (k : Int) v _ (I5.out.below (by repeat (first | exact Below.refl _ _ | refine Below.drew ?_ | refine Below.alloc ?_ (by first | omega | (simp; done) | (simp; omega)) _)) (Nat.le_refl _)) (I6.out.below (by repeat (first | exact Below.refl _ _ | refine Below.drew ?_ | refine Below.alloc ?_ (by first | omega | (simp; done) | (simp; omega)) _)) (Nat.le_refl _)) Z1.out).mono ?_; rintro e w5 ⟨B1, m1, e1, B2, m2, e2, rfl, ho3, ho4, hd, hb5⟩; have P1 := Lib.hid ho3; have P2 := Lib.hid (Z2.out ▸ ho4 : OW _ _ _ _ _ _ (zap us0 (k + 1))); have DB := Lib.hid hd; have HW5 := Lib.hid (below_then (a := wr) (by repeat (first | exact Below.refl _ _ | refine Below.drew ?_ | refine Below.alloc ?_ (by first | omega | (simp; done) | (simp; omega)) _)) hb5); have z5 := HW5.out.size; (try (have G5 := Lib.hid ((Blk.new wr 25 #[.int .i64 0, .slice none 0 0, .slice none 0 0]).on hb5))); (try (have G5 := Lib.hid ((Blk.new wr 25 #[.int .i64 0, .slice none 0 0, .slice none 0 0]).drew.on hb5))); (try obtain ⟨g50, g51, g52⟩ := G5.out.c3); (try have g53 := G5.out.frozen 0); (try have g54 := G5.out.frozen 1); (try have g55 := G5.out.frozen 2); clear ho3 ho4 hd hb5)))
        all_goals (go_wp2_with (fail); go_meet)
        all_goals (first
          | exact ⟨_, B1, m1, e1, B2, m2, e2, rfl, rfl, Lib.hid (cut_new (P1.out.base_le (by first | exact Nat.le_refl _ | (simp; done) | (simp; omega))) (P2.out.base_le (by first | exact Nat.le_refl _ | (simp; done) | (simp; omega))) DB.out HW5.out)⟩
          | exact ⟨_, B1, m1, e1, B2, m2, e2, rfl, rfl, Lib.hid (cut_set G5.out (P1.out.base_le (by show wr.heap.size ≤ (wr.alloc _).heap.size; simp)) (P2.out.base_le (by show wr.heap.size ≤ (wr.alloc _).heap.size; simp)) DB.out (box_far (by show wr.heap.size < (wr.alloc _).heap.size; simp) P1.out.ge) (box_far (by show wr.heap.size < (wr.alloc _).heap.size; simp) P2.out.ge) HW5.out (Nat.le_refl _))⟩)
      case rest =>
        obtain ⟨g, B1, m1, e1, B2, m2, e2, rfl, rfl, HC⟩ := hcut
        have bx := HC.out.2.2.2.2.2.2.1
        have F := Lib.hid HC.out.1
        have P1 := Lib.hid HC.out.2.1
        have P2 := Lib.hid HC.out.2.2.1
        have BW := Lib.hid (B.out.trans (bx.mono B.out.size))
        have NW := Lib.hid (N.out.on bx)
        clear bx HC k0 k1 k2 hcx
        obtain ⟨k0, k1, k2⟩ := NW.out.c3
        obtain ⟨f0, f1, f2⟩ := F.out.c3
        have u0 := NW.out.frozen 0
        have u1 := NW.out.frozen 1
        have u2 := NW.out.frozen 2
        go_wp2_with (fail)
        go_roundw
        case rel =>
          refine ⟨k + 1, B1, m1, e1, B2, m2, e2, by omega, by go_num, Z3, Lib.hid ⟨?_, ((NW.out.set_ 0 _).set_ 1 _).set_ 2 _, ?_, ?_⟩⟩
          · exact ((BW.out.setCell hw4 _).setCell hw4 _).setCell hw4 _
          · exact (((P1.out.setCell hNl _).setCell hNl _).setCell hNl _).is
          · exact (((P2.out.setCell hNl _).setCell hNl _).setCell hNl _).is
        case measure => simp [intOf]; omega
    · have ek : k = 3 := by omega
      subst ek
      go_wp2_with (fail)
      refine (call_int (impl_UsedAll_any t _ I5.out I6.out) (zap_end HV.out HZ.out)).mono ?_
      rintro e wx ⟨rfl, hb⟩
      have BX := Lib.hid (B.out.trans (hb.mono B.out.size))
      clear hb
      go_wp2_with (fail)
      go_ret
      exact ⟨ret_bool (by first | rfl | (simp; done) | (simp; omega) | omega), BX.out⟩
end Go.Proofs.Ytkmjonebjobjnaa
