/-
  The walk of FnGiveCredit. (Its words were written by a program of my own.)
-/
import Derived.Test.YtkmjonebjobjnaaDrawG
import Derived.Test.YtkmjonebjobjnaaBudY
import Derived.Lib.QuietBelow
import Derived.Deep.DeepMust
import Derived.IntWalk
namespace Go.Proofs.Ytkmjonebjobjnaa
open Go.RowKit
attribute [local go_sem ↓] Go.wp_at_zero Go.wp_at_succ
-- CALL: W s0
set_option maxHeartbeats 4000000 in
theorem walk_FnGiveCredit {A : Option Addr} {n c : Nat} {zs : List Int} (w : World) (h : BS w A n c zs) :
    Calls Try.prog 8 #[.slice A n c] w fun e w' => e = .returned (.bool true) ∧ Below w.heap.size w w' := by
  have H := Lib.hid h
  clear h
  rcases Nat.lt_or_ge 1048576 n with h1 | h1
  · have h1' : (1048576 : Int) < (n : Int) := by omega
    go_enter Try.func8, Try.ntmps8
    go_wp2_with (fail)
    go_ret
    exact ⟨rfl, Below.refl _ _⟩
  have h1' : ¬ (1048576 : Int) < (n : Int) := by omega
  go_enter Try.func8, Try.ntmps8
  go_wp2_with (fail)
  refine (spec_DrawGiveCredit_any w H.out h1).mono ?_
  rintro e w1 ⟨t, ks, us, A1, n1, c1, A2, n2, c2, cl, s, rfl, hn1, hn2, hcl0, hcl1, hs0, hs1, hI1, hI2, hb⟩
  have B := Lib.hid hb
  have I1 := Lib.hid hI1
  have I2 := Lib.hid hI2
  clear hb hI1 hI2
  replace I1 := Lib.hid (I1.out.alloc (.cells #[.int .i64 t, .slice A1 n1 c1, .slice A2 n2 c2] 25))
  replace I2 := Lib.hid (I2.out.alloc (.cells #[.int .i64 t, .slice A1 n1 c1, .slice A2 n2 c2] 25))
  replace B := Lib.hid (B.out.alloc B.out.size (.cells #[.int .i64 t, .slice A1 n1 c1, .slice A2 n2 c2] 25))
  have Q := Lib.hid (Blk.new w1 25 #[.int .i64 t, .slice A1 n1 c1, .slice A2 n2 c2])
  rcases hok : gcOK t ks us cl s with _ | _
  · skip
    go_wp2_with (fail)
    refine (impl_GiveCredit_no t cl s _ I1.out I2.out hok).mono ?_
    rintro e w2 ⟨A3, n3, c3, A4, n4, c4, rfl, ho3, ho4, hd, hb⟩
    replace I1 := Lib.hid (I1.out.below hb (Nat.le_refl _))
    replace I2 := Lib.hid (I2.out.below hb (Nat.le_refl _))
    replace Q := Lib.hid (Q.out.on hb)
    replace B := Lib.hid (B.out.trans (hb.mono B.out.size))
    have I3 := Lib.hid ho3.is
    have I4 := Lib.hid ho4.is
    clear hb
    have Qp := Q
    replace Q := Lib.hid (Q.out.alloc (.cells #[.int .i64 0, .slice A3 n3 c3, .slice A4 n4 c4] 25))
    replace I1 := Lib.hid (I1.out.alloc (.cells #[.int .i64 0, .slice A3 n3 c3, .slice A4 n4 c4] 25))
    replace I2 := Lib.hid (I2.out.alloc (.cells #[.int .i64 0, .slice A3 n3 c3, .slice A4 n4 c4] 25))
    replace I3 := Lib.hid (I3.out.alloc (.cells #[.int .i64 0, .slice A3 n3 c3, .slice A4 n4 c4] 25))
    replace I4 := Lib.hid (I4.out.alloc (.cells #[.int .i64 0, .slice A3 n3 c3, .slice A4 n4 c4] 25))
    replace B := Lib.hid (B.out.alloc B.out.size (.cells #[.int .i64 0, .slice A3 n3 c3, .slice A4 n4 c4] 25))
    have F := Lib.hid (Blk.new w2 25 #[.int .i64 0, .slice A3 n3 c3, .slice A4 n4 c4])
    obtain ⟨q0, q1, q2⟩ := Qp.out.c3
    have ql := Qp.out.lt
    go_wp2_with (fail)
    refine (spec_GiveCredit_no t cl s _ I1.out I2.out hok).mono ?_
    clear q0 q1 q2 ql
    rintro e w3 ⟨A5, n5, c5, A6, n6, c6, rfl, ho5, ho6, hd, hb⟩
    replace I1 := Lib.hid (I1.out.below hb (Nat.le_refl _))
    replace I2 := Lib.hid (I2.out.below hb (Nat.le_refl _))
    replace I3 := Lib.hid (I3.out.below hb (Nat.le_refl _))
    replace I4 := Lib.hid (I4.out.below hb (Nat.le_refl _))
    replace Q := Lib.hid (Q.out.on hb)
    replace F := Lib.hid (F.out.on hb)
    replace B := Lib.hid (B.out.trans (hb.mono B.out.size))
    have I5 := Lib.hid ho5.is
    have I6 := Lib.hid ho6.is
    clear hb
    replace Qp := Q
    replace Q := Lib.hid (Q.out.alloc (.cells #[.int .i64 0, .slice A5 n5 c5, .slice A6 n6 c6] 25))
    have Fp := F
    replace F := Lib.hid (F.out.alloc (.cells #[.int .i64 0, .slice A5 n5 c5, .slice A6 n6 c6] 25))
    replace I1 := Lib.hid (I1.out.alloc (.cells #[.int .i64 0, .slice A5 n5 c5, .slice A6 n6 c6] 25))
    replace I2 := Lib.hid (I2.out.alloc (.cells #[.int .i64 0, .slice A5 n5 c5, .slice A6 n6 c6] 25))
    replace I3 := Lib.hid (I3.out.alloc (.cells #[.int .i64 0, .slice A5 n5 c5, .slice A6 n6 c6] 25))
    replace I4 := Lib.hid (I4.out.alloc (.cells #[.int .i64 0, .slice A5 n5 c5, .slice A6 n6 c6] 25))
    replace I5 := Lib.hid (I5.out.alloc (.cells #[.int .i64 0, .slice A5 n5 c5, .slice A6 n6 c6] 25))
    replace I6 := Lib.hid (I6.out.alloc (.cells #[.int .i64 0, .slice A5 n5 c5, .slice A6 n6 c6] 25))
    replace B := Lib.hid (B.out.alloc B.out.size (.cells #[.int .i64 0, .slice A5 n5 c5, .slice A6 n6 c6] 25))
    have G := Lib.hid (Blk.new w3 25 #[.int .i64 0, .slice A5 n5 c5, .slice A6 n6 c6])
    obtain ⟨f0, f1, f2⟩ := Fp.out.c3
    have fl := Fp.out.lt
    go_wp2_with (fail)
    refine (laws_equalBudget_same 0 _ I3.out I4.out I5.out I6.out).mono ?_
    clear f0 f1 f2 fl
    rintro e w4 ⟨rfl, hb⟩
    replace I1 := Lib.hid (I1.out.below hb (Nat.le_refl _))
    replace I2 := Lib.hid (I2.out.below hb (Nat.le_refl _))
    replace I3 := Lib.hid (I3.out.below hb (Nat.le_refl _))
    replace I4 := Lib.hid (I4.out.below hb (Nat.le_refl _))
    replace I5 := Lib.hid (I5.out.below hb (Nat.le_refl _))
    replace I6 := Lib.hid (I6.out.below hb (Nat.le_refl _))
    replace Q := Lib.hid (Q.out.on hb)
    replace F := Lib.hid (F.out.on hb)
    replace G := Lib.hid (G.out.on hb)
    replace B := Lib.hid (B.out.trans (hb.mono B.out.size))
    clear hb
    obtain ⟨f0, f1, f2⟩ := F.out.c3
    have fl := F.out.lt
    obtain ⟨g0, g1, g2⟩ := G.out.c3
    have gl := G.out.lt
    go_wp2_with (fail)
    refine (laws_equalBudget_same 0 _ I3.out I4.out I5.out I6.out).mono ?_
    clear f0 f1 f2 fl g0 g1 g2 gl
    rintro e w5 ⟨rfl, hb⟩
    replace I1 := Lib.hid (I1.out.below hb (Nat.le_refl _))
    replace I2 := Lib.hid (I2.out.below hb (Nat.le_refl _))
    replace I3 := Lib.hid (I3.out.below hb (Nat.le_refl _))
    replace I4 := Lib.hid (I4.out.below hb (Nat.le_refl _))
    replace I5 := Lib.hid (I5.out.below hb (Nat.le_refl _))
    replace I6 := Lib.hid (I6.out.below hb (Nat.le_refl _))
    replace Q := Lib.hid (Q.out.on hb)
    replace F := Lib.hid (F.out.on hb)
    replace G := Lib.hid (G.out.on hb)
    replace B := Lib.hid (B.out.trans (hb.mono B.out.size))
    clear hb
    go_wp2_with (fail)
    go_ret
    exact ⟨ret_bool (by first | rfl | (simp; done) | (simp; omega) | omega), B.out⟩
  go_wp2_with (fail)
  refine (impl_GiveCredit_yes t cl s _ I1.out I2.out hok).mono ?_
  rintro e w2 ⟨A3, n3, c3, A4, n4, c4, rfl, ho3, ho4, hd, hb⟩
  replace I1 := Lib.hid (I1.out.below hb (Nat.le_refl _))
  replace I2 := Lib.hid (I2.out.below hb (Nat.le_refl _))
  replace Q := Lib.hid (Q.out.on hb)
  replace B := Lib.hid (B.out.trans (hb.mono B.out.size))
  have I3 := Lib.hid ho3.is
  have I4 := Lib.hid ho4.is
  clear hb
  have Qp := Q
  replace Q := Lib.hid (Q.out.alloc (.cells #[.int .i64 t, .slice A3 n3 c3, .slice A4 n4 c4] 25))
  replace I1 := Lib.hid (I1.out.alloc (.cells #[.int .i64 t, .slice A3 n3 c3, .slice A4 n4 c4] 25))
  replace I2 := Lib.hid (I2.out.alloc (.cells #[.int .i64 t, .slice A3 n3 c3, .slice A4 n4 c4] 25))
  replace I3 := Lib.hid (I3.out.alloc (.cells #[.int .i64 t, .slice A3 n3 c3, .slice A4 n4 c4] 25))
  replace I4 := Lib.hid (I4.out.alloc (.cells #[.int .i64 t, .slice A3 n3 c3, .slice A4 n4 c4] 25))
  replace B := Lib.hid (B.out.alloc B.out.size (.cells #[.int .i64 t, .slice A3 n3 c3, .slice A4 n4 c4] 25))
  have F := Lib.hid (Blk.new w2 25 #[.int .i64 t, .slice A3 n3 c3, .slice A4 n4 c4])
  obtain ⟨q0, q1, q2⟩ := Qp.out.c3
  have ql := Qp.out.lt
  go_wp2_with (fail)
  refine (spec_GiveCredit_yes t cl s _ I1.out I2.out hok).mono ?_
  clear q0 q1 q2 ql
  rintro e w3 ⟨A5, n5, c5, A6, n6, c6, rfl, ho5, ho6, hd, hb⟩
  replace I1 := Lib.hid (I1.out.below hb (Nat.le_refl _))
  replace I2 := Lib.hid (I2.out.below hb (Nat.le_refl _))
  replace I3 := Lib.hid (I3.out.below hb (Nat.le_refl _))
  replace I4 := Lib.hid (I4.out.below hb (Nat.le_refl _))
  replace Q := Lib.hid (Q.out.on hb)
  replace F := Lib.hid (F.out.on hb)
  replace B := Lib.hid (B.out.trans (hb.mono B.out.size))
  have I5 := Lib.hid ho5.is
  have I6 := Lib.hid ho6.is
  clear hb
  replace Qp := Q
  replace Q := Lib.hid (Q.out.alloc (.cells #[.int .i64 t, .slice A5 n5 c5, .slice A6 n6 c6] 25))
  have Fp := F
  replace F := Lib.hid (F.out.alloc (.cells #[.int .i64 t, .slice A5 n5 c5, .slice A6 n6 c6] 25))
  replace I1 := Lib.hid (I1.out.alloc (.cells #[.int .i64 t, .slice A5 n5 c5, .slice A6 n6 c6] 25))
  replace I2 := Lib.hid (I2.out.alloc (.cells #[.int .i64 t, .slice A5 n5 c5, .slice A6 n6 c6] 25))
  replace I3 := Lib.hid (I3.out.alloc (.cells #[.int .i64 t, .slice A5 n5 c5, .slice A6 n6 c6] 25))
  replace I4 := Lib.hid (I4.out.alloc (.cells #[.int .i64 t, .slice A5 n5 c5, .slice A6 n6 c6] 25))
  replace I5 := Lib.hid (I5.out.alloc (.cells #[.int .i64 t, .slice A5 n5 c5, .slice A6 n6 c6] 25))
  replace I6 := Lib.hid (I6.out.alloc (.cells #[.int .i64 t, .slice A5 n5 c5, .slice A6 n6 c6] 25))
  replace B := Lib.hid (B.out.alloc B.out.size (.cells #[.int .i64 t, .slice A5 n5 c5, .slice A6 n6 c6] 25))
  have G := Lib.hid (Blk.new w3 25 #[.int .i64 t, .slice A5 n5 c5, .slice A6 n6 c6])
  obtain ⟨f0, f1, f2⟩ := Fp.out.c3
  have fl := Fp.out.lt
  go_wp2_with (fail)
  refine (laws_equalBudget_same t _ I3.out I4.out I5.out I6.out).mono ?_
  clear f0 f1 f2 fl
  rintro e w4 ⟨rfl, hb⟩
  replace I1 := Lib.hid (I1.out.below hb (Nat.le_refl _))
  replace I2 := Lib.hid (I2.out.below hb (Nat.le_refl _))
  replace I3 := Lib.hid (I3.out.below hb (Nat.le_refl _))
  replace I4 := Lib.hid (I4.out.below hb (Nat.le_refl _))
  replace I5 := Lib.hid (I5.out.below hb (Nat.le_refl _))
  replace I6 := Lib.hid (I6.out.below hb (Nat.le_refl _))
  replace Q := Lib.hid (Q.out.on hb)
  replace F := Lib.hid (F.out.on hb)
  replace G := Lib.hid (G.out.on hb)
  replace B := Lib.hid (B.out.trans (hb.mono B.out.size))
  clear hb
  obtain ⟨hv, hc, hs0', hs1', hsu, hva⟩ := gc_parts hok
  obtain ⟨hc0, hc1⟩ := inR_iff.1 hc
  obtain ⟨j, rfl⟩ := Int.eq_ofNat_of_zero_le hc0
  have hj : j < 3 := by omega
  have RM := Lib.hid (gc_room hok)
  have HVA := Lib.hid hva
  have HV := Lib.hid hv
  have GD := Lib.hid (getD_addL (s := -s) hv hc)
  obtain ⟨u, hu1, hu2, hu3, hu4⟩ := cnt_at (validB_iff.1 hv).2.2.1 hj
  have HU1 := Lib.hid hu1
  have HU2 := Lib.hid hu2
  obtain rfl : n2 = 3 := by have := (validB_len hv).2; have := I2.out.len; omega
  obtain rfl : n4 = 3 := by have := (validB_len hva).2; have := I4.out.len; omega
  clear hok hv hc hva hu1 hu2 hsu
  go_wp2_with (fail)
  go_loopw [10] (fun i wr => ∃ k : Nat, k ≤ 3 ∧ i = .int .i64 k ∧ Hid (Below w.heap.size w wr ∧ Blk wr w1.heap.size 25 #[.int .i64 t, .slice A1 n1 c1, .slice A2 3 c2] ∧ Blk wr w2.heap.size 25 #[.int .i64 t, .slice A3 n3 c3, .slice A4 3 c4] ∧ IS wr A1 n1 c1 ks ∧ IS wr A2 3 c2 us ∧ IS wr A3 n3 c3 ks ∧ IS wr A4 3 c4 (addL us (j : Int) (-s)))) (fun i _ => 3 - (intOf i).toNat)
  case atStart => exact ⟨0, by omega, rfl, Lib.hid ⟨B.out, Q.out, F.out, I1.out, I2.out, I3.out, I4.out⟩⟩
  case round =>
    obtain ⟨k, hk, rfl, HH⟩ := hrel
    clear B Q F G I1 I2 I3 I4 I5 I6
    obtain ⟨bx, qx, fx, i1, i2, i3, i4⟩ := HH.out
    have B := Lib.hid bx
    have Q := Lib.hid qx
    have F := Lib.hid fx
    have I1 := Lib.hid i1
    have I2 := Lib.hid i2
    have I3 := Lib.hid i3
    have I4 := Lib.hid i4
    clear bx qx fx i1 i2 i3 i4 HH
    obtain ⟨q0, q1, q2⟩ := Q.out.c3
    obtain ⟨f0, f1, f2⟩ := F.out.c3
    by_cases hlt : k < 3
    · have hi : (k : Int) < 3 := by omega
      have hck : inR (k : Int) 0 2 = true := inR_t (by omega) (by omega)
      obtain ⟨ra, hra⟩ : ∃ R, roomL t ks (addL us (j : Int) (-s)) (k : Int) = R := ⟨_, rfl⟩
      obtain ⟨rb, hrb⟩ : ∃ R, roomL t ks us (k : Int) = R := ⟨_, rfl⟩
      obtain ⟨d0, d1, d2⟩ := RM.out (k : Int) hck
      obtain ⟨ba0, ba1⟩ := roomL_bd HVA.out hck
      obtain ⟨bb0, bb1⟩ := roomL_bd HV.out hck
      rw [hra] at d0 d1 d2 ba0 ba1
      rw [hrb] at d0 d1 d2 bb0 bb1
      have V1 := Lib.hid (fun (d : Nat) (os : Array Obj) => call_int (impl_RoomFor_any t (k : Int) (Go.Sort.grow (redrawn wr d) os) (I3.out.regrown d os) (I4.out.regrown d os)) ((roomV_t HVA.out hck).trans hra))
      have V2 := Lib.hid (fun (d : Nat) (os : Array Obj) => call_int (impl_RoomFor_any t (k : Int) (Go.Sort.grow (redrawn wr d) os) (I1.out.regrown d os) (I2.out.regrown d os)) ((roomV_t HV.out hck).trans hrb))
      have qq0 := fun d os => cell_regrown q0 d os
      have qq1 := fun d os => cell_regrown q1 d os
      have qq2 := fun d os => cell_regrown q2 d os
      have qf0 := fun d os => cell_regrown f0 d os
      have qf1 := fun d os => cell_regrown f1 d os
      have qf2 := fun d os => cell_regrown f2 d os
      have hw1 : IntKind.i64.wrap (ra - rb) = ra - rb := IntWalk.i64_in _ (by omega)
      have D2 := Lib.hid d2
      clear hra hrb hck d2 q0 q1 q2 f0 f1 f2
      go_wp2_with (fail)
      refine wp_region_quiet_below (by kernel_rfl) (by kernel_rfl) ?_
      repeat (first | go_big_quiet_step ((first | (go_at_call 19; with_reducible exact Calls.regrown_of (V1.out _ _)) | (go_at_call 19; with_reducible exact Calls.regrown_of (V2.out _ _)))) | quiet_step ((first | (go_at_call 19; with_reducible exact Calls.regrown_of (V1.out _ _)) | (go_at_call 19; with_reducible exact Calls.regrown_of (V2.out _ _)))))
      refine wpQuiet_nil ?_
      intro wq hw'
      have hb : Below wr.heap.size wr wq := by obtain ⟨p, rfl⟩ := hw'; exact below_regrown _ _ _
      have NX := Lib.hid (And.intro (B.out.trans (hb.mono B.out.size)) (And.intro (Q.out.on hb) (And.intro (F.out.on hb) (And.intro (I1.out.below hb (Nat.le_refl _)) (And.intro (I2.out.below hb (Nat.le_refl _)) (And.intro (I3.out.below hb (Nat.le_refl _)) (I4.out.below hb (Nat.le_refl _))))))))
      clear hw' hb hw1 V1 V2 qq0 qq1 qq2 qf0 qf1 qf2
      obtain ⟨dd, hdd⟩ : ∃ v, ra - rb = v := ⟨_, rfl⟩
      have D2 := Lib.hid (fun e => (hdd.symm.trans (D2.out e)))
      have g0 : 0 ≤ dd := by omega
      have g1 : dd ≤ s := by omega
      rw [hdd]
      clear hdd d0 d1
      have e1 : decide (dd < 0) = false := decide_eq_false (by omega)
      have e2 : decide (s < dd) = false := decide_eq_false (by omega)
      by_cases hkj : k = j
      · subst hkj
        have e3 : ((k : Int) == (k : Int)) = true := by simp
        have e4 : (dd != s) = false := by simp; exact D2.out rfl
        go_wp2_with (fail)
        go_roundw
        case rel => exact ⟨k + 1, by omega, by go_num, NX⟩
        case measure => simp [intOf]; omega
      · have e3 : ((k : Int) == (j : Int)) = false := by simp; omega
        go_wp2_with (fail)
        go_roundw
        case rel => exact ⟨k + 1, by omega, by go_num, NX⟩
        case measure => simp [intOf]; omega
    · have ek : k = 3 := by omega
      subst ek
      obtain ⟨b2, o2, x2, rfl, hx2, hcx2⟩ := I2.out.at_ hj
      obtain ⟨b4, o4, x4, rfl, hx4, hcx4⟩ := I4.out.at_ hj
      obtain rfl : u = x2 := by have := HU1.out; rw [this] at hx2; injection hx2
      obtain rfl : u - s = x4 := by
        have h1 := GD.out
        have h3 := HU2.out
        rw [Int.toNat_natCast, h3, List.getD_eq_getElem?_getD, hx4] at h1
        simp at h1
        omega
      clear hx2 hx4
      have V1 := Lib.hid (fun (d : Nat) (os : Array Obj) => call_b (impl_ValidBudget_any t (Go.Sort.grow (redrawn wr d) os) (I3.out.regrown d os) (I4.out.regrown d os)) HVA.out)
      have qq0 := fun d os => cell_regrown q0 d os
      have qq1 := fun d os => cell_regrown q1 d os
      have qq2 := fun d os => cell_regrown q2 d os
      have qf0 := fun d os => cell_regrown f0 d os
      have qf1 := fun d os => cell_regrown f1 d os
      have qf2 := fun d os => cell_regrown f2 d os
      have qx2 := fun d os => cell_regrown hcx2 d os
      have qx4 := fun d os => cell_regrown hcx4 d os
      have hj1 : (j : Int) < 3 := by omega
      have he : (u - s == u - s) = true := by simp
      have hw1 : IntKind.i64.wrap (u - s) = u - s := IntWalk.i64_in _ (by omega)
      clear q0 q1 q2 f0 f1 f2 hcx2 hcx4
      go_wp2_with (fail)
      refine wp_region_quiet_below (by kernel_rfl) (by kernel_rfl) ?_
      repeat (first | go_big_quiet_step ((go_at_call 15; with_reducible exact Calls.regrown_of (V1.out _ _))) | quiet_step ((go_at_call 15; with_reducible exact Calls.regrown_of (V1.out _ _))))
      refine wpQuiet_nil ?_
      intro wq hw'
      have hb : Below wr.heap.size wr wq := by obtain ⟨p, rfl⟩ := hw'; exact below_regrown _ _ _
      have BQ := Lib.hid (B.out.trans (hb.mono B.out.size))
      clear hw' hb
      go_wp2_with (fail)
      go_ret
      exact ⟨ret_bool (by first | rfl | (simp; done) | (simp; omega) | omega), BQ.out⟩
end Go.Proofs.Ytkmjonebjobjnaa
