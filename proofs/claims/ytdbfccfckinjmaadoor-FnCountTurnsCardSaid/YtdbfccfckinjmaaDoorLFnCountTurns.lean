/-
  The walk of FnCountTurns. (Its words were written by a program of my own.)
-/
import Derived.Test.YtdbfccfckinjmaaDoorDrawMk
import Derived.Test.YtdbfccfckinjmaaDoorHp
import Derived.Test.YtdbfccfckinjmaaDoorMkN
import Derived.Deep.RegionHeld3
import Derived.Deep.DeepMust
import Derived.Deep.DeepCutAuto
namespace Go.Proofs.YtdbfccfckinjmaaDoor
open Go.RowKit
-- CALL: W s0 wa0
set_option maxHeartbeats 1600000 in
theorem walk_FnCountTurns {A : Option Addr} {n c' : Nat} {zs : List Int} (w : World) (h : BS w A n c' zs) (ha : HA w) :
    Calls Tryd.prog 12 #[.slice A n c'] w fun e w' => e = .returned (.bool true) ∧ Below w.heap.size w w' := by
  have H := Lib.hid h
  have T0 := Lib.hid ha
  clear h ha
  rcases Nat.lt_or_ge 1048576 n with h1 | h1
  · have h1' : (1048576 : Int) < (n : Int) := by omega
    go_enter Tryd.func12, Tryd.ntmps12
    go_wp2_with (fail)
    go_ret
    exact ⟨rfl, Below.refl _ _⟩
  have h1' : ¬ (1048576 : Int) < (n : Int) := by omega
  go_enter Tryd.func12, Tryd.ntmps12
  go_wp2_with (fail)
  refine (spec_DrawCountTurns_any w H.out h1).mono ?_
  rintro e w1 ⟨a, b, c, d, xs, A1, n1, k1, rfl, ⟨a0, a1⟩, ⟨b0, b1⟩, ⟨c0, c1⟩, ⟨d0, d1⟩, hn14, i1, g1, hb⟩
  have T := Lib.hid i1
  have B1 := Lib.hid hb
  have hz1 := B1.out.size
  clear hb i1
  clear g1
  have HXL := Lib.hid T.out.len
  have hcap1 := T.out.cap
  replace T := Lib.hid (T.out.alloc (.cells #[.int .i64 a, .int .i64 b, .int .i64 c, .int .i64 d] 25))
  replace B1 := Lib.hid (B1.out.alloc B1.out.size (.cells #[.int .i64 a, .int .i64 b, .int .i64 c, .int .i64 d] 25))
  have Q := Lib.hid (Blk.new w1 25 #[.int .i64 a, .int .i64 b, .int .i64 c, .int .i64 d])
  obtain ⟨v, hv⟩ : ∃ v, ctV a b c d xs = v := ⟨_, rfl⟩
  have HV := Lib.hid hv
  clear hv
  by_cases h0 : v < 0
  · skip
    obtain ⟨q0, q1, q2, q3⟩ := Q.out.c4
    go_wp2_with (fail)
    refine (call_int (impl_CountTurns_any a b c d _ T.out (T0.out.below B1.out (Nat.le_refl _))) HV.out).mono ?_
    clear q0 q1 q2 q3
    rintro e w2 ⟨rfl, hb⟩
    replace T := Lib.hid (T.out.below hb (Nat.le_refl _))
    replace Q := Lib.hid (Q.out.on hb)
    replace B1 := Lib.hid (B1.out.trans (hb.mono B1.out.size))
    clear hb
    obtain ⟨q0, q1, q2, q3⟩ := Q.out.c4
    go_wp2_with (fail)
    refine (call_int (spec_CountTurns_any a b c d _ T.out) HV.out).mono ?_
    clear q0 q1 q2 q3
    rintro e w3 ⟨rfl, hb⟩
    replace T := Lib.hid (T.out.below hb (Nat.le_refl _))
    replace Q := Lib.hid (Q.out.on hb)
    replace B1 := Lib.hid (B1.out.trans (hb.mono B1.out.size))
    clear hb
    obtain ⟨q0, q1, q2, q3⟩ := Q.out.c4
    go_wp2_with (fail)
    refine (call_int (spec_CountTurns_any a b c d _ T.out) HV.out).mono ?_
    clear q0 q1 q2 q3
    rintro e w4 ⟨rfl, hb⟩
    replace T := Lib.hid (T.out.below hb (Nat.le_refl _))
    replace Q := Lib.hid (Q.out.on hb)
    replace B1 := Lib.hid (B1.out.trans (hb.mono B1.out.size))
    clear hb
    go_wp2_with (fail)
    go_ret
    exact ⟨ret_bool (by first | rfl | (simp; done) | (simp; omega)), B1.out⟩
  have h0n : ¬ v < 0 := h0
  clear h0
  have HP : Hid (hpOK a b c d xs = true) := Lib.hid (by
    rcases h : hpOK a b c d xs with _ | _
    · have := HV.out; simp [ctV, h] at this; omega
    · rfl)
  have h12 : n1 ≤ 12 := by have h1 := (hpOK_in HP.out).2.1; have h2 := HXL.out; omega
  have HVN : Hid (ctN a b c d xs n1 = v) := Lib.hid (by have h := HV.out; simp only [ctV, HP.out, if_true, HXL.out] at h; exact h)
  have hvn : v ≤ (n1 : Int) := by have h := ctN_bd a b c d xs n1; rw [HVN.out] at h; exact h.2
  obtain ⟨q0, q1, q2, q3⟩ := Q.out.c4
  go_wp2_with (fail)
  refine (call_int (impl_CountTurns_any a b c d _ T.out (T0.out.below B1.out (Nat.le_refl _))) HV.out).mono ?_
  clear q0 q1 q2 q3
  rintro e w2 ⟨rfl, hb⟩
  replace T := Lib.hid (T.out.below hb (Nat.le_refl _))
  replace Q := Lib.hid (Q.out.on hb)
  replace B1 := Lib.hid (B1.out.trans (hb.mono B1.out.size))
  clear hb
  obtain ⟨q0, q1, q2, q3⟩ := Q.out.c4
  go_wp2_with (fail)
  refine (call_int (spec_CountTurns_any a b c d _ T.out) HV.out).mono ?_
  clear q0 q1 q2 q3
  rintro e w3 ⟨rfl, hb⟩
  replace T := Lib.hid (T.out.below hb (Nat.le_refl _))
  replace Q := Lib.hid (Q.out.on hb)
  replace B1 := Lib.hid (B1.out.trans (hb.mono B1.out.size))
  clear hb
  have HLW : Hid (lowB b xs n1 = (v == 0)) := Lib.hid (by
    obtain ⟨i1, i2⟩ := ct_low (hpOK_in HP.out).1 n1 (by rw [HXL.out]; exact Nat.le_refl _)
    rw [HVN.out] at i1 i2
    rw [Bool.eq_iff_iff]
    simp only [beq_iff_eq]
    exact ⟨fun h => (i1 h).2, fun h => (i2 h).1⟩)
  have Qw := Q
  obtain ⟨q0, q1, q2, q3⟩ := Qw.out.c4
  go_wp2_with (fail)
  go_loopw [6, 7] (fun l i wr => ∃ (k mm : Nat) (L : Bool), k ≤ n1 ∧ i = .int .i64 (k : Int) ∧ l = .bool L ∧ wr = w3.drewN mm ∧ Hid (lowB b xs k = L)) (fun _ i _ => n1 - (intOf i).toNat)
  case atStart => exact ⟨0, 0, true, Nat.zero_le _, rfl, rfl, rfl, Lib.hid rfl⟩
  case round =>
    obtain ⟨k, mm, L, hk, rfl, rfl, rfl, hL⟩ := hrel
    by_cases hlt : k < n1
    · have hlt' : (k : Int) < (n1 : Int) := by omega
      have hcr := T.out.at_ hlt
      obtain ⟨g, off, x, rfl, hx, hc⟩ := hcr
      have hl := lowB_succ (b := b) hx
      have HS := Lib.hid hl
      have s0 : (0 : Int) ≤ (k : Int) := by omega
      clear hx hl
      rcases L with _ | _
      · go_wp2_with (fail)
        go_quiet (fail)
        go_wp2_with (fail)
        go_roundw
        case rel => exact ⟨k + 1, _, false, by omega, by first | rfl | go_num, by first | rfl | go_num, by first | rfl | exact World.drewN_drewN _ _ _, Lib.hid (by rw [HS.out, hL.out]; rfl)⟩
        case measure => simp [intOf]; omega
      · obtain ⟨B, hB⟩ : ∃ B, decide (x < b) = B := ⟨_, rfl⟩
        have HB := Lib.hid hB
        go_wp2_with (fail)
        go_quiet (fail)
        go_wp2_with (fail)
        go_roundw
        case rel => exact ⟨k + 1, _, B, by omega, by first | rfl | go_num, by first | rfl | (simp [hB]; done) | go_num, by first | rfl | exact World.drewN_drewN _ _ _, Lib.hid (by rw [HS.out, hL.out, HB.out]; rfl)⟩
        case measure => simp [intOf]; omega
    · have hlt' : ¬ (k : Int) < (n1 : Int) := by omega
      obtain rfl : k = n1 := by omega
      have hLv : L = (v == 0) := by rw [← hL.out, HLW.out]
      subst hLv
      have hvn' : decide (v ≤ (k : Int)) = true := by simp; omega
      go_wp2_with (fail)
      go_ret
      exact ⟨ret_bool (by first | rfl | (simp; done)), by first | exact B1.out | exact below_drewN B1.out _⟩
end Go.Proofs.YtdbfccfckinjmaaDoor
