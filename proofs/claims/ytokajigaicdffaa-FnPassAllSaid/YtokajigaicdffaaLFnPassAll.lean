/-
  The walk of FnPassAll. (Its words were written by a program of my own.)
-/
import Derived.Test.YtokajigaicdffaaDrawPa
import Derived.Test.YtokajigaicdffaaBkP
import Derived.Test.YtokajigaicdffaaBkN
import Derived.Deep.RegionHeld3
import Derived.Deep.DeepMust
import Derived.Deep.DeepCutAuto
namespace Go.Proofs.Ytokajigaicdffaa
open Go.RowKit
-- CALL: W s0
set_option maxHeartbeats 1600000 in
theorem walk_FnPassAll {A : Option Addr} {n c : Nat} {zs : List Int} (w : World) (h : BS w A n c zs) :
    Calls Try.prog 3 #[.slice A n c] w fun e w' => e = .returned (.bool true) ∧ Below w.heap.size w w' := by
  have H := Lib.hid h
  clear h
  rcases Nat.lt_or_ge 1048576 n with h1 | h1
  · have h1' : (1048576 : Int) < (n : Int) := by omega
    go_enter Try.func3, Try.ntmps3
    go_wp2_with (fail)
    go_ret
    exact ⟨rfl, Below.refl _ _⟩
  have h1' : ¬ (1048576 : Int) < (n : Int) := by omega
  go_enter Try.func3, Try.ntmps3
  go_wp2_with (fail)
  refine (spec_DrawPassAll_any w H.out h1).mono ?_
  rintro e w1 ⟨s, p, l, t, xs, ys, A1, n1, k1, A4, n4, k4, rfl, ⟨hs0, hs1⟩, ⟨hp0, hp1⟩, ⟨hl0, hl1⟩, ⟨ht0, ht1⟩, hn1, hn4, i1, i4, hb⟩
  have T := Lib.hid i1
  have U := Lib.hid i4
  have B1 := Lib.hid hb
  have hz1 := B1.out.size
  clear hb i1 i4
  have HXL := Lib.hid T.out.len
  have HYL := Lib.hid U.out.len
  have hcap1 := T.out.cap
  have hcap4 := U.out.cap
  replace T := Lib.hid (T.out.alloc (.cells #[.int .i64 s, .int .i64 p, .int .i64 l, .int .i64 t] 24))
  replace U := Lib.hid (U.out.alloc (.cells #[.int .i64 s, .int .i64 p, .int .i64 l, .int .i64 t] 24))
  replace B1 := Lib.hid (B1.out.alloc B1.out.size (.cells #[.int .i64 s, .int .i64 p, .int .i64 l, .int .i64 t] 24))
  have Q := Lib.hid (Blk.new w1 24 #[.int .i64 s, .int .i64 p, .int .i64 l, .int .i64 t])
  obtain ⟨os, hos⟩ : ∃ os, paL s p l t xs ys = os := ⟨_, rfl⟩
  have HOS := Lib.hid hos
  clear hos
  obtain ⟨q0, q1, q2, q3⟩ := Q.out.c4
  go_wp2_with (fail)
  refine (impl_PassAll_any s p l t _ T.out U.out).mono ?_
  clear q0 q1 q2 q3
  rintro e w2 ⟨A2, n2, k2, rfl, ho, hb⟩
  rw [HOS.out] at ho
  have hoi := ho.is
  have HL := Lib.hid ho.len
  clear ho
  replace T := Lib.hid (T.out.below hb (Nat.le_refl _))
  replace U := Lib.hid (U.out.below hb (Nat.le_refl _))
  replace Q := Lib.hid (Q.out.on hb)
  replace B1 := Lib.hid (B1.out.trans (hb.mono B1.out.size))
  clear hb
  have I := Lib.hid hoi
  clear hoi
  have hcap2 := I.out.cap
  rcases Nat.lt_or_ge n2 1 with hs | hs
  · skip
    have hg : ((n2 : Int) == 0) = true := by simp; omega
    obtain ⟨q0, q1, q2, q3⟩ := Q.out.c4
    go_wp2_with (fail)
    refine (spec_PassAll_any s p l t _ T.out U.out).mono ?_
    clear q0 q1 q2 q3
    rintro e w3 ⟨A3, n3, k3, rfl, ho, hb⟩
    rw [HOS.out] at ho
    have hoi := ho.is
    clear ho
    replace T := Lib.hid (T.out.below hb (Nat.le_refl _))
    replace U := Lib.hid (U.out.below hb (Nat.le_refl _))
    replace I := Lib.hid (I.out.below hb (Nat.le_refl _))
    replace Q := Lib.hid (Q.out.on hb)
    replace B1 := Lib.hid (B1.out.trans (hb.mono B1.out.size))
    clear hb
    have K := Lib.hid hoi
    clear hoi
    go_wp2_with (fail)
    refine (call_b (laws_equalInts_any _ I.out K.out) (decide_eq_true rfl)).mono ?_
    rintro e w4 ⟨rfl, mm, h4⟩
    replace T := Lib.hid (show IS w4 A1 n1 k1 xs by rw [h4]; exact T.out.drewN mm)
    replace U := Lib.hid (show IS w4 A4 n4 k4 ys by rw [h4]; exact U.out.drewN mm)
    replace I := Lib.hid (show IS w4 A2 n2 k2 os by rw [h4]; exact I.out.drewN mm)
    replace K := Lib.hid (show IS w4 A3 n3 k3 os by rw [h4]; exact K.out.drewN mm)
    replace Q := Lib.hid (show Blk w4 (w1.heap.size) 24 #[.int .i64 s, .int .i64 p, .int .i64 l, .int .i64 t] by rw [h4]; exact Q.out)
    replace B1 := Lib.hid (show Below w.heap.size w w4 by rw [h4]; exact below_drewN B1.out mm)
    clear h4
    clear K
    obtain ⟨q0, q1, q2, q3⟩ := Q.out.c4
    go_wp2_with (fail)
    refine (spec_PassAll_any s p l t _ T.out U.out).mono ?_
    clear q0 q1 q2 q3
    rintro e w5 ⟨A3, n3, k3, rfl, ho, hb⟩
    rw [HOS.out] at ho
    have hoi := ho.is
    clear ho
    replace T := Lib.hid (T.out.below hb (Nat.le_refl _))
    replace U := Lib.hid (U.out.below hb (Nat.le_refl _))
    replace I := Lib.hid (I.out.below hb (Nat.le_refl _))
    replace Q := Lib.hid (Q.out.on hb)
    replace B1 := Lib.hid (B1.out.trans (hb.mono B1.out.size))
    clear hb
    have K := Lib.hid hoi
    clear hoi
    go_wp2_with (fail)
    refine (call_b (laws_equalInts_any _ I.out K.out) (decide_eq_true rfl)).mono ?_
    rintro e w6 ⟨rfl, mm, h4⟩
    replace T := Lib.hid (show IS w6 A1 n1 k1 xs by rw [h4]; exact T.out.drewN mm)
    replace U := Lib.hid (show IS w6 A4 n4 k4 ys by rw [h4]; exact U.out.drewN mm)
    replace I := Lib.hid (show IS w6 A2 n2 k2 os by rw [h4]; exact I.out.drewN mm)
    replace K := Lib.hid (show IS w6 A3 n3 k3 os by rw [h4]; exact K.out.drewN mm)
    replace Q := Lib.hid (show Blk w6 (w1.heap.size) 24 #[.int .i64 s, .int .i64 p, .int .i64 l, .int .i64 t] by rw [h4]; exact Q.out)
    replace B1 := Lib.hid (show Below w.heap.size w w6 by rw [h4]; exact below_drewN B1.out mm)
    clear h4
    clear K
    go_wp2_with (fail)
    go_ret
    exact ⟨ret_bool (by first | rfl | (simp; done) | (simp; omega)), B1.out⟩
  have hg : ((n2 : Int) == 0) = false := by simp; omega
  have HP : Hid (paOK s p l t xs ys = true) := Lib.hid (by
    rcases h : paOK s p l t xs ys with _ | _
    · have h1 := HL.out; rw [← HOS.out, paL_f h] at h1; simp at h1; omega
    · rfl)
  have hnn : n2 = n1 := by have h1 := HL.out; rw [← HOS.out, paL_t HP.out, paN_len] at h1; have h2 := HXL.out; omega
  have hnm : n4 = n1 := by have h1 := (paOK_in HP.out).2.1; have h2 := HXL.out; have h3 := HYL.out; omega
  have h12 : n1 ≤ 12 := by have h1 := (paOK_in HP.out).2.2.1; have h2 := HXL.out; omega
  subst hnn
  subst hnm
  have HON : Hid (os = paN s p l t xs ys n4) := Lib.hid (by rw [← HOS.out, paL_t HP.out, HXL.out])
  obtain ⟨q0, q1, q2, q3⟩ := Q.out.c4
  go_wp2_with (fail)
  refine (spec_PassAll_any s p l t _ T.out U.out).mono ?_
  clear q0 q1 q2 q3
  rintro e w3 ⟨A3, n3, k3, rfl, ho, hb⟩
  rw [HOS.out] at ho
  have hoi := ho.is
  clear ho
  replace T := Lib.hid (T.out.below hb (Nat.le_refl _))
  replace U := Lib.hid (U.out.below hb (Nat.le_refl _))
  replace I := Lib.hid (I.out.below hb (Nat.le_refl _))
  replace Q := Lib.hid (Q.out.on hb)
  replace B1 := Lib.hid (B1.out.trans (hb.mono B1.out.size))
  clear hb
  have K := Lib.hid hoi
  clear hoi
  go_wp2_with (fail)
  refine (call_b (laws_equalInts_any _ I.out K.out) (decide_eq_true rfl)).mono ?_
  rintro e w4 ⟨rfl, mm, h4⟩
  replace T := Lib.hid (show IS w4 A1 n4 k1 xs by rw [h4]; exact T.out.drewN mm)
  replace U := Lib.hid (show IS w4 A4 n4 k4 ys by rw [h4]; exact U.out.drewN mm)
  replace I := Lib.hid (show IS w4 A2 n4 k2 os by rw [h4]; exact I.out.drewN mm)
  replace K := Lib.hid (show IS w4 A3 n3 k3 os by rw [h4]; exact K.out.drewN mm)
  replace Q := Lib.hid (show Blk w4 (w1.heap.size) 24 #[.int .i64 s, .int .i64 p, .int .i64 l, .int .i64 t] by rw [h4]; exact Q.out)
  replace B1 := Lib.hid (show Below w.heap.size w w4 by rw [h4]; exact below_drewN B1.out mm)
  clear h4
  clear K
  have hbk := bkV_in (paOK_in HP.out).1
  have Qw := Q
  obtain ⟨q0, q1, q2, q3⟩ := Qw.out.c4
  have ql := Qw.out.lt
  go_wp2_with (fail)
  go_loopw [7, 8] (fun a i wr => ∃ (k mm : Nat) (S : Int), k ≤ n4 ∧ 0 ≤ S ∧ S ≤ 20 * (k : Int) ∧ i = .int .i64 (k : Int) ∧ a = .int .i64 S ∧ wr = w4.drewN mm ∧ Hid (paS s p l t xs ys k = S)) (fun _ i _ => n4 - (intOf i).toNat)
  case atStart => exact ⟨0, 0, 0, Nat.zero_le _, by omega, by omega, rfl, rfl, rfl, Lib.hid rfl⟩
  case round =>
    obtain ⟨k, mm, S, hk, hS0, hS1, rfl, rfl, rfl, hS⟩ := hrel
    by_cases hlt : k < n4
    · have hlt' : (k : Int) < (n4 : Int) := by omega
      have s0 : (0 : Int) ≤ (k : Int) := by omega
      have e1 := T.out.at_ hlt
      have e2 := U.out.at_ hlt
      have e3 := I.out.at_ hlt
      obtain ⟨g1, o1, x, rfl, hx, hc1⟩ := e1
      obtain ⟨g2, o2, y, rfl, hy, hc2⟩ := e2
      obtain ⟨g3, o3, b, rfl, hb, hc3⟩ := e3
      have hxg := getD_of hx
      have hyg := getD_of hy
      have hkx : k < xs.length := by have := HXL.out; omega
      have hx20 := allR_at hx (paOK_in HP.out).2.2.2.1
      have hy20 := allR_at hy (paOK_in HP.out).2.2.2.2.1
      have hbe : b = toI (paB s p l t xs ys k) := by
        rw [HON.out] at hb
        simp only [paN, List.getElem?_map, List.getElem?_range hlt, Option.map_some, Option.some.injEq] at hb
        exact hb.symm
      have hb01 : b = 0 ∨ b = 1 := by rw [hbe]; cases paB s p l t xs ys k <;> simp [toI]
      have hle := paS_le HP.out hkx
      have hsb := paS_bd HP.out (k + 1) hkx
      have hsu : paS s p l t xs ys (k + 1) = S + b * x := by simp only [paS]; rw [hS.out, ← hbe, hxg]
      rw [hsu, hyg] at hle
      rw [hsu] at hsb
      have hbx : b * x = 0 ∨ b * x = x := by rcases hb01 with h | h <;> subst h <;> simp
      have hrb := mul_bd' (a := p) (b := y - t) (m := 20) (n := 1000) (by omega) (by omega) (by omega) (by omega)
      rw [Int.mul_comm p] at hle hrb
      have w1' : IntKind.i64.wrap (b * x) = b * x := by rw [IntKind.wrap_i64]; omega
      have w2' : IntKind.i64.wrap (S + b * x) = S + b * x := by rw [IntKind.wrap_i64]; omega
      have w3' : IntKind.i64.wrap (y - t) = y - t := by rw [IntKind.wrap_i64]; omega
      have w4' : IntKind.i64.wrap ((y - t) * p) = (y - t) * p := by rw [IntKind.wrap_i64]; omega
      have w5' : IntKind.i64.wrap (l + (y - t) * p) = l + (y - t) * p := by rw [IntKind.wrap_i64]; omega
      have hgt : ¬ l + (y - t) * p < S + b * x := by omega
      have hgt' : decide (l + (y - t) * p < S + b * x) = false := by simp; omega
      have HS2 := Lib.hid hsu
      have hsb2 : 0 ≤ S + b * x ∧ S + b * x ≤ 20 * ((k + 1 : Nat) : Int) := hsb
      clear hx hy hb hxg hyg hbe hb01 hsu hbx hrb hle hsb
      go_wp2_with (fail)
      go_quiet (fail)
      go_wp2_with (fail)
      go_quiet (fail)
      go_wp2_with (fail)
      go_roundw
      case rel => exact ⟨k + 1, _, S + b * x, by omega, hsb2.1, hsb2.2, by first | rfl | go_num, by first | rfl | go_num, by first | rfl | exact World.drewN_drewN _ _ _ | simp [World.drewN_drewN], HS2⟩
      case measure => simp [intOf]; omega
    · have hlt' : ¬ (k : Int) < (n4 : Int) := by omega
      go_wp2_with (fail)
      go_ret
      exact ⟨ret_bool (by first | rfl | (simp; done)), by first | exact B1.out | exact below_drewN B1.out _⟩
end Go.Proofs.Ytokajigaicdffaa
