/-
  The walk of FnHealthPath. (Its words were written by a program of my own.)
-/
import Derived.Test.YtdbfccfckinjmaaDoorDrawMk
import Derived.Test.YtdbfccfckinjmaaDoorHp
import Derived.Test.YtdbfccfckinjmaaDoorMkN
import Derived.Deep.RegionHeld3
import Derived.Deep.DeepMust
import Derived.Deep.DeepCutAuto
namespace Go.Proofs.YtdbfccfckinjmaaDoor
open Go.RowKit
-- CALL: W s0 wa0
set_option maxHeartbeats 1600000 in
theorem walk_FnHealthPath {A : Option Addr} {n c' : Nat} {zs : List Int} (w : World) (h : BS w A n c' zs) (ha : HA w) :
    Calls Tryd.prog 9 #[.slice A n c'] w fun e w' => e = .returned (.bool true) ∧ Below w.heap.size w w' := by
  have H := Lib.hid h
  have T0 := Lib.hid ha
  clear h ha
  rcases Nat.lt_or_ge 1048576 n with h1 | h1
  · have h1' : (1048576 : Int) < (n : Int) := by omega
    go_enter Tryd.func9, Tryd.ntmps9
    go_wp2_with (fail)
    go_ret
    exact ⟨rfl, Below.refl _ _⟩
  have h1' : ¬ (1048576 : Int) < (n : Int) := by omega
  go_enter Tryd.func9, Tryd.ntmps9
  go_wp2_with (fail)
  refine (spec_DrawHealthPath_any w H.out h1).mono ?_
  rintro e w1 ⟨a, b, c, d, xs, A1, n1, k1, rfl, ⟨a0, a1⟩, ⟨b0, b1⟩, ⟨c0, c1⟩, ⟨d0, d1⟩, hn14, i1, g1, hb⟩
  have T := Lib.hid i1
  have B1 := Lib.hid hb
  have hz1 := B1.out.size
  clear hb i1
  clear g1
  have HXL := Lib.hid T.out.len
  have hcap1 := T.out.cap
  replace T := Lib.hid (T.out.alloc (.cells #[.int .i64 a, .int .i64 b, .int .i64 c, .int .i64 d] 25))
  replace B1 := Lib.hid (B1.out.alloc B1.out.size (.cells #[.int .i64 a, .int .i64 b, .int .i64 c, .int .i64 d] 25))
  have Q := Lib.hid (Blk.new w1 25 #[.int .i64 a, .int .i64 b, .int .i64 c, .int .i64 d])
  obtain ⟨os, hos⟩ : ∃ os, hpL a b c d xs = os := ⟨_, rfl⟩
  have HOS := Lib.hid hos
  clear hos
  obtain ⟨q0, q1, q2, q3⟩ := Q.out.c4
  go_wp2_with (fail)
  refine (impl_HealthPath_any a b c d _ T.out (T0.out.below B1.out (Nat.le_refl _))).mono ?_
  clear q0 q1 q2 q3
  rintro e w2 ⟨A2, n2, k2, rfl, ho, hb⟩
  rw [HOS.out] at ho
  have hoi := ho.is
  have HL := Lib.hid ho.len
  clear ho
  replace T := Lib.hid (T.out.below hb (Nat.le_refl _))
  replace Q := Lib.hid (Q.out.on hb)
  replace B1 := Lib.hid (B1.out.trans (hb.mono B1.out.size))
  clear hb
  have I := Lib.hid hoi
  clear hoi
  have hcap2 := I.out.cap
  rcases Nat.lt_or_ge n2 1 with hs | hs
  · skip
    have hg : ((n2 : Int) == 0) = true := by simp; omega
    obtain ⟨q0, q1, q2, q3⟩ := Q.out.c4
    go_wp2_with (fail)
    refine (spec_HealthPath_any a b c d _ T.out).mono ?_
    clear q0 q1 q2 q3
    rintro e w3 ⟨A3, n3, k3, rfl, ho, hb⟩
    rw [HOS.out] at ho
    have hoi := ho.is
    clear ho
    replace T := Lib.hid (T.out.below hb (Nat.le_refl _))
    replace I := Lib.hid (I.out.below hb (Nat.le_refl _))
    replace Q := Lib.hid (Q.out.on hb)
    replace B1 := Lib.hid (B1.out.trans (hb.mono B1.out.size))
    clear hb
    have K := Lib.hid hoi
    clear hoi
    go_wp2_with (fail)
    refine (call_b (laws_equalInts_any _ I.out K.out) (decide_eq_true rfl)).mono ?_
    rintro e w4 ⟨rfl, mm, h4⟩
    replace T := Lib.hid (show IS w4 A1 n1 k1 xs by rw [h4]; exact T.out.drewN mm)
    replace I := Lib.hid (show IS w4 A2 n2 k2 os by rw [h4]; exact I.out.drewN mm)
    replace K := Lib.hid (show IS w4 A3 n3 k3 os by rw [h4]; exact K.out.drewN mm)
    replace Q := Lib.hid (show Blk w4 (w1.heap.size) 25 #[.int .i64 a, .int .i64 b, .int .i64 c, .int .i64 d] by rw [h4]; exact Q.out)
    replace B1 := Lib.hid (show Below w.heap.size w w4 by rw [h4]; exact below_drewN B1.out mm)
    clear h4
    clear K
    obtain ⟨q0, q1, q2, q3⟩ := Q.out.c4
    go_wp2_with (fail)
    refine (spec_HealthPath_any a b c d _ T.out).mono ?_
    clear q0 q1 q2 q3
    rintro e w5 ⟨A3, n3, k3, rfl, ho, hb⟩
    rw [HOS.out] at ho
    have hoi := ho.is
    clear ho
    replace T := Lib.hid (T.out.below hb (Nat.le_refl _))
    replace I := Lib.hid (I.out.below hb (Nat.le_refl _))
    replace Q := Lib.hid (Q.out.on hb)
    replace B1 := Lib.hid (B1.out.trans (hb.mono B1.out.size))
    clear hb
    have K := Lib.hid hoi
    clear hoi
    go_wp2_with (fail)
    refine (call_b (laws_equalInts_any _ I.out K.out) (decide_eq_true rfl)).mono ?_
    rintro e w6 ⟨rfl, mm, h4⟩
    replace T := Lib.hid (show IS w6 A1 n1 k1 xs by rw [h4]; exact T.out.drewN mm)
    replace I := Lib.hid (show IS w6 A2 n2 k2 os by rw [h4]; exact I.out.drewN mm)
    replace K := Lib.hid (show IS w6 A3 n3 k3 os by rw [h4]; exact K.out.drewN mm)
    replace Q := Lib.hid (show Blk w6 (w1.heap.size) 25 #[.int .i64 a, .int .i64 b, .int .i64 c, .int .i64 d] by rw [h4]; exact Q.out)
    replace B1 := Lib.hid (show Below w.heap.size w w6 by rw [h4]; exact below_drewN B1.out mm)
    clear h4
    clear K
    go_wp2_with (fail)
    go_ret
    exact ⟨ret_bool (by first | rfl | (simp; done) | (simp; omega)), B1.out⟩
  have hg : ((n2 : Int) == 0) = false := by simp; omega
  have HP : Hid (hpOK a b c d xs = true) := Lib.hid (by
    rcases h : hpOK a b c d xs with _ | _
    · have h1 := HL.out; rw [← HOS.out, hpL_f h] at h1; simp at h1; omega
    · rfl)
  have hnn : n2 = n1 := by have h1 := HL.out; rw [← HOS.out, hpL_t HP.out, hpN_len] at h1; have h2 := HXL.out; omega
  subst hnn
  obtain ⟨q0, q1, q2, q3⟩ := Q.out.c4
  go_wp2_with (fail)
  refine (spec_HealthPath_any a b c d _ T.out).mono ?_
  clear q0 q1 q2 q3
  rintro e w3 ⟨A3, n3, k3, rfl, ho, hb⟩
  rw [HOS.out] at ho
  have hoi := ho.is
  clear ho
  replace T := Lib.hid (T.out.below hb (Nat.le_refl _))
  replace I := Lib.hid (I.out.below hb (Nat.le_refl _))
  replace Q := Lib.hid (Q.out.on hb)
  replace B1 := Lib.hid (B1.out.trans (hb.mono B1.out.size))
  clear hb
  have K := Lib.hid hoi
  clear hoi
  go_wp2_with (fail)
  refine (call_b (laws_equalInts_any _ I.out K.out) (decide_eq_true rfl)).mono ?_
  rintro e w4 ⟨rfl, mm, h4⟩
  replace T := Lib.hid (show IS w4 A1 n2 k1 xs by rw [h4]; exact T.out.drewN mm)
  replace I := Lib.hid (show IS w4 A2 n2 k2 os by rw [h4]; exact I.out.drewN mm)
  replace K := Lib.hid (show IS w4 A3 n3 k3 os by rw [h4]; exact K.out.drewN mm)
  replace Q := Lib.hid (show Blk w4 (w1.heap.size) 25 #[.int .i64 a, .int .i64 b, .int .i64 c, .int .i64 d] by rw [h4]; exact Q.out)
  replace B1 := Lib.hid (show Below w.heap.size w w4 by rw [h4]; exact below_drewN B1.out mm)
  clear h4
  clear K
  go_wp2_with (fail)
  obtain ⟨W, eW⟩ : ∃ z : World, z = w4 := ⟨_, rfl⟩
  rw [← eW] at T I Q B1 ⊢
  clear eW
  go_loopw [6, 7] (fun l i wr => ∃ (k : Nat) (H : Int), k ≤ n2 ∧ i = .int .i64 (k : Int) ∧ l = .int .i64 H ∧ Hid (hpH a b c d xs k = H) ∧ Hid (Below W.heap.size W wr)) (fun _ i _ => n2 - (intOf i).toNat)
  case atStart => exact ⟨0, 0, Nat.zero_le _, rfl, rfl, Lib.hid rfl, Lib.hid (Below.refl _ _)⟩
  case round =>
    obtain ⟨k, H, hk, rfl, rfl, hH, HB⟩ := hrel
    by_cases hlt : k < n2
    · have hlt' : (k : Int) < (n2 : Int) := by omega
      have Tr := Lib.hid (T.out.below HB.out (Nat.le_refl _))
      have Ir := Lib.hid (I.out.below HB.out (Nat.le_refl _))
      have Qr := Lib.hid (Q.out.on HB.out)
      have Br := Lib.hid (B1.out.trans (HB.out.mono B1.out.size))
      have hcr := Tr.out.at_ hlt
      have hcs := Ir.out.at_ hlt
      obtain ⟨g, off, x, rfl, hx, hc⟩ := hcr
      obtain ⟨g', off', y, rfl, hy, hc'⟩ := hcs
      obtain ⟨e1, e2⟩ := hp_next HP.out hx
      rw [hH.out] at e1
      rw [HOS.out, hy] at e2
      have e3 := Option.some.inj e2
      rw [← e3] at e1
      have HNX := Lib.hid e1
      have HNY := Lib.hid e3.symm
      have hyy : (y != y) = false := by simp
      clear hx hy e1 e2 e3
      obtain ⟨q0, q1, q2, q3⟩ := Qr.out.c4
      have ql := Qr.out.lt
      go_wp2_with (fail)
      go_region_held3 (fun w' => w'.cell? ⟨w1.heap.size, 0, none⟩ = some (.int .i64 a) ∧ w'.cell? ⟨w1.heap.size, 1, none⟩ = some (.int .i64 b) ∧ w'.cell? ⟨w1.heap.size, 2, none⟩ = some (.int .i64 c) ∧ w'.cell? ⟨w1.heap.size, 3, none⟩ = some (.int .i64 d) ∧ w'.cell? ⟨g, off + k, none⟩ = some (.int .i64 x) ∧ w'.cell? ⟨g', off' + k, none⟩ = some (.int .i64 y))
        (refine And.intro ?_ (And.intro ?_ (And.intro ?_ (And.intro ?_ (And.intro ?_ ?_)))) <;> ((first | with_reducible refine cell_up (w := wr) ?_ q0 | with_reducible refine cell_up (w := wr) ?_ q1 | with_reducible refine cell_up (w := wr) ?_ q2 | with_reducible refine cell_up (w := wr) ?_ q3 | with_reducible refine cell_up (w := wr) ?_ hc | with_reducible refine cell_up (w := wr) ?_ hc'); (repeat' (first | with_reducible exact HW.out | with_reducible exact Below.refl _ _ | with_reducible refine Below.drew ?_))))
        (first | (go_at_call 16; go_must (refine (call_int (impl_NextHealth_any a b c d H x _ (by first | exact (T0.out.below Br.out (Nat.le_refl _)) | exact HA.drew (T0.out.below Br.out (Nat.le_refl _)))) HNX.out).mono ?_; rintro e w6 ⟨rfl, hb⟩; have HW : Hid (Below wr.heap.size wr w6) := Lib.hid (by first | exact hb | exact (Below.refl wr.heap.size wr).drew.trans hb); clear hb)))
      all_goals (
        have hc6 := cell_up HW.out hc'
        clear q0 q1 q2 q3 hc hc'
        go_wp2_with (fail)
        go_roundw
        case rel => exact ⟨k + 1, y, by omega, by first | rfl | go_num, by first | rfl | go_num, HNY, by first | exact Lib.hid (HB.out.trans (HW.out.mono HB.out.size)) | exact Lib.hid ((HB.out.trans (HW.out.mono HB.out.size)).drew)⟩
        case measure => simp [intOf]; omega)
    · have hlt' : ¬ (k : Int) < (n2 : Int) := by omega
      go_wp2_with (fail)
      go_ret
      exact ⟨ret_bool (by first | rfl | (simp; done)), B1.out.trans (HB.out.mono B1.out.size)⟩
end Go.Proofs.YtdbfccfckinjmaaDoor
