/-
  NextHealth, HealthPath and CountTurns of both sides; the table of healths is a premise of the program's ones. (Its words were written by a program of my own.)
-/
import Derived.Test.YtdbfccfckinjmaaDoorMk
namespace Go.Proofs.YtdbfccfckinjmaaDoor
open Go.RowKit

/-- The table of healths lies in block 0. -/
def HA (w : World) : Prop := w.cell? ⟨0, 0, none⟩ = some (.int .i64 0) ∧ w.cell? ⟨0, 1, none⟩ = some (.int .i64 0) ∧ w.cell? ⟨0, 2, none⟩ = some (.int .i64 1) ∧ w.cell? ⟨0, 3, none⟩ = some (.int .i64 1) ∧ w.cell? ⟨0, 4, none⟩ = some (.int .i64 2) ∧ w.cell? ⟨0, 5, none⟩ = some (.int .i64 0) ∧ w.cell? ⟨0, 6, none⟩ = some (.int .i64 1) ∧ w.cell? ⟨0, 7, none⟩ = some (.int .i64 1) ∧ w.cell? ⟨0, 8, none⟩ = some (.int .i64 1) ∧ w.cell? ⟨0, 9, none⟩ = some (.int .i64 2) ∧ w.cell? ⟨0, 10, none⟩ = some (.int .i64 0) ∧ w.cell? ⟨0, 11, none⟩ = some (.int .i64 1) ∧ w.cell? ⟨0, 12, none⟩ = some (.int .i64 1) ∧ w.cell? ⟨0, 13, none⟩ = some (.int .i64 2) ∧ w.cell? ⟨0, 14, none⟩ = some (.int .i64 2)
theorem HA.below {w w' : World} {B : Nat} (h : HA w) (hb : Below B w w') (hB : w.heap.size ≤ B) : HA w' := by
  have hb := hb.mono hB
  exact ⟨cell_up hb h.1, cell_up hb h.2.1, cell_up hb h.2.2.1, cell_up hb h.2.2.2.1, cell_up hb h.2.2.2.2.1, cell_up hb h.2.2.2.2.2.1, cell_up hb h.2.2.2.2.2.2.1, cell_up hb h.2.2.2.2.2.2.2.1, cell_up hb h.2.2.2.2.2.2.2.2.1, cell_up hb h.2.2.2.2.2.2.2.2.2.1, cell_up hb h.2.2.2.2.2.2.2.2.2.2.1, cell_up hb h.2.2.2.2.2.2.2.2.2.2.2.1, cell_up hb h.2.2.2.2.2.2.2.2.2.2.2.2.1, cell_up hb h.2.2.2.2.2.2.2.2.2.2.2.2.2.1, cell_up hb h.2.2.2.2.2.2.2.2.2.2.2.2.2.2⟩
theorem HA.alloc {w : World} (h : HA w) (o : Obj) : HA (w.alloc o) := h.below (below_new w o) (Nat.le_refl _)
theorem HA.drew {w : World} (h : HA w) : HA w.drew := h
theorem HA.drewN {w : World} (h : HA w) (n : Nat) : HA (w.drewN n) := h
theorem OW.none (w : World) (T base : Nat) : OW w T base none 0 0 [] := ⟨rfl, .inl ⟨rfl, rfl⟩⟩
theorem row_mk {w w' : World} {A : Option Addr} {n c : Nat} (h : w.grownBy w' (Value.slice A n c).ownBlock) : Row w w' A := by
  unfold Row
  rwa [← own_map]
theorem disj_mk {g : Nat} {A : Option Addr} {B : Nat} (h : g < B) (k : Ge A B) : Disj (some ⟨g, 0, none⟩) A := fun p q hp hq e => by
  cases hp
  have := k q hq
  have e' : g = q.block := e
  omega
set_option maxHeartbeats 1600000 in
theorem impl_bandOf_any (a b c d x : Int) (w : World) :
    Calls Tryd.prog 34 #[.agg #[.int .i64 a, .int .i64 b, .int .i64 c, .int .i64 d], .int .i64 x] w fun e w' => e = .returned (.int .i64 (bnN a b c d x 4)) ∧ Below w.heap.size w w' := by
  have B0 := Lib.hid (below_new w (.cells #[.int .i64 a, .int .i64 b, .int .i64 c, .int .i64 d] 25))
  have i0 : ∀ w, (Instr.index 56 (.agg #[.int .i64 a, .int .i64 b, .int .i64 c, .int .i64 d]) (.int .i64 0)).run Tryd.prog w = .ok (.int .i64 a) w := fun _ => by kernel_rfl
  have i1 : ∀ w, (Instr.index 56 (.agg #[.int .i64 a, .int .i64 b, .int .i64 c, .int .i64 d]) (.int .i64 1)).run Tryd.prog w = .ok (.int .i64 b) w := fun _ => by kernel_rfl
  have i2 : ∀ w, (Instr.index 56 (.agg #[.int .i64 a, .int .i64 b, .int .i64 c, .int .i64 d]) (.int .i64 2)).run Tryd.prog w = .ok (.int .i64 c) w := fun _ => by kernel_rfl
  have i3 : ∀ w, (Instr.index 56 (.agg #[.int .i64 a, .int .i64 b, .int .i64 c, .int .i64 d]) (.int .i64 3)).run Tryd.prog w = .ok (.int .i64 d) w := fun _ => by kernel_rfl
  go_enter Tryd.func34, Tryd.ntmps34
  go_wp2_with (fail)
  go_loop [5, 17] (fun q i => ∃ (k : Nat) (m : Int), k ≤ 4 ∧ 0 ≤ m ∧ m ≤ (k : Int) ∧ i = .int .i64 (k : Int) ∧ q = .int .i64 m ∧ Hid (bnN a b c d x k = m)) (fun _ i => 4 - (intOf i).toNat)
  case atStart => exact ⟨0, 0, by omega, by omega, by omega, rfl, rfl, Lib.hid rfl⟩
  case round =>
    obtain ⟨k, m, hk, hm0, hm1, rfl, rfl, hm⟩ := hrel
    rcases (show k = 0 ∨ k = 1 ∨ k = 2 ∨ k = 3 ∨ k = 4 by omega) with rfl | rfl | rfl | rfl | rfl
    · by_cases hle : a ≤ x
      · have hle' : decide (a ≤ x) = true := by simp [hle]
        have HE := Lib.hid hle
        clear hle
        go_wp2_with (fail)
        go_round
        case rel => exact ⟨1, m + 1, by omega, by omega, by omega, by first | rfl | go_num, by first | rfl | go_num, Lib.hid (by have := hm.out; have h2 := HE.out; simp only [bnN] at this ⊢; rw [if_pos h2]; omega)⟩
        case measure => first | (simp [intOf]; done) | (simp [intOf]; omega)
      · have hle' : ¬ a ≤ x := hle
        have HE := Lib.hid hle
        clear hle
        go_wp2_with (fail)
        go_round
        case rel => exact ⟨1, m, by omega, by omega, by omega, by first | rfl | go_num, rfl, Lib.hid (by have := hm.out; have h2 := HE.out; simp only [bnN] at this ⊢; rw [if_neg h2]; omega)⟩
        case measure => first | (simp [intOf]; done) | (simp [intOf]; omega)
    · by_cases hle : b ≤ x
      · have hle' : decide (b ≤ x) = true := by simp [hle]
        have HE := Lib.hid hle
        clear hle
        go_wp2_with (fail)
        go_round
        case rel => exact ⟨2, m + 1, by omega, by omega, by omega, by first | rfl | go_num, by first | rfl | go_num, Lib.hid (by have := hm.out; have h2 := HE.out; simp only [bnN] at this ⊢; rw [if_pos h2]; omega)⟩
        case measure => first | (simp [intOf]; done) | (simp [intOf]; omega)
      · have hle' : ¬ b ≤ x := hle
        have HE := Lib.hid hle
        clear hle
        go_wp2_with (fail)
        go_round
        case rel => exact ⟨2, m, by omega, by omega, by omega, by first | rfl | go_num, rfl, Lib.hid (by have := hm.out; have h2 := HE.out; simp only [bnN] at this ⊢; rw [if_neg h2]; omega)⟩
        case measure => first | (simp [intOf]; done) | (simp [intOf]; omega)
    · by_cases hle : c ≤ x
      · have hle' : decide (c ≤ x) = true := by simp [hle]
        have HE := Lib.hid hle
        clear hle
        go_wp2_with (fail)
        go_round
        case rel => exact ⟨3, m + 1, by omega, by omega, by omega, by first | rfl | go_num, by first | rfl | go_num, Lib.hid (by have := hm.out; have h2 := HE.out; simp only [bnN] at this ⊢; rw [if_pos h2]; omega)⟩
        case measure => first | (simp [intOf]; done) | (simp [intOf]; omega)
      · have hle' : ¬ c ≤ x := hle
        have HE := Lib.hid hle
        clear hle
        go_wp2_with (fail)
        go_round
        case rel => exact ⟨3, m, by omega, by omega, by omega, by first | rfl | go_num, rfl, Lib.hid (by have := hm.out; have h2 := HE.out; simp only [bnN] at this ⊢; rw [if_neg h2]; omega)⟩
        case measure => first | (simp [intOf]; done) | (simp [intOf]; omega)
    · by_cases hle : d ≤ x
      · have hle' : decide (d ≤ x) = true := by simp [hle]
        have HE := Lib.hid hle
        clear hle
        go_wp2_with (fail)
        go_round
        case rel => exact ⟨4, m + 1, by omega, by omega, by omega, by first | rfl | go_num, by first | rfl | go_num, Lib.hid (by have := hm.out; have h2 := HE.out; simp only [bnN] at this ⊢; rw [if_pos h2]; omega)⟩
        case measure => first | (simp [intOf]; done) | (simp [intOf]; omega)
      · have hle' : ¬ d ≤ x := hle
        have HE := Lib.hid hle
        clear hle
        go_wp2_with (fail)
        go_round
        case rel => exact ⟨4, m, by omega, by omega, by omega, by first | rfl | go_num, rfl, Lib.hid (by have := hm.out; have h2 := HE.out; simp only [bnN] at this ⊢; rw [if_neg h2]; omega)⟩
        case measure => first | (simp [intOf]; done) | (simp [intOf]; omega)
    · go_wp2_with (fail)
      go_ret
      exact ⟨ret_int hm.out.symm, B0.out⟩
set_option maxHeartbeats 1600000 in
theorem impl_NextHealth_any (a b c d h x : Int) (w : World) (ha : HA w) :
    Calls Tryd.prog 16 #[.agg #[.int .i64 a, .int .i64 b, .int .i64 c, .int .i64 d], .int .i64 h, .int .i64 x] w fun e w' => e = .returned (.int .i64 (nhV a b c d h x)) ∧ Below w.heap.size w w' := by
  have B0 := Lib.hid (below_new w (.cells #[.int .i64 a, .int .i64 b, .int .i64 c, .int .i64 d] 25))
  have P0 := Lib.hid (Blk.new w 25 #[.int .i64 a, .int .i64 b, .int .i64 c, .int .i64 d])
  have H0 := Lib.hid (ha.alloc (.cells #[.int .i64 a, .int .i64 b, .int .i64 c, .int .i64 d] 25))
  clear ha
  rcases hv : mkV a b c d with _ | _
  · skip
    go_enter Tryd.func16, Tryd.ntmps16
    go_wp2_with (fail)
    refine (call_bool (impl_ValidMarks_any a b c d _) hv).mono ?_
    rintro e w1 ⟨rfl, hb⟩
    have B1 := Lib.hid (B0.out.trans (hb.mono (by simp)))
    have P1 := Lib.hid (P0.out.on hb)
    have H1 := Lib.hid (H0.out.below hb (Nat.le_refl _))
    clear hb
    obtain ⟨p0, p1, p2, p3⟩ := P1.out.c4
    go_wp2_with (fail)
    go_ret
    exact ⟨ret_int (by simp [nhV, hv]), B1.out⟩
  rcases hh : inR h 0 2 with _ | _
  · skip
    go_enter Tryd.func16, Tryd.ntmps16
    go_wp2_with (fail)
    refine (call_bool (impl_ValidMarks_any a b c d _) hv).mono ?_
    rintro e w1 ⟨rfl, hb⟩
    have B1 := Lib.hid (B0.out.trans (hb.mono (by simp)))
    have P1 := Lib.hid (P0.out.on hb)
    have H1 := Lib.hid (H0.out.below hb (Nat.le_refl _))
    clear hb
    obtain ⟨p0, p1, p2, p3⟩ := P1.out.c4
    go_wp2_with (go_at_call 33; refine (impl_within_any _ _ _ _).mono ?_; rintro e w' ⟨rfl, rfl⟩)
    go_ret
    exact ⟨ret_int (by simp [nhV, hh]), B1.out⟩
  rcases hx : inR x 0 100 with _ | _
  · skip
    go_enter Tryd.func16, Tryd.ntmps16
    go_wp2_with (fail)
    refine (call_bool (impl_ValidMarks_any a b c d _) hv).mono ?_
    rintro e w1 ⟨rfl, hb⟩
    have B1 := Lib.hid (B0.out.trans (hb.mono (by simp)))
    have P1 := Lib.hid (P0.out.on hb)
    have H1 := Lib.hid (H0.out.below hb (Nat.le_refl _))
    clear hb
    obtain ⟨p0, p1, p2, p3⟩ := P1.out.c4
    go_wp2_with (go_at_call 33; refine (impl_within_any _ _ _ _).mono ?_; rintro e w' ⟨rfl, rfl⟩)
    go_ret
    exact ⟨ret_int (by simp [nhV, hx]), B1.out⟩
  have HV := Lib.hid (nhV_t hv hh hx)
  have hm := mkV_in hv
  obtain ⟨h0, h2⟩ := inR_iff.1 hh
  obtain ⟨B, hB⟩ : ∃ B, bnN a b c d x 4 = B := ⟨_, rfl⟩
  have hcs : (B = 0 ∧ x < a) ∨ (B = 1 ∧ a ≤ x ∧ x < b) ∨ (B = 2 ∧ b ≤ x ∧ x < c) ∨ (B = 3 ∧ c ≤ x ∧ x < d) ∨ (B = 4 ∧ d ≤ x) := by
    simp only [bnN] at hB
    split at hB <;> split at hB <;> split at hB <;> split at hB <;> omega
  have HBn := Lib.hid hB
  clear hB
  have HM := Lib.hid hm
  clear hm
  go_enter Tryd.func16, Tryd.ntmps16
  go_wp2_with (fail)
  refine (call_bool (impl_ValidMarks_any a b c d _) hv).mono ?_
  rintro e w1 ⟨rfl, hb⟩
  have B1 := Lib.hid (B0.out.trans (hb.mono (by simp)))
  have P1 := Lib.hid (P0.out.on hb)
  have H1 := Lib.hid (H0.out.below hb (Nat.le_refl _))
  clear hb
  obtain ⟨p0, p1, p2, p3⟩ := P1.out.c4
  clear P0 B0 H0
  rcases (show h = 0 ∨ h = 1 ∨ h = 2 by omega) with rfl | rfl | rfl
  · rcases hcs with ⟨rfl, hcx⟩ | ⟨rfl, hcx⟩ | ⟨rfl, hcx⟩ | ⟨rfl, hcx⟩ | ⟨rfl, hcx⟩
    · have HR : Hid (nhN a b c d 0 x = 0) := Lib.hid (by have := HM.out; simp only [nhN]; rw [if_neg (by omega), if_neg (by omega)])
      clear hcx
      have t0 : w1.cell? ⟨0, 0, none⟩ = some (.int .i64 0) := H1.out.1
      go_wp2_with (go_at_call 33; refine (impl_within_any _ _ _ _).mono ?_; rintro e w' ⟨rfl, rfl⟩)
      go_region_held3 (fun w' => w'.cell? ⟨w.heap.size, 0, none⟩ = some (.int .i64 a) ∧ w'.cell? ⟨w.heap.size, 1, none⟩ = some (.int .i64 b) ∧ w'.cell? ⟨w.heap.size, 2, none⟩ = some (.int .i64 c) ∧ w'.cell? ⟨w.heap.size, 3, none⟩ = some (.int .i64 d) ∧ w'.cell? ⟨0, 0, none⟩ = some (.int .i64 0))
        (refine And.intro ?_ (And.intro ?_ (And.intro ?_ (And.intro ?_ ?_))) <;> ((first | with_reducible refine cell_up (w := w1) ?_ p0 | with_reducible refine cell_up (w := w1) ?_ p1 | with_reducible refine cell_up (w := w1) ?_ p2 | with_reducible refine cell_up (w := w1) ?_ p3 | with_reducible refine cell_up (w := w1) ?_ t0); (repeat' (first | with_reducible exact HW.out | with_reducible exact Below.refl _ _ | with_reducible refine Below.drew ?_))))
        (first | (go_at_call 34; go_must (refine (call_int (impl_bandOf_any a b c d x _) HBn.out).mono ?_; rintro e w6 ⟨rfl, hb⟩; have HW : Hid (Below w1.heap.size w1 w6) := Lib.hid (by first | exact hb | exact (Below.refl w1.heap.size w1).drew.trans hb); clear hb)))
      all_goals (
        go_wp2_with (fail)
        go_ret
        exact ⟨ret_int (by rw [HV.out, HR.out]), by first | exact B1.out.trans (HW.out.mono B1.out.size) | exact (B1.out.trans (HW.out.mono B1.out.size)).drew⟩)
    · have HR : Hid (nhN a b c d 0 x = 0) := Lib.hid (by have := HM.out; simp only [nhN]; rw [if_neg (by omega), if_neg (by omega)])
      clear hcx
      have t0 : w1.cell? ⟨0, 1, none⟩ = some (.int .i64 0) := H1.out.2.1
      go_wp2_with (go_at_call 33; refine (impl_within_any _ _ _ _).mono ?_; rintro e w' ⟨rfl, rfl⟩)
      go_region_held3 (fun w' => w'.cell? ⟨w.heap.size, 0, none⟩ = some (.int .i64 a) ∧ w'.cell? ⟨w.heap.size, 1, none⟩ = some (.int .i64 b) ∧ w'.cell? ⟨w.heap.size, 2, none⟩ = some (.int .i64 c) ∧ w'.cell? ⟨w.heap.size, 3, none⟩ = some (.int .i64 d) ∧ w'.cell? ⟨0, 1, none⟩ = some (.int .i64 0))
        (refine And.intro ?_ (And.intro ?_ (And.intro ?_ (And.intro ?_ ?_))) <;> ((first | with_reducible refine cell_up (w := w1) ?_ p0 | with_reducible refine cell_up (w := w1) ?_ p1 | with_reducible refine cell_up (w := w1) ?_ p2 | with_reducible refine cell_up (w := w1) ?_ p3 | with_reducible refine cell_up (w := w1) ?_ t0); (repeat' (first | with_reducible exact HW.out | with_reducible exact Below.refl _ _ | with_reducible refine Below.drew ?_))))
        (first | (go_at_call 34; go_must (refine (call_int (impl_bandOf_any a b c d x _) HBn.out).mono ?_; rintro e w6 ⟨rfl, hb⟩; have HW : Hid (Below w1.heap.size w1 w6) := Lib.hid (by first | exact hb | exact (Below.refl w1.heap.size w1).drew.trans hb); clear hb)))
      all_goals (
        go_wp2_with (fail)
        go_ret
        exact ⟨ret_int (by rw [HV.out, HR.out]), by first | exact B1.out.trans (HW.out.mono B1.out.size) | exact (B1.out.trans (HW.out.mono B1.out.size)).drew⟩)
    · have HR : Hid (nhN a b c d 0 x = 1) := Lib.hid (by have := HM.out; simp only [nhN]; rw [if_neg (by omega), if_pos (by omega)])
      clear hcx
      have t0 : w1.cell? ⟨0, 2, none⟩ = some (.int .i64 1) := H1.out.2.2.1
      go_wp2_with (go_at_call 33; refine (impl_within_any _ _ _ _).mono ?_; rintro e w' ⟨rfl, rfl⟩)
      go_region_held3 (fun w' => w'.cell? ⟨w.heap.size, 0, none⟩ = some (.int .i64 a) ∧ w'.cell? ⟨w.heap.size, 1, none⟩ = some (.int .i64 b) ∧ w'.cell? ⟨w.heap.size, 2, none⟩ = some (.int .i64 c) ∧ w'.cell? ⟨w.heap.size, 3, none⟩ = some (.int .i64 d) ∧ w'.cell? ⟨0, 2, none⟩ = some (.int .i64 1))
        (refine And.intro ?_ (And.intro ?_ (And.intro ?_ (And.intro ?_ ?_))) <;> ((first | with_reducible refine cell_up (w := w1) ?_ p0 | with_reducible refine cell_up (w := w1) ?_ p1 | with_reducible refine cell_up (w := w1) ?_ p2 | with_reducible refine cell_up (w := w1) ?_ p3 | with_reducible refine cell_up (w := w1) ?_ t0); (repeat' (first | with_reducible exact HW.out | with_reducible exact Below.refl _ _ | with_reducible refine Below.drew ?_))))
        (first | (go_at_call 34; go_must (refine (call_int (impl_bandOf_any a b c d x _) HBn.out).mono ?_; rintro e w6 ⟨rfl, hb⟩; have HW : Hid (Below w1.heap.size w1 w6) := Lib.hid (by first | exact hb | exact (Below.refl w1.heap.size w1).drew.trans hb); clear hb)))
      all_goals (
        go_wp2_with (fail)
        go_ret
        exact ⟨ret_int (by rw [HV.out, HR.out]), by first | exact B1.out.trans (HW.out.mono B1.out.size) | exact (B1.out.trans (HW.out.mono B1.out.size)).drew⟩)
    · have HR : Hid (nhN a b c d 0 x = 1) := Lib.hid (by have := HM.out; simp only [nhN]; rw [if_neg (by omega), if_pos (by omega)])
      clear hcx
      have t0 : w1.cell? ⟨0, 3, none⟩ = some (.int .i64 1) := H1.out.2.2.2.1
      go_wp2_with (go_at_call 33; refine (impl_within_any _ _ _ _).mono ?_; rintro e w' ⟨rfl, rfl⟩)
      go_region_held3 (fun w' => w'.cell? ⟨w.heap.size, 0, none⟩ = some (.int .i64 a) ∧ w'.cell? ⟨w.heap.size, 1, none⟩ = some (.int .i64 b) ∧ w'.cell? ⟨w.heap.size, 2, none⟩ = some (.int .i64 c) ∧ w'.cell? ⟨w.heap.size, 3, none⟩ = some (.int .i64 d) ∧ w'.cell? ⟨0, 3, none⟩ = some (.int .i64 1))
        (refine And.intro ?_ (And.intro ?_ (And.intro ?_ (And.intro ?_ ?_))) <;> ((first | with_reducible refine cell_up (w := w1) ?_ p0 | with_reducible refine cell_up (w := w1) ?_ p1 | with_reducible refine cell_up (w := w1) ?_ p2 | with_reducible refine cell_up (w := w1) ?_ p3 | with_reducible refine cell_up (w := w1) ?_ t0); (repeat' (first | with_reducible exact HW.out | with_reducible exact Below.refl _ _ | with_reducible refine Below.drew ?_))))
        (first | (go_at_call 34; go_must (refine (call_int (impl_bandOf_any a b c d x _) HBn.out).mono ?_; rintro e w6 ⟨rfl, hb⟩; have HW : Hid (Below w1.heap.size w1 w6) := Lib.hid (by first | exact hb | exact (Below.refl w1.heap.size w1).drew.trans hb); clear hb)))
      all_goals (
        go_wp2_with (fail)
        go_ret
        exact ⟨ret_int (by rw [HV.out, HR.out]), by first | exact B1.out.trans (HW.out.mono B1.out.size) | exact (B1.out.trans (HW.out.mono B1.out.size)).drew⟩)
    · have HR : Hid (nhN a b c d 0 x = 2) := Lib.hid (by have := HM.out; simp only [nhN]; rw [if_pos (by first | omega | exact .inr ⟨rfl, by omega⟩ | exact .inr ⟨trivial, by omega⟩)])
      clear hcx
      have t0 : w1.cell? ⟨0, 4, none⟩ = some (.int .i64 2) := H1.out.2.2.2.2.1
      go_wp2_with (go_at_call 33; refine (impl_within_any _ _ _ _).mono ?_; rintro e w' ⟨rfl, rfl⟩)
      go_region_held3 (fun w' => w'.cell? ⟨w.heap.size, 0, none⟩ = some (.int .i64 a) ∧ w'.cell? ⟨w.heap.size, 1, none⟩ = some (.int .i64 b) ∧ w'.cell? ⟨w.heap.size, 2, none⟩ = some (.int .i64 c) ∧ w'.cell? ⟨w.heap.size, 3, none⟩ = some (.int .i64 d) ∧ w'.cell? ⟨0, 4, none⟩ = some (.int .i64 2))
        (refine And.intro ?_ (And.intro ?_ (And.intro ?_ (And.intro ?_ ?_))) <;> ((first | with_reducible refine cell_up (w := w1) ?_ p0 | with_reducible refine cell_up (w := w1) ?_ p1 | with_reducible refine cell_up (w := w1) ?_ p2 | with_reducible refine cell_up (w := w1) ?_ p3 | with_reducible refine cell_up (w := w1) ?_ t0); (repeat' (first | with_reducible exact HW.out | with_reducible exact Below.refl _ _ | with_reducible refine Below.drew ?_))))
        (first | (go_at_call 34; go_must (refine (call_int (impl_bandOf_any a b c d x _) HBn.out).mono ?_; rintro e w6 ⟨rfl, hb⟩; have HW : Hid (Below w1.heap.size w1 w6) := Lib.hid (by first | exact hb | exact (Below.refl w1.heap.size w1).drew.trans hb); clear hb)))
      all_goals (
        go_wp2_with (fail)
        go_ret
        exact ⟨ret_int (by rw [HV.out, HR.out]), by first | exact B1.out.trans (HW.out.mono B1.out.size) | exact (B1.out.trans (HW.out.mono B1.out.size)).drew⟩)
  · rcases hcs with ⟨rfl, hcx⟩ | ⟨rfl, hcx⟩ | ⟨rfl, hcx⟩ | ⟨rfl, hcx⟩ | ⟨rfl, hcx⟩
    · have HR : Hid (nhN a b c d 1 x = 0) := Lib.hid (by have := HM.out; simp only [nhN]; rw [if_neg (by omega), if_neg (by omega)])
      clear hcx
      have t0 : w1.cell? ⟨0, 5, none⟩ = some (.int .i64 0) := H1.out.2.2.2.2.2.1
      go_wp2_with (go_at_call 33; refine (impl_within_any _ _ _ _).mono ?_; rintro e w' ⟨rfl, rfl⟩)
      go_region_held3 (fun w' => w'.cell? ⟨w.heap.size, 0, none⟩ = some (.int .i64 a) ∧ w'.cell? ⟨w.heap.size, 1, none⟩ = some (.int .i64 b) ∧ w'.cell? ⟨w.heap.size, 2, none⟩ = some (.int .i64 c) ∧ w'.cell? ⟨w.heap.size, 3, none⟩ = some (.int .i64 d) ∧ w'.cell? ⟨0, 5, none⟩ = some (.int .i64 0))
        (refine And.intro ?_ (And.intro ?_ (And.intro ?_ (And.intro ?_ ?_))) <;> ((first | with_reducible refine cell_up (w := w1) ?_ p0 | with_reducible refine cell_up (w := w1) ?_ p1 | with_reducible refine cell_up (w := w1) ?_ p2 | with_reducible refine cell_up (w := w1) ?_ p3 | with_reducible refine cell_up (w := w1) ?_ t0); (repeat' (first | with_reducible exact HW.out | with_reducible exact Below.refl _ _ | with_reducible refine Below.drew ?_))))
        (first | (go_at_call 34; go_must (refine (call_int (impl_bandOf_any a b c d x _) HBn.out).mono ?_; rintro e w6 ⟨rfl, hb⟩; have HW : Hid (Below w1.heap.size w1 w6) := Lib.hid (by first | exact hb | exact (Below.refl w1.heap.size w1).drew.trans hb); clear hb)))
      all_goals (
        go_wp2_with (fail)
        go_ret
        exact ⟨ret_int (by rw [HV.out, HR.out]), by first | exact B1.out.trans (HW.out.mono B1.out.size) | exact (B1.out.trans (HW.out.mono B1.out.size)).drew⟩)
    · have HR : Hid (nhN a b c d 1 x = 1) := Lib.hid (by have := HM.out; simp only [nhN]; rw [if_neg (by omega), if_pos (by omega)])
      clear hcx
      have t0 : w1.cell? ⟨0, 6, none⟩ = some (.int .i64 1) := H1.out.2.2.2.2.2.2.1
      go_wp2_with (go_at_call 33; refine (impl_within_any _ _ _ _).mono ?_; rintro e w' ⟨rfl, rfl⟩)
      go_region_held3 (fun w' => w'.cell? ⟨w.heap.size, 0, none⟩ = some (.int .i64 a) ∧ w'.cell? ⟨w.heap.size, 1, none⟩ = some (.int .i64 b) ∧ w'.cell? ⟨w.heap.size, 2, none⟩ = some (.int .i64 c) ∧ w'.cell? ⟨w.heap.size, 3, none⟩ = some (.int .i64 d) ∧ w'.cell? ⟨0, 6, none⟩ = some (.int .i64 1))
        (refine And.intro ?_ (And.intro ?_ (And.intro ?_ (And.intro ?_ ?_))) <;> ((first | with_reducible refine cell_up (w := w1) ?_ p0 | with_reducible refine cell_up (w := w1) ?_ p1 | with_reducible refine cell_up (w := w1) ?_ p2 | with_reducible refine cell_up (w := w1) ?_ p3 | with_reducible refine cell_up (w := w1) ?_ t0); (repeat' (first | with_reducible exact HW.out | with_reducible exact Below.refl _ _ | with_reducible refine Below.drew ?_))))
        (first | (go_at_call 34; go_must (refine (call_int (impl_bandOf_any a b c d x _) HBn.out).mono ?_; rintro e w6 ⟨rfl, hb⟩; have HW : Hid (Below w1.heap.size w1 w6) := Lib.hid (by first | exact hb | exact (Below.refl w1.heap.size w1).drew.trans hb); clear hb)))
      all_goals (
        go_wp2_with (fail)
        go_ret
        exact ⟨ret_int (by rw [HV.out, HR.out]), by first | exact B1.out.trans (HW.out.mono B1.out.size) | exact (B1.out.trans (HW.out.mono B1.out.size)).drew⟩)
    · have HR : Hid (nhN a b c d 1 x = 1) := Lib.hid (by have := HM.out; simp only [nhN]; rw [if_neg (by omega), if_pos (by omega)])
      clear hcx
      have t0 : w1.cell? ⟨0, 7, none⟩ = some (.int .i64 1) := H1.out.2.2.2.2.2.2.2.1
      go_wp2_with (go_at_call 33; refine (impl_within_any _ _ _ _).mono ?_; rintro e w' ⟨rfl, rfl⟩)
      go_region_held3 (fun w' => w'.cell? ⟨w.heap.size, 0, none⟩ = some (.int .i64 a) ∧ w'.cell? ⟨w.heap.size, 1, none⟩ = some (.int .i64 b) ∧ w'.cell? ⟨w.heap.size, 2, none⟩ = some (.int .i64 c) ∧ w'.cell? ⟨w.heap.size, 3, none⟩ = some (.int .i64 d) ∧ w'.cell? ⟨0, 7, none⟩ = some (.int .i64 1))
        (refine And.intro ?_ (And.intro ?_ (And.intro ?_ (And.intro ?_ ?_))) <;> ((first | with_reducible refine cell_up (w := w1) ?_ p0 | with_reducible refine cell_up (w := w1) ?_ p1 | with_reducible refine cell_up (w := w1) ?_ p2 | with_reducible refine cell_up (w := w1) ?_ p3 | with_reducible refine cell_up (w := w1) ?_ t0); (repeat' (first | with_reducible exact HW.out | with_reducible exact Below.refl _ _ | with_reducible refine Below.drew ?_))))
        (first | (go_at_call 34; go_must (refine (call_int (impl_bandOf_any a b c d x _) HBn.out).mono ?_; rintro e w6 ⟨rfl, hb⟩; have HW : Hid (Below w1.heap.size w1 w6) := Lib.hid (by first | exact hb | exact (Below.refl w1.heap.size w1).drew.trans hb); clear hb)))
      all_goals (
        go_wp2_with (fail)
        go_ret
        exact ⟨ret_int (by rw [HV.out, HR.out]), by first | exact B1.out.trans (HW.out.mono B1.out.size) | exact (B1.out.trans (HW.out.mono B1.out.size)).drew⟩)
    · have HR : Hid (nhN a b c d 1 x = 1) := Lib.hid (by have := HM.out; simp only [nhN]; rw [if_neg (by omega), if_pos (by omega)])
      clear hcx
      have t0 : w1.cell? ⟨0, 8, none⟩ = some (.int .i64 1) := H1.out.2.2.2.2.2.2.2.2.1
      go_wp2_with (go_at_call 33; refine (impl_within_any _ _ _ _).mono ?_; rintro e w' ⟨rfl, rfl⟩)
      go_region_held3 (fun w' => w'.cell? ⟨w.heap.size, 0, none⟩ = some (.int .i64 a) ∧ w'.cell? ⟨w.heap.size, 1, none⟩ = some (.int .i64 b) ∧ w'.cell? ⟨w.heap.size, 2, none⟩ = some (.int .i64 c) ∧ w'.cell? ⟨w.heap.size, 3, none⟩ = some (.int .i64 d) ∧ w'.cell? ⟨0, 8, none⟩ = some (.int .i64 1))
        (refine And.intro ?_ (And.intro ?_ (And.intro ?_ (And.intro ?_ ?_))) <;> ((first | with_reducible refine cell_up (w := w1) ?_ p0 | with_reducible refine cell_up (w := w1) ?_ p1 | with_reducible refine cell_up (w := w1) ?_ p2 | with_reducible refine cell_up (w := w1) ?_ p3 | with_reducible refine cell_up (w := w1) ?_ t0); (repeat' (first | with_reducible exact HW.out | with_reducible exact Below.refl _ _ | with_reducible refine Below.drew ?_))))
        (first | (go_at_call 34; go_must (refine (call_int (impl_bandOf_any a b c d x _) HBn.out).mono ?_; rintro e w6 ⟨rfl, hb⟩; have HW : Hid (Below w1.heap.size w1 w6) := Lib.hid (by first | exact hb | exact (Below.refl w1.heap.size w1).drew.trans hb); clear hb)))
      all_goals (
        go_wp2_with (fail)
        go_ret
        exact ⟨ret_int (by rw [HV.out, HR.out]), by first | exact B1.out.trans (HW.out.mono B1.out.size) | exact (B1.out.trans (HW.out.mono B1.out.size)).drew⟩)
    · have HR : Hid (nhN a b c d 1 x = 2) := Lib.hid (by have := HM.out; simp only [nhN]; rw [if_pos (by first | omega | exact .inr ⟨rfl, by omega⟩ | exact .inr ⟨trivial, by omega⟩)])
      clear hcx
      have t0 : w1.cell? ⟨0, 9, none⟩ = some (.int .i64 2) := H1.out.2.2.2.2.2.2.2.2.2.1
      go_wp2_with (go_at_call 33; refine (impl_within_any _ _ _ _).mono ?_; rintro e w' ⟨rfl, rfl⟩)
      go_region_held3 (fun w' => w'.cell? ⟨w.heap.size, 0, none⟩ = some (.int .i64 a) ∧ w'.cell? ⟨w.heap.size, 1, none⟩ = some (.int .i64 b) ∧ w'.cell? ⟨w.heap.size, 2, none⟩ = some (.int .i64 c) ∧ w'.cell? ⟨w.heap.size, 3, none⟩ = some (.int .i64 d) ∧ w'.cell? ⟨0, 9, none⟩ = some (.int .i64 2))
        (refine And.intro ?_ (And.intro ?_ (And.intro ?_ (And.intro ?_ ?_))) <;> ((first | with_reducible refine cell_up (w := w1) ?_ p0 | with_reducible refine cell_up (w := w1) ?_ p1 | with_reducible refine cell_up (w := w1) ?_ p2 | with_reducible refine cell_up (w := w1) ?_ p3 | with_reducible refine cell_up (w := w1) ?_ t0); (repeat' (first | with_reducible exact HW.out | with_reducible exact Below.refl _ _ | with_reducible refine Below.drew ?_))))
        (first | (go_at_call 34; go_must (refine (call_int (impl_bandOf_any a b c d x _) HBn.out).mono ?_; rintro e w6 ⟨rfl, hb⟩; have HW : Hid (Below w1.heap.size w1 w6) := Lib.hid (by first | exact hb | exact (Below.refl w1.heap.size w1).drew.trans hb); clear hb)))
      all_goals (
        go_wp2_with (fail)
        go_ret
        exact ⟨ret_int (by rw [HV.out, HR.out]), by first | exact B1.out.trans (HW.out.mono B1.out.size) | exact (B1.out.trans (HW.out.mono B1.out.size)).drew⟩)
  · rcases hcs with ⟨rfl, hcx⟩ | ⟨rfl, hcx⟩ | ⟨rfl, hcx⟩ | ⟨rfl, hcx⟩ | ⟨rfl, hcx⟩
    · have HR : Hid (nhN a b c d 2 x = 0) := Lib.hid (by have := HM.out; simp only [nhN]; rw [if_neg (by omega), if_neg (by omega)])
      clear hcx
      have t0 : w1.cell? ⟨0, 10, none⟩ = some (.int .i64 0) := H1.out.2.2.2.2.2.2.2.2.2.2.1
      go_wp2_with (go_at_call 33; refine (impl_within_any _ _ _ _).mono ?_; rintro e w' ⟨rfl, rfl⟩)
      go_region_held3 (fun w' => w'.cell? ⟨w.heap.size, 0, none⟩ = some (.int .i64 a) ∧ w'.cell? ⟨w.heap.size, 1, none⟩ = some (.int .i64 b) ∧ w'.cell? ⟨w.heap.size, 2, none⟩ = some (.int .i64 c) ∧ w'.cell? ⟨w.heap.size, 3, none⟩ = some (.int .i64 d) ∧ w'.cell? ⟨0, 10, none⟩ = some (.int .i64 0))
        (refine And.intro ?_ (And.intro ?_ (And.intro ?_ (And.intro ?_ ?_))) <;> ((first | with_reducible refine cell_up (w := w1) ?_ p0 | with_reducible refine cell_up (w := w1) ?_ p1 | with_reducible refine cell_up (w := w1) ?_ p2 | with_reducible refine cell_up (w := w1) ?_ p3 | with_reducible refine cell_up (w := w1) ?_ t0); (repeat' (first | with_reducible exact HW.out | with_reducible exact Below.refl _ _ | with_reducible refine Below.drew ?_))))
        (first | (go_at_call 34; go_must (refine (call_int (impl_bandOf_any a b c d x _) HBn.out).mono ?_; rintro e w6 ⟨rfl, hb⟩; have HW : Hid (Below w1.heap.size w1 w6) := Lib.hid (by first | exact hb | exact (Below.refl w1.heap.size w1).drew.trans hb); clear hb)))
      all_goals (
        go_wp2_with (fail)
        go_ret
        exact ⟨ret_int (by rw [HV.out, HR.out]), by first | exact B1.out.trans (HW.out.mono B1.out.size) | exact (B1.out.trans (HW.out.mono B1.out.size)).drew⟩)
    · have HR : Hid (nhN a b c d 2 x = 1) := Lib.hid (by have := HM.out; simp only [nhN]; rw [if_neg (by omega), if_pos (by omega)])
      clear hcx
      have t0 : w1.cell? ⟨0, 11, none⟩ = some (.int .i64 1) := H1.out.2.2.2.2.2.2.2.2.2.2.2.1
      go_wp2_with (go_at_call 33; refine (impl_within_any _ _ _ _).mono ?_; rintro e w' ⟨rfl, rfl⟩)
      go_region_held3 (fun w' => w'.cell? ⟨w.heap.size, 0, none⟩ = some (.int .i64 a) ∧ w'.cell? ⟨w.heap.size, 1, none⟩ = some (.int .i64 b) ∧ w'.cell? ⟨w.heap.size, 2, none⟩ = some (.int .i64 c) ∧ w'.cell? ⟨w.heap.size, 3, none⟩ = some (.int .i64 d) ∧ w'.cell? ⟨0, 11, none⟩ = some (.int .i64 1))
        (refine And.intro ?_ (And.intro ?_ (And.intro ?_ (And.intro ?_ ?_))) <;> ((first | with_reducible refine cell_up (w := w1) ?_ p0 | with_reducible refine cell_up (w := w1) ?_ p1 | with_reducible refine cell_up (w := w1) ?_ p2 | with_reducible refine cell_up (w := w1) ?_ p3 | with_reducible refine cell_up (w := w1) ?_ t0); (repeat' (first | with_reducible exact HW.out | with_reducible exact Below.refl _ _ | with_reducible refine Below.drew ?_))))
        (first | (go_at_call 34; go_must (refine (call_int (impl_bandOf_any a b c d x _) HBn.out).mono ?_; rintro e w6 ⟨rfl, hb⟩; have HW : Hid (Below w1.heap.size w1 w6) := Lib.hid (by first | exact hb | exact (Below.refl w1.heap.size w1).drew.trans hb); clear hb)))
      all_goals (
        go_wp2_with (fail)
        go_ret
        exact ⟨ret_int (by rw [HV.out, HR.out]), by first | exact B1.out.trans (HW.out.mono B1.out.size) | exact (B1.out.trans (HW.out.mono B1.out.size)).drew⟩)
    · have HR : Hid (nhN a b c d 2 x = 1) := Lib.hid (by have := HM.out; simp only [nhN]; rw [if_neg (by omega), if_pos (by omega)])
      clear hcx
      have t0 : w1.cell? ⟨0, 12, none⟩ = some (.int .i64 1) := H1.out.2.2.2.2.2.2.2.2.2.2.2.2.1
      go_wp2_with (go_at_call 33; refine (impl_within_any _ _ _ _).mono ?_; rintro e w' ⟨rfl, rfl⟩)
      go_region_held3 (fun w' => w'.cell? ⟨w.heap.size, 0, none⟩ = some (.int .i64 a) ∧ w'.cell? ⟨w.heap.size, 1, none⟩ = some (.int .i64 b) ∧ w'.cell? ⟨w.heap.size, 2, none⟩ = some (.int .i64 c) ∧ w'.cell? ⟨w.heap.size, 3, none⟩ = some (.int .i64 d) ∧ w'.cell? ⟨0, 12, none⟩ = some (.int .i64 1))
        (refine And.intro ?_ (And.intro ?_ (And.intro ?_ (And.intro ?_ ?_))) <;> ((first | with_reducible refine cell_up (w := w1) ?_ p0 | with_reducible refine cell_up (w := w1) ?_ p1 | with_reducible refine cell_up (w := w1) ?_ p2 | with_reducible refine cell_up (w := w1) ?_ p3 | with_reducible refine cell_up (w := w1) ?_ t0); (repeat' (first | with_reducible exact HW.out | with_reducible exact Below.refl _ _ | with_reducible refine Below.drew ?_))))
        (first | (go_at_call 34; go_must (refine (call_int (impl_bandOf_any a b c d x _) HBn.out).mono ?_; rintro e w6 ⟨rfl, hb⟩; have HW : Hid (Below w1.heap.size w1 w6) := Lib.hid (by first | exact hb | exact (Below.refl w1.heap.size w1).drew.trans hb); clear hb)))
      all_goals (
        go_wp2_with (fail)
        go_ret
        exact ⟨ret_int (by rw [HV.out, HR.out]), by first | exact B1.out.trans (HW.out.mono B1.out.size) | exact (B1.out.trans (HW.out.mono B1.out.size)).drew⟩)
    · have HR : Hid (nhN a b c d 2 x = 2) := Lib.hid (by have := HM.out; simp only [nhN]; rw [if_pos (by first | omega | exact .inr ⟨rfl, by omega⟩ | exact .inr ⟨trivial, by omega⟩)])
      clear hcx
      have t0 : w1.cell? ⟨0, 13, none⟩ = some (.int .i64 2) := H1.out.2.2.2.2.2.2.2.2.2.2.2.2.2.1
      go_wp2_with (go_at_call 33; refine (impl_within_any _ _ _ _).mono ?_; rintro e w' ⟨rfl, rfl⟩)
      go_region_held3 (fun w' => w'.cell? ⟨w.heap.size, 0, none⟩ = some (.int .i64 a) ∧ w'.cell? ⟨w.heap.size, 1, none⟩ = some (.int .i64 b) ∧ w'.cell? ⟨w.heap.size, 2, none⟩ = some (.int .i64 c) ∧ w'.cell? ⟨w.heap.size, 3, none⟩ = some (.int .i64 d) ∧ w'.cell? ⟨0, 13, none⟩ = some (.int .i64 2))
        (refine And.intro ?_ (And.intro ?_ (And.intro ?_ (And.intro ?_ ?_))) <;> ((first | with_reducible refine cell_up (w := w1) ?_ p0 | with_reducible refine cell_up (w := w1) ?_ p1 | with_reducible refine cell_up (w := w1) ?_ p2 | with_reducible refine cell_up (w := w1) ?_ p3 | with_reducible refine cell_up (w := w1) ?_ t0); (repeat' (first | with_reducible exact HW.out | with_reducible exact Below.refl _ _ | with_reducible refine Below.drew ?_))))
        (first | (go_at_call 34; go_must (refine (call_int (impl_bandOf_any a b c d x _) HBn.out).mono ?_; rintro e w6 ⟨rfl, hb⟩; have HW : Hid (Below w1.heap.size w1 w6) := Lib.hid (by first | exact hb | exact (Below.refl w1.heap.size w1).drew.trans hb); clear hb)))
      all_goals (
        go_wp2_with (fail)
        go_ret
        exact ⟨ret_int (by rw [HV.out, HR.out]), by first | exact B1.out.trans (HW.out.mono B1.out.size) | exact (B1.out.trans (HW.out.mono B1.out.size)).drew⟩)
    · have HR : Hid (nhN a b c d 2 x = 2) := Lib.hid (by have := HM.out; simp only [nhN]; rw [if_pos (by first | omega | exact .inr ⟨rfl, by omega⟩ | exact .inr ⟨trivial, by omega⟩)])
      clear hcx
      have t0 : w1.cell? ⟨0, 14, none⟩ = some (.int .i64 2) := H1.out.2.2.2.2.2.2.2.2.2.2.2.2.2.2
      go_wp2_with (go_at_call 33; refine (impl_within_any _ _ _ _).mono ?_; rintro e w' ⟨rfl, rfl⟩)
      go_region_held3 (fun w' => w'.cell? ⟨w.heap.size, 0, none⟩ = some (.int .i64 a) ∧ w'.cell? ⟨w.heap.size, 1, none⟩ = some (.int .i64 b) ∧ w'.cell? ⟨w.heap.size, 2, none⟩ = some (.int .i64 c) ∧ w'.cell? ⟨w.heap.size, 3, none⟩ = some (.int .i64 d) ∧ w'.cell? ⟨0, 14, none⟩ = some (.int .i64 2))
        (refine And.intro ?_ (And.intro ?_ (And.intro ?_ (And.intro ?_ ?_))) <;> ((first | with_reducible refine cell_up (w := w1) ?_ p0 | with_reducible refine cell_up (w := w1) ?_ p1 | with_reducible refine cell_up (w := w1) ?_ p2 | with_reducible refine cell_up (w := w1) ?_ p3 | with_reducible refine cell_up (w := w1) ?_ t0); (repeat' (first | with_reducible exact HW.out | with_reducible exact Below.refl _ _ | with_reducible refine Below.drew ?_))))
        (first | (go_at_call 34; go_must (refine (call_int (impl_bandOf_any a b c d x _) HBn.out).mono ?_; rintro e w6 ⟨rfl, hb⟩; have HW : Hid (Below w1.heap.size w1 w6) := Lib.hid (by first | exact hb | exact (Below.refl w1.heap.size w1).drew.trans hb); clear hb)))
      all_goals (
        go_wp2_with (fail)
        go_ret
        exact ⟨ret_int (by rw [HV.out, HR.out]), by first | exact B1.out.trans (HW.out.mono B1.out.size) | exact (B1.out.trans (HW.out.mono B1.out.size)).drew⟩)
set_option maxHeartbeats 1600000 in
theorem spec_nextHealth_any (a b c d h x : Int) (w : World) :
    Calls Tryd.prog 31 #[.agg #[.int .i64 a, .int .i64 b, .int .i64 c, .int .i64 d], .int .i64 h, .int .i64 x] w fun e w' => e = .returned (.int .i64 (nhN a b c d h x)) ∧ Below w.heap.size w w' := by
  have B0 := Lib.hid (below_new w (.cells #[.int .i64 a, .int .i64 b, .int .i64 c, .int .i64 d] 25))
  by_cases e1 : d ≤ x
  · go_enter Tryd.func31, Tryd.ntmps31
    go_wp2_with (fail)
    go_ret
    exact ⟨ret_int (by simp [nhN, e1]), B0.out⟩
  have E1 := Lib.hid e1
  have e1' : decide (d ≤ x) = false := by simp; omega
  by_cases e2 : h = 2
  · have e2' : (h == 2) = true := by simp [e2]
    have E2 := Lib.hid e2
    clear e2
    by_cases e3 : c ≤ x
    · go_enter Tryd.func31, Tryd.ntmps31
      go_wp2_with (fail)
      go_ret
      exact ⟨ret_int (by simp [nhN, E2.out, e3]), B0.out⟩
    have e3' : decide (c ≤ x) = false := by simp; omega
    have e0' : (h != 0) = true := by have := E2.out; simp; omega
    by_cases e4 : b ≤ x
    · go_enter Tryd.func31, Tryd.ntmps31
      go_wp2_with (fail)
      go_ret
      exact ⟨ret_int (by have := E1.out; simp [nhN, e3, e4]; omega), B0.out⟩
    have e4' : decide (b ≤ x) = false := by simp; omega
    by_cases e5 : a ≤ x
    · go_enter Tryd.func31, Tryd.ntmps31
      go_wp2_with (fail)
      go_ret
      exact ⟨ret_int (by have := E1.out; have := E2.out; simp only [nhN]; rw [if_neg (by omega), if_pos (by omega)]), B0.out⟩
    have e5' : decide (a ≤ x) = false := by simp; omega
    go_enter Tryd.func31, Tryd.ntmps31
    go_wp2_with (fail)
    go_ret
    exact ⟨ret_int (by have := E1.out; have := E2.out; simp only [nhN]; rw [if_neg (by omega), if_neg (by omega)]), B0.out⟩
  have e2' : (h == 2) = false := by simp [e2]
  have E2 := Lib.hid e2
  clear e2
  by_cases e4 : b ≤ x
  · go_enter Tryd.func31, Tryd.ntmps31
    go_wp2_with (fail)
    go_ret
    exact ⟨ret_int (by have := E1.out; have := E2.out; simp only [nhN]; rw [if_neg (by omega), if_pos (by omega)]), B0.out⟩
  have e4' : decide (b ≤ x) = false := by simp; omega
  by_cases e0 : h = 0
  · have e0' : (h != 0) = false := by simp [e0]
    have E0 := Lib.hid e0
    clear e0
    go_enter Tryd.func31, Tryd.ntmps31
    go_wp2_with (fail)
    go_ret
    exact ⟨ret_int (by have := E1.out; have := E2.out; have := E0.out; simp only [nhN]; rw [if_neg (by omega), if_neg (by omega)]), B0.out⟩
  have e0' : (h != 0) = true := by simp [e0]
  have E0 := Lib.hid e0
  clear e0
  by_cases e5 : a ≤ x
  · go_enter Tryd.func31, Tryd.ntmps31
    go_wp2_with (fail)
    go_ret
    exact ⟨ret_int (by have := E1.out; have := E2.out; have := E0.out; simp only [nhN]; rw [if_neg (by omega), if_pos (by omega)]), B0.out⟩
  have e5' : decide (a ≤ x) = false := by simp; omega
  go_enter Tryd.func31, Tryd.ntmps31
  go_wp2_with (fail)
  go_ret
  exact ⟨ret_int (by have := E1.out; have := E2.out; have := E0.out; simp only [nhN]; rw [if_neg (by omega), if_neg (by omega)]), B0.out⟩
set_option maxHeartbeats 1600000 in
theorem spec_NextHealth_any (a b c d h x : Int) (w : World) :
    Calls Tryd.prog 14 #[.agg #[.int .i64 a, .int .i64 b, .int .i64 c, .int .i64 d], .int .i64 h, .int .i64 x] w fun e w' => e = .returned (.int .i64 (nhV a b c d h x)) ∧ Below w.heap.size w w' := by
  have B0 := Lib.hid (below_new w (.cells #[.int .i64 a, .int .i64 b, .int .i64 c, .int .i64 d] 25))
  have P0 := Lib.hid (Blk.new w 25 #[.int .i64 a, .int .i64 b, .int .i64 c, .int .i64 d])
  rcases hv : mkV a b c d with _ | _
  · skip
    go_enter Tryd.func14, Tryd.ntmps14
    go_wp2_with (fail)
    refine (call_bool (spec_validMarks_any a b c d _) hv).mono ?_
    rintro e w1 ⟨rfl, hb⟩
    have B1 := Lib.hid (B0.out.trans (hb.mono (by simp)))
    have P1 := Lib.hid (P0.out.on hb)
    clear hb
    obtain ⟨p0, p1, p2, p3⟩ := P1.out.c4
    go_wp2_with (fail)
    go_ret
    exact ⟨ret_int (by simp [nhV, hv]), B1.out⟩
  rcases hh : inR h 0 2 with _ | _
  · skip
    go_enter Tryd.func14, Tryd.ntmps14
    go_wp2_with (fail)
    refine (call_bool (spec_validMarks_any a b c d _) hv).mono ?_
    rintro e w1 ⟨rfl, hb⟩
    have B1 := Lib.hid (B0.out.trans (hb.mono (by simp)))
    have P1 := Lib.hid (P0.out.on hb)
    clear hb
    obtain ⟨p0, p1, p2, p3⟩ := P1.out.c4
    go_wp2_with (go_at_call 30; refine (spec_inRange_any _ _ _ _).mono ?_; rintro e w' ⟨rfl, rfl⟩)
    go_ret
    exact ⟨ret_int (by simp [nhV, hh]), B1.out⟩
  rcases hx : inR x 0 100 with _ | _
  · skip
    go_enter Tryd.func14, Tryd.ntmps14
    go_wp2_with (fail)
    refine (call_bool (spec_validMarks_any a b c d _) hv).mono ?_
    rintro e w1 ⟨rfl, hb⟩
    have B1 := Lib.hid (B0.out.trans (hb.mono (by simp)))
    have P1 := Lib.hid (P0.out.on hb)
    clear hb
    obtain ⟨p0, p1, p2, p3⟩ := P1.out.c4
    go_wp2_with (go_at_call 30; refine (spec_inRange_any _ _ _ _).mono ?_; rintro e w' ⟨rfl, rfl⟩)
    go_ret
    exact ⟨ret_int (by simp [nhV, hx]), B1.out⟩
  have HV := Lib.hid (nhV_t hv hh hx)
  go_enter Tryd.func14, Tryd.ntmps14
  go_wp2_with (fail)
  refine (call_bool (spec_validMarks_any a b c d _) hv).mono ?_
  rintro e w1 ⟨rfl, hb⟩
  have B1 := Lib.hid (B0.out.trans (hb.mono (by simp)))
  have P1 := Lib.hid (P0.out.on hb)
  clear hb
  obtain ⟨p0, p1, p2, p3⟩ := P1.out.c4
  go_wp2_with (go_at_call 30; refine (spec_inRange_any _ _ _ _).mono ?_; rintro e w' ⟨rfl, rfl⟩)
  refine (spec_nextHealth_any a b c d h x _).mono ?_
  rintro e w2 ⟨rfl, hb⟩
  have B2 := Lib.hid (B1.out.trans (hb.mono B1.out.size))
  clear hb
  go_wp2_with (fail)
  go_ret
  exact ⟨ret_int HV.out.symm, B2.out⟩
end Go.Proofs.YtdbfccfckinjmaaDoor
