/-
  Contracts of the functions on tries: BackoffOf, TryTime, LastWait; the table of waits is a premise of the program's ones.
-/
import Derived.Test.YtdbmglhoohgniaaDoorOwn
import Derived.Lib.MinMax
namespace Go.Proofs.YtdbmglhoohgniaaDoor
open Go.RowKit

/-- The table of waits lies in block 0. -/
def WA (w : World) : Prop := w.cell? ⟨0, 0, none⟩ = some (.int .i64 4) ∧ w.cell? ⟨0, 1, none⟩ = some (.int .i64 8) ∧ w.cell? ⟨0, 2, none⟩ = some (.int .i64 16) ∧ w.cell? ⟨0, 3, none⟩ = some (.int .i64 32) ∧ w.cell? ⟨0, 4, none⟩ = some (.int .i64 60) ∧ w.cell? ⟨0, 5, none⟩ = some (.int .i64 60)
theorem WA.below {w w' : World} {B : Nat} (h : WA w) (hb : Below B w w') (hB : w.heap.size ≤ B) : WA w' := by
  have hb := hb.mono hB
  exact ⟨cell_up hb h.1, cell_up hb h.2.1, cell_up hb h.2.2.1, cell_up hb h.2.2.2.1, cell_up hb h.2.2.2.2.1, cell_up hb h.2.2.2.2.2⟩
theorem WA.alloc {w : World} (h : WA w) (o : Obj) : WA (w.alloc o) := h.below (below_new w o) (Nat.le_refl _)
theorem WA.drew {w : World} (h : WA w) : WA w.drew := h
theorem WA.drewN {w : World} (h : WA w) (n : Nat) : WA (w.drewN n) := h

/-- How long to wait before the try after k others. -/
def boN : Nat → Int
  | 0 => 4
  | k + 1 => min (2 * boN k) 60
theorem boN_bd (k : Nat) : 4 ≤ boN k ∧ boN k ≤ 60 := by
  induction k with
  | zero => simp [boN]
  | succ k ih => simp only [boN]; omega
def boV (t : Int) : Int := if inR t 1 6 then boN (t.toNat - 1) else -1
theorem boV_1 : boV 1 = 4 := by decide
theorem boV_2 : boV 2 = 8 := by decide
theorem boV_3 : boV 3 = 16 := by decide
theorem boV_4 : boV 4 = 32 := by decide
theorem boV_5 : boV 5 = 60 := by decide
theorem boV_6 : boV 6 = 60 := by decide
theorem boV_no {t : Int} (h : inR t 1 6 = false) : boV t = -1 := by simp [boV, h]
theorem six {t : Int} (h : inR t 1 6 = true) : t = 1 ∨ t = 2 ∨ t = 3 ∨ t = 4 ∨ t = 5 ∨ t = 6 := by
  have := inR_iff.1 h
  omega
/-- The shorter wait of a batch. -/
def swV (b t : Int) : Int := boV t - (37 * b + 11 * t + 5) % ((boV t + 1) / 2)
theorem sw_1 (b : Int) : swV b 1 = 4 - (37 * b + 16) % 2 := by simp only [swV, boV_1]; show 4 - (37 * b + 11 * 1 + 5) % 2 = _; omega
theorem sw_2 (b : Int) : swV b 2 = 8 - (37 * b + 27) % 4 := by simp only [swV, boV_2]; show 8 - (37 * b + 11 * 2 + 5) % 4 = _; omega
theorem sw_3 (b : Int) : swV b 3 = 16 - (37 * b + 38) % 8 := by simp only [swV, boV_3]; show 16 - (37 * b + 11 * 3 + 5) % 8 = _; omega
theorem sw_4 (b : Int) : swV b 4 = 32 - (37 * b + 49) % 16 := by simp only [swV, boV_4]; show 32 - (37 * b + 11 * 4 + 5) % 16 = _; omega
theorem sw_5 (b : Int) : swV b 5 = 60 - (37 * b + 60) % 30 := by simp only [swV, boV_5]; show 60 - (37 * b + 11 * 5 + 5) % 30 = _; omega
theorem sw_6 (b : Int) : swV b 6 = 60 - (37 * b + 71) % 30 := by simp only [swV, boV_6]; show 60 - (37 * b + 11 * 6 + 5) % 30 = _; omega
theorem sw_bd {b t : Int} (h : inR t 1 6 = true) : swV b t ≤ boV t ∧ boV t ≤ 2 * swV b t ∧ 1 ≤ swV b t ∧ boV t ≤ 60 := by
  rcases six h with rfl | rfl | rfl | rfl | rfl | rfl
  · rw [sw_1, boV_1]; omega
  · rw [sw_2, boV_2]; omega
  · rw [sw_3, boV_3]; omega
  · rw [sw_4, boV_4]; omega
  · rw [sw_5, boV_5]; omega
  · rw [sw_6, boV_6]; omega
def ttOK (b t n : Int) : Bool := inR b 0 1000 && inR t 1 6 && inR n 0 1000
def ttV (b t n : Int) : Int := if ttOK b t n then n + swV b t else -1
/-- The sum of the first waits. -/
def lwN : Nat → Int
  | 0 => 0
  | k + 1 => lwN k + boN k
theorem lwN_bd (k : Nat) : 0 ≤ lwN k ∧ lwN k ≤ 60 * k := by
  induction k with
  | zero => simp [lwN]
  | succ k ih => have := boN_bd k; simp only [lwN]; omega
def lwV (t : Int) : Int := if inR t 0 6 then lwN t.toNat else -1
theorem boV_nat {k : Nat} (h : k + 1 ≤ 6) : boV ((k + 1 : Nat) : Int) = boN k := by
  have e : inR ((k + 1 : Nat) : Int) 1 6 = true := inR_t (by omega) (by omega)
  simp only [boV, e, if_true]
  rfl
theorem spec_backoff_any (t : Nat) (w : World) (h1 : 1 ≤ t) (h6 : t ≤ 6) :
    Calls Tryd.prog 33 #[.int .i64 (t : Int)] w fun e w' => e = .returned (.int .i64 (boN (t - 1))) ∧ w = w' := by
  go_enter Tryd.func33, Tryd.ntmps33
  go_wp2_with (fail)
  go_loop [3, 4] (fun n i => ∃ k : Nat, ∃ m : Int, k + 1 ≤ t ∧ 4 ≤ m ∧ m ≤ 60 ∧ i = .int .i64 ((k : Int) + 1) ∧ n = .int .i64 m ∧ Hid (boN k = m)) (fun _ i => t - (intOf i).toNat)
  case atStart => exact ⟨0, 4, by omega, by omega, by omega, rfl, rfl, Lib.hid rfl⟩
  case round =>
    obtain ⟨k, m, hk, hm0, hm1, rfl, rfl, hm⟩ := hrel
    by_cases hlt : k + 1 < t
    · have hlt' : (k : Int) + 1 < (t : Int) := by omega
      go_wp2_with (fail)
      go_round
      case rel => exact ⟨k + 1, min (2 * m) 60, by omega, by omega, by omega, by go_num, by go_num, Lib.hid (by simp only [boN]; rw [hm.out])⟩
      case measure => simp [intOf]; omega
    · have hlt' : ¬ (k : Int) + 1 < (t : Int) := by omega
      go_wp2_with (fail)
      go_ret
      have e : t - 1 = k := by omega
      exact ⟨ret_int (by rw [e]; exact hm.out.symm), rfl⟩
theorem spec_BackoffOf_any (t : Int) (w : World) :
    Calls Tryd.prog 16 #[.int .i64 t] w fun e w' => e = .returned (.int .i64 (boV t)) ∧ w = w' := by
  rcases hb : inR t 1 6 with _ | _
  · go_enter Tryd.func16, Tryd.ntmps16
    go_wp2_with (go_at_call 32; refine (spec_inRange_any _ _ _ _).mono ?_; rintro e w' ⟨rfl, rfl⟩)
    go_ret
    exact ⟨ret_int (boV_no hb).symm, rfl⟩
  · obtain ⟨h1, h6⟩ := inR_iff.1 hb
    obtain ⟨k, rfl⟩ := Int.eq_ofNat_of_zero_le (show 0 ≤ t by omega)
    go_enter Tryd.func16, Tryd.ntmps16
    go_wp2_with (first | (go_at_call 32; refine (spec_inRange_any _ _ _ _).mono ?_; rintro e w' ⟨rfl, rfl⟩) | (go_at_call 33; refine (spec_backoff_any k _ (by omega) (by omega)).mono ?_; rintro e w' ⟨rfl, rfl⟩))
    go_ret
    exact ⟨ret_int (by simp [boV, hb]), rfl⟩
theorem impl_BackoffOf_any (t : Int) (w : World) (h : WA w) :
    Calls Tryd.prog 17 #[.int .i64 t] w fun e w' => e = .returned (.int .i64 (boV t)) ∧ w = w' := by
  rcases hb : inR t 1 6 with _ | _
  · go_enter Tryd.func17, Tryd.ntmps17
    go_wp2_with (go_at_call 34; refine (impl_within_any _ _ _ _).mono ?_; rintro e w' ⟨rfl, rfl⟩)
    go_ret
    exact ⟨ret_int (boV_no hb).symm, rfl⟩
  · obtain ⟨c0, c1, c2, c3, c4, c5⟩ := h
    rcases six hb with rfl | rfl | rfl | rfl | rfl | rfl
    all_goals
      have HB := Lib.hid hb
      clear hb
      go_enter Tryd.func17, Tryd.ntmps17
      go_wp2_with (go_at_call 34; refine (call_b (impl_within_any _ _ _ _) HB.out).mono ?_; rintro e w' ⟨rfl, rfl⟩)
      go_ret
      first | exact ⟨ret_int boV_1.symm, rfl⟩ | exact ⟨ret_int boV_2.symm, rfl⟩ | exact ⟨ret_int boV_3.symm, rfl⟩ | exact ⟨ret_int boV_4.symm, rfl⟩ | exact ⟨ret_int boV_5.symm, rfl⟩ | exact ⟨ret_int boV_6.symm, rfl⟩
theorem impl_validFirst_any (b n : Int) (w : World) :
    Calls Tryd.prog 36 #[.int .i64 b, .int .i64 n] w fun e w' => e = .returned (.bool (inR b 0 1000 && inR n 0 1000)) ∧ w = w' := by
  rcases hb : inR b 0 1000 with _ | _
  all_goals rcases hn : inR n 0 1000 with _ | _
  all_goals
    go_enter Tryd.func36, Tryd.ntmps36
    go_wp2_with (go_at_call 34; refine (impl_within_any _ _ _ _).mono ?_; rintro e w' ⟨rfl, rfl⟩)
    go_ret
    exact ⟨ret_bool (by first | rfl | simp_all), rfl⟩
set_option maxHeartbeats 1000000 in
theorem impl_shortWait_any (b t : Int) (w : World) (h : WA w) (hb0 : 0 ≤ b) (hb1 : b ≤ 1000) (ht : inR t 1 6 = true) :
    Calls Tryd.prog 37 #[.int .i64 b, .int .i64 t] w fun e w' => e = .returned (.int .i64 (swV b t)) ∧ w = w' := by
  have H := Lib.hid h
  clear h
  rcases six ht with rfl | rfl | rfl | rfl | rfl | rfl
  · clear ht
    have HC := Lib.hid (call_int (impl_BackoffOf_any 1 w H.out) boV_1)
    go_enter Tryd.func37, Tryd.ntmps37
    go_wp2_with (go_at_call 17; refine HC.out.mono ?_; rintro e w' ⟨rfl, rfl⟩)
    go_ret
    exact ⟨ret_int (by rw [sw_1]; omega), rfl⟩
  · clear ht
    have HC := Lib.hid (call_int (impl_BackoffOf_any 2 w H.out) boV_2)
    go_enter Tryd.func37, Tryd.ntmps37
    go_wp2_with (go_at_call 17; refine HC.out.mono ?_; rintro e w' ⟨rfl, rfl⟩)
    go_ret
    exact ⟨ret_int (by rw [sw_2]; omega), rfl⟩
  · clear ht
    have HC := Lib.hid (call_int (impl_BackoffOf_any 3 w H.out) boV_3)
    go_enter Tryd.func37, Tryd.ntmps37
    go_wp2_with (go_at_call 17; refine HC.out.mono ?_; rintro e w' ⟨rfl, rfl⟩)
    go_ret
    exact ⟨ret_int (by rw [sw_3]; omega), rfl⟩
  · clear ht
    have HC := Lib.hid (call_int (impl_BackoffOf_any 4 w H.out) boV_4)
    go_enter Tryd.func37, Tryd.ntmps37
    go_wp2_with (go_at_call 17; refine HC.out.mono ?_; rintro e w' ⟨rfl, rfl⟩)
    go_ret
    exact ⟨ret_int (by rw [sw_4]; omega), rfl⟩
  · clear ht
    have HC := Lib.hid (call_int (impl_BackoffOf_any 5 w H.out) boV_5)
    go_enter Tryd.func37, Tryd.ntmps37
    go_wp2_with (go_at_call 17; refine HC.out.mono ?_; rintro e w' ⟨rfl, rfl⟩)
    go_ret
    exact ⟨ret_int (by rw [sw_5]; omega), rfl⟩
  · clear ht
    have HC := Lib.hid (call_int (impl_BackoffOf_any 6 w H.out) boV_6)
    go_enter Tryd.func37, Tryd.ntmps37
    go_wp2_with (go_at_call 17; refine HC.out.mono ?_; rintro e w' ⟨rfl, rfl⟩)
    go_ret
    exact ⟨ret_int (by rw [sw_6]; omega), rfl⟩
theorem spec_spreadOf_any (b t m : Int) (w : World) (hb0 : 0 ≤ b) (hb1 : b ≤ 1000) (ht0 : 0 ≤ t) (ht1 : t ≤ 6) (hm0 : 1 ≤ m) (hm1 : m ≤ 100) :
    Calls Tryd.prog 35 #[.int .i64 b, .int .i64 t, .int .i64 m] w fun e w' => e = .returned (.int .i64 ((37 * b + 11 * t + 5) % m)) ∧ w = w' := by
  have e : 37 * b + 11 * t + 5 = b * 37 + t * 11 + 5 := by omega
  have E := Lib.hid e
  clear e
  go_enter Tryd.func35, Tryd.ntmps35
  go_wp2_with (fail)
  go_ret
  exact ⟨ret_int (by rw [E.out]), rfl⟩
end Go.Proofs.YtdbmglhoohgniaaDoor
