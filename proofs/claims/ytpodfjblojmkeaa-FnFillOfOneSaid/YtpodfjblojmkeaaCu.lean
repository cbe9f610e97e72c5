/-
  Contracts of the functions on sizes of batches, but for those that range over a function.
-/
import Derived.Test.YtpodfjblojmkeaaCnt
import Derived.Test.YtpodfjblojmkeaaCuM
import Derived.Lib.MinMax
import Derived.Deep.QuietTactic
namespace Go.Proofs.Ytpodfjblojmkeaa
open Go.RowKit

theorem OW.none (w : World) (T base : Nat) : OW w T base none 0 0 [] := ⟨rfl, .inl ⟨rfl, rfl⟩⟩
/-- The rest of a slice behind a place: the address stays where no room is behind it. -/
theorem IS.rest {w : World} {b off n c K : Nat} {xs : List Int} (h : IS w (some ⟨b, off, none⟩) n c xs) (hK : K ≤ n) :
    IS w (if c = K then some ⟨b, off, none⟩ else some ⟨b, off + K, none⟩) (n - K) (c - K) (xs.drop K) := by
  by_cases e : c = K
  · rw [if_pos e]
    have h1 := h.2.1
    have h2 := h.len
    have e1 : n - K = 0 := by omega
    have e2 : c - K = 0 := by omega
    rw [e1, e2, List.drop_of_length_le (by omega)]
    exact IS.empty w _ (Nat.zero_le _) (fun h => by cases h)
  · rw [if_neg e]
    have h1 := h.cut (lo := K) (hi := n) hK (Nat.le_refl _)
    rw [List.take_of_length_le (by have := h.len; omega)] at h1
    exact h1
theorem IS.first {w : World} {A : Option Addr} {n c K : Nat} {xs : List Int} (h : IS w A n c xs) (hK : K ≤ n) : IS w A K c (xs.take K) := by
  refine ⟨by rw [List.length_take]; have := h.1; omega, by have := h.2.1; omega, h.2.2.1, fun hn => ?_, h.2.2.2.2⟩
  obtain ⟨b, off, e, hc⟩ := h.2.2.2.1 (by omega)
  refine ⟨b, off, e, fun j hj => ?_⟩
  rw [hc j (by omega)]
  congr 2
  rw [List.getD_eq_getElem?_getD, List.getD_eq_getElem?_getD, List.getElem?_take, if_pos hj]
theorem impl_validMany_any (m : Int) (w : World) :
    Calls Try.prog 43 #[.int .i64 m] w fun e w' => e = .returned (.bool (inR m 1 12)) ∧ w = w' := by
  go_enter Try.func43, Try.ntmps43
  go_wp2_with (go_at_call 42; refine (impl_within_any _ _ _ _).mono ?_; rintro e w' ⟨rfl, rfl⟩)
  go_ret
  exact ⟨rfl, rfl⟩
theorem impl_validSizes_any {A : Option Addr} {n c : Nat} {xs : List Int} (w : World) (h : IS w A n c xs) :
    Calls Try.prog 41 #[.slice A n c] w fun e w' => e = .returned (.bool (decide (xs.length ≤ 12) && allR xs 1 20)) ∧ w = w' := by
  have hcap := h.cap
  have HL := Lib.hid h.len
  have H := Lib.hid h
  clear h
  by_cases h12 : (n : Int) ≤ 12
  · go_enter Try.func41, Try.ntmps41
    go_wp2_with (go_at_call 49; refine (impl_allWithin_any _ _ _ H.out).mono ?_; rintro e w' ⟨rfl, rfl⟩)
    go_ret
    exact ⟨ret_bool (by have h1 : xs.length ≤ 12 := by { have := HL.out; omega }
                        simp [h1]), rfl⟩
  · go_enter Try.func41, Try.ntmps41
    go_wp2_with (fail)
    go_ret
    exact ⟨ret_bool (by have h1 : ¬ xs.length ≤ 12 := by { have := HL.out; omega }
                        simp [h1]), rfl⟩
theorem impl_validCut_any {A : Option Addr} {n c : Nat} {xs : List Int} (bytes many : Int) (w : World) (h : IS w A n c xs) :
    Calls Try.prog 33 #[.slice A n c, .int .i64 bytes, .int .i64 many] w fun e w' => e = .returned (.bool (cutOK xs bytes many)) ∧ w = w' := by
  have H := Lib.hid h
  clear h
  rcases hz : (decide (xs.length ≤ 12) && allR xs 1 20) with _ | _
  all_goals rcases hb : inR bytes 20 200 with _ | _
  all_goals rcases hm : inR many 1 12 with _ | _
  all_goals
    have HZ := Lib.hid hz
    clear hz
    go_enter Try.func33, Try.ntmps33
    go_wp2_with (first | (go_at_call 41; refine (call_b (impl_validSizes_any _ H.out) HZ.out).mono ?_; rintro e w' ⟨rfl, rfl⟩) | (go_at_call 42; refine (impl_within_any _ _ _ _).mono ?_; rintro e w' ⟨rfl, rfl⟩) | (go_at_call 43; refine (impl_validMany_any _ _).mono ?_; rintro e w' ⟨rfl, rfl⟩))
    go_ret
    exact ⟨ret_bool (by simp only [cutOK, HZ.out, hb, hm]; rfl), rfl⟩
theorem spec_validSizes_any {A : Option Addr} {n c : Nat} {xs : List Int} (bytes many : Int) (w : World) (h : IS w A n c xs) :
    Calls Try.prog 35 #[.slice A n c, .int .i64 bytes, .int .i64 many] w fun e w' => e = .returned (.bool (cutOK xs bytes many)) ∧ w = w' := by
  have hcap := h.cap
  have HL := Lib.hid h.len
  have H := Lib.hid h
  clear h
  by_cases h12 : (n : Int) ≤ 12
  · rcases hr : allR xs 1 20 with _ | _
    all_goals rcases hb : inR bytes 20 200 with _ | _
    all_goals rcases hm : inR many 1 12 with _ | _
    all_goals
      go_enter Try.func35, Try.ntmps35
      go_wp2_with (first | (go_at_call 46; refine (spec_allIn_any _ _ _ H.out).mono ?_; rintro e w' ⟨rfl, rfl⟩) | (go_at_call 47; refine (spec_inRange_any _ _ _ _).mono ?_; rintro e w' ⟨rfl, rfl⟩))
      go_ret
      exact ⟨ret_bool (by have := HL.out; have e : xs.length ≤ 12 := by omega
                          simp [cutOK, hr, hb, hm, e]), rfl⟩
  · go_enter Try.func35, Try.ntmps35
    go_wp2_with (fail)
    go_ret
    exact ⟨ret_bool (by have := HL.out; have e : ¬ xs.length ≤ 12 := by omega
                        simp [cutOK, e]), rfl⟩
set_option maxHeartbeats 1000000 in
theorem impl_countThatFit_any {A : Option Addr} {n c : Nat} {xs : List Int} (bytes : Int) (M : Nat) (w : World) (h : IS w A n c xs) (hr : allR xs 1 20 = true) (hb0 : 0 ≤ bytes) (hb1 : bytes ≤ 200) (hM : M ≤ 12) :
    Calls Try.prog 45 #[.slice A n c, .int .i64 bytes, .int .i64 (M : Int)] w fun e w' => e = .returned (.int .i64 (fitN bytes M xs : Nat)) ∧ w = w' := by
  have hcap := h.cap
  have HL := Lib.hid h.len
  have H := Lib.hid h
  have HR := Lib.hid hr
  clear h hr
  go_enter Try.func45, Try.ntmps45
  go_wp2_with (fail)
  go_loop [1, 7] (fun l i => ∃ (k : Nat) (left : Int), k ≤ n ∧ k ≤ M ∧ 0 ≤ left ∧ left ≤ 200 ∧ i = .int .i64 (k : Int) ∧ l = .int .i64 left ∧ Hid (fitN bytes M xs = k + fitN left (M - k) (xs.drop k))) (fun _ i => n - (intOf i).toNat)
  case atStart => exact ⟨0, bytes, Nat.zero_le _, Nat.zero_le _, hb0, hb1, rfl, rfl, Lib.hid (by simp)⟩
  case round =>
    obtain ⟨k, left, hk, hkM, hl0, hl1, rfl, rfl, ha⟩ := hrel
    by_cases hlt : k < n ∧ k < M
    · have hlt' : (k : Int) < min (n : Int) (M : Int) := by omega
      obtain ⟨h1, h2⟩ := hlt
      have z0 : (k : Int) < (n : Int) := by omega
      have z1 : (0 : Int) ≤ (k : Int) := by omega
      obtain ⟨b, off, v, rfl, hx, hc⟩ := H.out.at_ h1
      obtain ⟨v0, v1⟩ := allR_at hx HR.out
      have HX := Lib.hid hx
      clear hx
      by_cases hv : v ≤ left
      · have hv' : decide (v ≤ left) = true := by simp [hv]
        go_wp2_with (fail)
        go_round
        case rel => exact ⟨k + 1, left - v, by omega, by omega, by omega, by omega, by go_num, by go_num, Lib.hid (by
          rw [ha.out, fit_yes HX.out hv (by omega)]
          have e : M - k - 1 = M - (k + 1) := by omega
          rw [e]; omega)⟩
        case measure => simp [intOf]; omega
      · have hv' : decide (v ≤ left) = false := by simp; omega
        go_wp2_with (fail)
        go_ret
        exact ⟨ret_int (by rw [ha.out, fit_no HX.out (by omega)]; simp), rfl⟩
    · have hlt' : ¬ (k : Int) < min (n : Int) (M : Int) := by omega
      go_wp2_with (fail)
      go_ret
      refine ⟨ret_int ?_, rfl⟩
      rw [ha.out]
      rcases Nat.lt_or_ge k M with h3 | h3
      · rw [List.drop_of_length_le (by have := HL.out; omega), fit_nil]; simp
      · have e : M - k = 0 := by omega
        rw [e]; simp [fitN]
end Go.Proofs.Ytpodfjblojmkeaa
