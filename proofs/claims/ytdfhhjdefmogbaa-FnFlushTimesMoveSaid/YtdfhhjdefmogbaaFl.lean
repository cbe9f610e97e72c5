/-
  Contracts of the functions on times of batches: the validators, countUpTo, FlushTimes.
-/
import Derived.Test.YtdfhhjdefmogbaaOwn
import Derived.Test.YtdfhhjdefmogbaaFlM
import Derived.Lib.MinMax
import Derived.Deep.QuietTactic
namespace Go.Proofs.Ytdfhhjdefmogbaa
open Go.RowKit

theorem OW.none (w : World) (T base : Nat) : OW w T base none 0 0 [] := ⟨rfl, .inl ⟨rfl, rfl⟩⟩
/-- The rest of a slice behind a place: the address stays where no room is behind it. -/
theorem IS.rest {w : World} {b off n c K : Nat} {xs : List Int} (h : IS w (some ⟨b, off, none⟩) n c xs) (hK : K ≤ n) :
    IS w (if c = K then some ⟨b, off, none⟩ else some ⟨b, off + K, none⟩) (n - K) (c - K) (xs.drop K) := by
  by_cases e : c = K
  · rw [if_pos e]
    have h1 := h.2.1
    have h2 := h.len
    have e1 : n - K = 0 := by omega
    have e2 : c - K = 0 := by omega
    rw [e1, e2, List.drop_of_length_le (by omega)]
    exact IS.empty w _ (Nat.zero_le _) (fun h => by cases h)
  · rw [if_neg e]
    have h1 := h.cut (lo := K) (hi := n) hK (Nat.le_refl _)
    rw [List.take_of_length_le (by have := h.len; omega)] at h1
    exact h1
theorem cmp_isNaN_any (a : Int) (w : World) :
    Calls Try.prog 31 #[.int .i64 a] w fun e w' => e = .returned (.bool false) ∧ w = w' := by
  have h : (a != a) = false := by simp
  go_enter Try.func31, Try.ntmps31
  go_wp2_with (fail)
  go_ret
  exact ⟨rfl, rfl⟩
theorem cmp_Less_any (a b : Int) (w : World) :
    Calls Try.prog 29 #[.int .i64 a, .int .i64 b] w fun e w' => e = .returned (.bool (decide (a < b))) ∧ w' = w := by
  go_enter Try.func29, Try.ntmps29
  go_wp2_with (go_at_call 31; refine (cmp_isNaN_any _ _).mono ?_; rintro e w' ⟨rfl, rfl⟩)
  go_ret
  exact ⟨ret_bool (by first | rfl | simp), rfl⟩
set_option maxHeartbeats 1000000 in
theorem IsSorted_any {A : Option Addr} {n c : Nat} {xs : List Int} (w : World) (h : IS w A n c xs) :
    Calls Try.prog 26 #[.slice A n c] w fun e w' => e = .returned (.bool (ascB xs)) ∧ ∃ m, w' = w.drewN m := by
  have hcap := h.cap
  have hl := h.len
  have HL := Lib.hid hl
  clear hl
  have H := Lib.hid h
  clear h
  rcases Nat.eq_zero_or_pos n with h0 | h0
  · subst h0
    go_enter Try.func26, Try.ntmps26
    go_wp2_with (fail)
    go_loop [3] (fun i => i = .int .i64 (-1)) (fun _ => 0)
    case atStart => first | rfl | go_num
    case round =>
      obtain rfl := hrel
      go_wp2_with (fail)
      go_ret
      exact ⟨ret_bool (by
        have : xs = [] := List.eq_nil_of_length_eq_zero HL.out
        subst this
        rfl), 0, rfl⟩
  obtain ⟨b, off, _, rfl, _, _⟩ := H.out.at_ (k := 0) h0
  have CELL : Hid (∀ k : Nat, k < n → w.cell? ⟨b, off + k, none⟩ = some (.int .i64 (xs.getD k 0))) := Lib.hid fun k hk => by
    obtain ⟨b', off', v, e, hv, hc⟩ := H.out.at_ hk
    simp only [Option.some.injEq, Addr.mk.injEq, and_true] at e
    obtain ⟨rfl, rfl⟩ := e
    rw [hc, getD_of hv]
  obtain ⟨p, hp⟩ : ∃ p, n = p + 1 := ⟨n - 1, by omega⟩
  have hp' : p + 1 = n := hp.symm
  have hw1 : IntKind.i64.wrap ((n : Int) - 1) = (p : Int) := by rw [IntKind.wrap_i64]; omega
  have HP := Lib.hid hp'
  clear hp hp'
  go_enter Try.func26, Try.ntmps26
  go_wp2_with (fail)
  go_loopw [3] (fun i wr => ∃ k mm : Nat, k + 1 ≤ n ∧ i = .int .i64 (k : Int) ∧ wr = w.drewN mm ∧ Hid (∀ j, k ≤ j → j + 1 < n → xs.getD j 0 ≤ xs.getD (j + 1) 0)) (fun i _ => (intOf i).toNat)
  case atStart => exact ⟨p, 0, by have := HP.out; omega, rfl, rfl, Lib.hid fun j hj hj2 => by have := HP.out; omega⟩
  case round =>
    obtain ⟨k, mm, hk, rfl, rfl, ha⟩ := hrel
    by_cases hlt : 0 < k
    · have hlt' : (0 : Int) < (k : Int) := by omega
      obtain ⟨q, hq⟩ : ∃ q, k = q + 1 := ⟨k - 1, by omega⟩
      have HQ := Lib.hid hq
      obtain ⟨u, hu⟩ : ∃ u, xs.getD q 0 = u := ⟨_, rfl⟩
      obtain ⟨v, hv⟩ : ∃ v, xs.getD k 0 = v := ⟨_, rfl⟩
      have c1 : w.cell? ⟨b, off + q, none⟩ = some (.int .i64 u) := by rw [← hu]; exact CELL.out q (by omega)
      have c2 : w.cell? ⟨b, off + k, none⟩ = some (.int .i64 v) := by rw [← hv]; exact CELL.out k (by omega)
      have HU := Lib.hid hu
      have HV := Lib.hid hv
      have z1 : (0 : Int) ≤ (k : Int) := by omega
      have z0 : (k : Int) < (n : Int) := by omega
      have z2 : (0 : Int) ≤ (q : Int) := by omega
      have z3 : (q : Int) < (n : Int) := by omega
      have w1' : IntKind.i64.wrap ((k : Int) - 1) = (q : Int) := by rw [IntKind.wrap_i64]; omega
      clear hu hv hq
      by_cases hvu : v < u
      · go_wp2_with (fail)
        refine wp_region_quiet_lit (by kernel_rfl) (by kernel_rfl) ?_
        repeat (quiet_step (fail))
        refine wpQuiet_step (fun K hK => ?_)
        go_simp
        refine ⟨.bool (decide (v < u)), fun _ => ?_, hK _ ?_⟩
        · refine (cmp_Less_any v u _).mono ?_
          rintro e w'' ⟨he, hw⟩
          exact ⟨he, _, hw⟩
        clear hK K
        refine wpQuiet_nil ?_
        intro _ hw'
        obtain ⟨nq, rfl⟩ := hw'
        go_wp2_with (fail)
        go_ret
        exact ⟨ret_bool (asc_no (i := q) (by have := HL.out; have := HQ.out; omega) (by rw [← HQ.out, HV.out, HU.out]; exact hvu)).symm, _, World.drewN_drewN _ _ _⟩
      · go_wp2_with (fail)
        refine wp_region_quiet_lit (by kernel_rfl) (by kernel_rfl) ?_
        repeat (quiet_step (fail))
        refine wpQuiet_step (fun K hK => ?_)
        go_simp
        refine ⟨.bool (decide (v < u)), fun _ => ?_, hK _ ?_⟩
        · refine (cmp_Less_any v u _).mono ?_
          rintro e w'' ⟨he, hw⟩
          exact ⟨he, _, hw⟩
        clear hK K
        refine wpQuiet_nil ?_
        intro _ hw'
        obtain ⟨nq, rfl⟩ := hw'
        go_wp2_with (fail)
        go_roundw
        case rel => exact ⟨q, _, by omega, by first | rfl | go_num, rfl, Lib.hid fun j hj hj2 => by
          rcases Nat.lt_or_ge j k with h1 | h1
          · have e : j = q := by have := HQ.out; omega
            rw [e, ← HQ.out, HU.out, HV.out]
            omega
          · exact ha.out j h1 hj2⟩
        case measure => simp [intOf]; have := HQ.out; omega
    · have hk0 : k = 0 := by omega
      subst hk0
      go_wp2_with (fail)
      go_ret
      exact ⟨ret_bool (asc_iff.2 fun i hi => ha.out i (Nat.zero_le _) (by have := HL.out; omega)).symm, _, rfl⟩
theorem impl_validTimes_any {A : Option Addr} {n c : Nat} {xs : List Int} (w : World) (h : IS w A n c xs) :
    Calls Try.prog 16 #[.slice A n c] w fun e w' => e = .returned (.bool (okT xs)) ∧ ∃ m, w' = w.drewN m := by
  have hcap := h.cap
  have hl := h.len
  have HL := Lib.hid hl
  clear hl
  have H := Lib.hid h
  clear h
  by_cases h12 : (n : Int) ≤ 12
  · rcases ha : allR xs 0 1000 with _ | _
    · go_enter Try.func16, Try.ntmps16
      go_wp2_with (go_at_call 25; refine (impl_allWithin_any _ _ _ H.out).mono ?_; rintro e w' ⟨rfl, rfl⟩)
      go_ret
      exact ⟨ret_bool (by simp [okT, ha]), 0, rfl⟩
    · go_enter Try.func16, Try.ntmps16
      go_wp2_with (first | (go_at_call 25; refine (impl_allWithin_any _ _ _ H.out).mono ?_; rintro e w' ⟨rfl, rfl⟩) | (go_at_call 26; refine (IsSorted_any _ H.out).mono ?_; rintro e w' ⟨rfl, mm, rfl⟩))
      go_ret
      exact ⟨ret_bool (by have := HL.out; simp [okT, ha]; omega), _, rfl⟩
  · go_enter Try.func16, Try.ntmps16
    go_wp2_with (fail)
    go_ret
    exact ⟨ret_bool (by have := HL.out; simp [okT]; omega), 0, rfl⟩
theorem impl_validMany_any (m : Int) (w : World) :
    Calls Try.prog 18 #[.int .i64 m] w fun e w' => e = .returned (.bool (inR m 1 12)) ∧ w = w' := by
  go_enter Try.func18, Try.ntmps18
  go_wp2_with (go_at_call 17; refine (impl_within_any _ _ _ _).mono ?_; rintro e w' ⟨rfl, rfl⟩)
  go_ret
  exact ⟨rfl, rfl⟩
set_option maxHeartbeats 1000000 in
theorem impl_countUpTo_any {A : Option Addr} {n c : Nat} {xs : List Int} (last : Int) (M : Nat) (w : World) (h : IS w A n c xs) (hM : M ≤ 12) :
    Calls Try.prog 19 #[.slice A n c, .int .i64 last, .int .i64 (M : Int)] w fun e w' => e = .returned (.int .i64 (upN last M xs : Nat)) ∧ w = w' := by
  have hcap := h.cap
  have HL := Lib.hid h.len
  have H := Lib.hid h
  clear h
  go_enter Try.func19, Try.ntmps19
  go_wp2_with (fail)
  go_loop [7] (fun i => ∃ k : Nat, k ≤ n ∧ k ≤ M ∧ i = .int .i64 (k : Int) ∧ Hid (upN last M xs = k + upN last (M - k) (xs.drop k))) (fun i => n - (intOf i).toNat)
  case atStart => exact ⟨0, Nat.zero_le _, Nat.zero_le _, rfl, Lib.hid (by simp)⟩
  case round =>
    obtain ⟨k, hk, hkM, rfl, ha⟩ := hrel
    by_cases hlt : k < n ∧ k < M
    · have hlt' : (k : Int) < min (n : Int) (M : Int) := by omega
      obtain ⟨h1, h2⟩ := hlt
      have z0 : (k : Int) < (n : Int) := by omega
      have z1 : (0 : Int) ≤ (k : Int) := by omega
      obtain ⟨b, off, v, rfl, hx, hc⟩ := H.out.at_ h1
      have HX := Lib.hid hx
      clear hx
      by_cases hv : v ≤ last
      · have hv' : decide (v ≤ last) = true := by simp [hv]
        go_wp2_with (fail)
        go_round
        case rel => exact ⟨k + 1, by omega, by omega, by go_num, Lib.hid (by rw [ha.out, upN_yes HX.out hv (by omega)]; have e : M - k - 1 = M - (k + 1) := by omega
                                                                             rw [e]; omega)⟩
        case measure => simp [intOf]; omega
      · have hv' : decide (v ≤ last) = false := by simp; omega
        go_wp2_with (fail)
        go_ret
        exact ⟨ret_int (by rw [ha.out, upN_no HX.out (by omega)]; simp), rfl⟩
    · have hlt' : ¬ (k : Int) < min (n : Int) (M : Int) := by omega
      go_wp2_with (fail)
      go_ret
      refine ⟨ret_int ?_, rfl⟩
      rw [ha.out]
      rcases Nat.lt_or_ge k M with h3 | h3
      · rw [List.drop_of_length_le (by have := HL.out; omega), upN_nil]; simp
      · have e : M - k = 0 := by omega
        rw [e]; simp [upN]
end Go.Proofs.Ytdfhhjdefmogbaa
