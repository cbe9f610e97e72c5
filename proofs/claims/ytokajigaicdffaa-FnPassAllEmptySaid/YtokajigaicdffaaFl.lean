/-
  Contracts of the functions on times of batches: the validators, countUpTo, FlushTimes.
-/
import Derived.Test.YtokajigaicdffaaOwn
import Derived.Test.YtokajigaicdffaaFlM
import Derived.Lib.MinMax
import Derived.Deep.QuietTactic
namespace Go.Proofs.Ytokajigaicdffaa
open Go.RowKit

theorem OW.none (w : World) (T base : Nat) : OW w T base none 0 0 [] := ⟨rfl, .inl ⟨rfl, rfl⟩⟩
/-- The rest of a slice behind a place: the address stays where no room is behind it. -/
theorem IS.rest {w : World} {b off n c K : Nat} {xs : List Int} (h : IS w (some ⟨b, off, none⟩) n c xs) (hK : K ≤ n) :
    IS w (if c = K then some ⟨b, off, none⟩ else some ⟨b, off + K, none⟩) (n - K) (c - K) (xs.drop K) := by
  by_cases e : c = K
  · rw [if_pos e]
    have h1 := h.2.1
    have h2 := h.len
    have e1 : n - K = 0 := by omega
    have e2 : c - K = 0 := by omega
    rw [e1, e2, List.drop_of_length_le (by omega)]
    exact IS.empty w _ (Nat.zero_le _) (fun h => by cases h)
  · rw [if_neg e]
    have h1 := h.cut (lo := K) (hi := n) hK (Nat.le_refl _)
    rw [List.take_of_length_le (by have := h.len; omega)] at h1
    exact h1
theorem cmp_isNaN_any (a : Int) (w : World) :
    Calls Try.prog 34 #[.int .i64 a] w fun e w' => e = .returned (.bool false) ∧ w = w' := by
  have h : (a != a) = false := by simp
  go_enter Try.func34, Try.ntmps34
  go_wp2_with (fail)
  go_ret
  exact ⟨rfl, rfl⟩
theorem cmp_Less_any (a b : Int) (w : World) :
    Calls Try.prog 33 #[.int .i64 a, .int .i64 b] w fun e w' => e = .returned (.bool (decide (a < b))) ∧ w' = w := by
  go_enter Try.func33, Try.ntmps33
  go_wp2_with (go_at_call 34; refine (cmp_isNaN_any _ _).mono ?_; rintro e w' ⟨rfl, rfl⟩)
  go_ret
  exact ⟨ret_bool (by first | rfl | simp), rfl⟩
set_option maxHeartbeats 1000000 in
theorem IsSorted_any {A : Option Addr} {n c : Nat} {xs : List Int} (w : World) (h : IS w A n c xs) :
    Calls Try.prog 29 #[.slice A n c] w fun e w' => e = .returned (.bool (ascB xs)) ∧ ∃ m, w' = w.drewN m := by
  have hcap := h.cap
  have hl := h.len
  have HL := Lib.hid hl
  clear hl
  have H := Lib.hid h
  clear h
  rcases Nat.eq_zero_or_pos n with h0 | h0
  · subst h0
    go_enter Try.func29, Try.ntmps29
    go_wp2_with (fail)
    go_loop [3] (fun i => i = .int .i64 (-1)) (fun _ => 0)
    case atStart => first | rfl | go_num
    case round =>
      obtain rfl := hrel
      go_wp2_with (fail)
      go_ret
      exact ⟨ret_bool (by
        have : xs = [] := List.eq_nil_of_length_eq_zero HL.out
        subst this
        rfl), 0, rfl⟩
  obtain ⟨b, off, _, rfl, _, _⟩ := H.out.at_ (k := 0) h0
  have CELL : Hid (∀ k : Nat, k < n → w.cell? ⟨b, off + k, none⟩ = some (.int .i64 (xs.getD k 0))) := Lib.hid fun k hk => by
    obtain ⟨b', off', v, e, hv, hc⟩ := H.out.at_ hk
    simp only [Option.some.injEq, Addr.mk.injEq, and_true] at e
    obtain ⟨rfl, rfl⟩ := e
    rw [hc, getD_of hv]
  obtain ⟨p, hp⟩ : ∃ p, n = p + 1 := ⟨n - 1, by omega⟩
  have hp' : p + 1 = n := hp.symm
  have hw1 : IntKind.i64.wrap ((n : Int) - 1) = (p : Int) := by rw [IntKind.wrap_i64]; omega
  have HP := Lib.hid hp'
  clear hp hp'
  go_enter Try.func29, Try.ntmps29
  go_wp2_with (fail)
  go_loopw [3] (fun i wr => ∃ k mm : Nat, k + 1 ≤ n ∧ i = .int .i64 (k : Int) ∧ wr = w.drewN mm ∧ Hid (∀ j, k ≤ j → j + 1 < n → xs.getD j 0 ≤ xs.getD (j + 1) 0)) (fun i _ => (intOf i).toNat)
  case atStart => exact ⟨p, 0, by have := HP.out; omega, rfl, rfl, Lib.hid fun j hj hj2 => by have := HP.out; omega⟩
  case round =>
    obtain ⟨k, mm, hk, rfl, rfl, ha⟩ := hrel
    by_cases hlt : 0 < k
    · have hlt' : (0 : Int) < (k : Int) := by omega
      obtain ⟨q, hq⟩ : ∃ q, k = q + 1 := ⟨k - 1, by omega⟩
      have HQ := Lib.hid hq
      obtain ⟨u, hu⟩ : ∃ u, xs.getD q 0 = u := ⟨_, rfl⟩
      obtain ⟨v, hv⟩ : ∃ v, xs.getD k 0 = v := ⟨_, rfl⟩
      have c1 : w.cell? ⟨b, off + q, none⟩ = some (.int .i64 u) := by rw [← hu]; exact CELL.out q (by omega)
      have c2 : w.cell? ⟨b, off + k, none⟩ = some (.int .i64 v) := by rw [← hv]; exact CELL.out k (by omega)
      have HU := Lib.hid hu
      have HV := Lib.hid hv
      have z1 : (0 : Int) ≤ (k : Int) := by omega
      have z0 : (k : Int) < (n : Int) := by omega
      have z2 : (0 : Int) ≤ (q : Int) := by omega
      have z3 : (q : Int) < (n : Int) := by omega
      have w1' : IntKind.i64.wrap ((k : Int) - 1) = (q : Int) := by rw [IntKind.wrap_i64]; omega
      clear hu hv hq
      by_cases hvu : v < u
      · go_wp2_with (fail)
        refine wp_region_quiet_lit (by kernel_rfl) (by kernel_rfl) ?_
        repeat (quiet_step (fail))
        refine wpQuiet_step (fun K hK => ?_)
        go_simp
        refine ⟨.bool (decide (v < u)), fun _ => ?_, hK _ ?_⟩
        · refine (cmp_Less_any v u _).mono ?_
          rintro e w'' ⟨he, hw⟩
          exact ⟨he, _, hw⟩
        clear hK K
        refine wpQuiet_nil ?_
        intro _ hw'
        obtain ⟨nq, rfl⟩ := hw'
        go_wp2_with (fail)
        go_ret
        exact ⟨ret_bool (asc_no (i := q) (by have := HL.out; have := HQ.out; omega) (by rw [← HQ.out, HV.out, HU.out]; exact hvu)).symm, _, World.drewN_drewN _ _ _⟩
      · go_wp2_with (fail)
        refine wp_region_quiet_lit (by kernel_rfl) (by kernel_rfl) ?_
        repeat (quiet_step (fail))
        refine wpQuiet_step (fun K hK => ?_)
        go_simp
        refine ⟨.bool (decide (v < u)), fun _ => ?_, hK _ ?_⟩
        · refine (cmp_Less_any v u _).mono ?_
          rintro e w'' ⟨he, hw⟩
          exact ⟨he, _, hw⟩
        clear hK K
        refine wpQuiet_nil ?_
        intro _ hw'
        obtain ⟨nq, rfl⟩ := hw'
        go_wp2_with (fail)
        go_roundw
        case rel => exact ⟨q, _, by omega, by first | rfl | go_num, rfl, Lib.hid fun j hj hj2 => by
          rcases Nat.lt_or_ge j k with h1 | h1
          · have e : j = q := by have := HQ.out; omega
            rw [e, ← HQ.out, HU.out, HV.out]
            omega
          · exact ha.out j h1 hj2⟩
        case measure => simp [intOf]; have := HQ.out; omega
    · have hk0 : k = 0 := by omega
      subst hk0
      go_wp2_with (fail)
      go_ret
      exact ⟨ret_bool (asc_iff.2 fun i hi => ha.out i (Nat.zero_le _) (by have := HL.out; omega)).symm, _, rfl⟩
end Go.Proofs.Ytokajigaicdffaa
