/-
  FlushTimes of the model and of the program.
-/
import Derived.Test.YtokajigaicdffaaFl
namespace Go.Proofs.Ytokajigaicdffaa
open Go.RowKit

theorem allR_drop {xs : List Int} {lo hi : Int} (h : allR xs lo hi = true) (k : Nat) : allR (xs.drop k) lo hi = true := by
  unfold allR at *
  rw [List.all_eq_true] at *
  exact fun x hx => h x (List.mem_of_mem_drop hx)
def lenS : Value → Nat
  | .slice _ n _ => n
  | _ => 0

set_option maxHeartbeats 2000000 in
theorem spec_validTimes_any {A : Option Addr} {n c : Nat} {xs : List Int} (age many : Int) (w : World) (h : IS w A n c xs) :
    Calls Try.prog 20 #[.slice A n c, .int .i64 age, .int .i64 many] w fun e w' => e = .returned (.bool (flOK xs age many)) ∧ ∃ m, w' = w.drewN m := by
  have hcap := h.cap
  have hl := h.len
  have HL := Lib.hid hl
  clear hl
  have H := Lib.hid h
  clear h
  have CELL : Hid (∀ k : Nat, k < n → ∃ b off, A = some ⟨b, off, none⟩ ∧ w.cell? ⟨b, off + k, none⟩ = some (.int .i64 (xs.getD k 0))) := Lib.hid fun k hk => by
    obtain ⟨b', off', v, e, hv, hc⟩ := H.out.at_ hk
    exact ⟨b', off', e, by rw [hc, getD_of hv]⟩
  go_enter Try.func20, Try.ntmps20
  go_wp2_with (fail)
  go_loopw [7] (fun i wr => ∃ k mm : Nat, 1 ≤ k ∧ k ≤ n + 1 ∧ i = .int .i64 (k : Int) ∧ wr = w.drewN mm ∧ Hid (∀ j, j + 1 < k → j + 1 < n → xs.getD j 0 ≤ xs.getD (j + 1) 0)) (fun i _ => n + 1 - (intOf i).toNat)
  case atStart => exact ⟨1, 0, by omega, by omega, rfl, rfl, Lib.hid fun j hj hj2 => by omega⟩
  case round =>
    obtain ⟨k, mm, hk1, hk, rfl, rfl, ha⟩ := hrel
    by_cases hlt : k < n
    · have hlt' : (k : Int) < (n : Int) := by omega
      obtain ⟨q, hq⟩ : ∃ q, k = q + 1 := ⟨k - 1, by omega⟩
      have HQ := Lib.hid hq
      obtain ⟨b, off, rfl, c2⟩ := CELL.out k hlt
      obtain ⟨_, _, e0, c1⟩ := CELL.out q (by omega)
      simp only [Option.some.injEq, Addr.mk.injEq, and_true] at e0
      obtain ⟨rfl, rfl⟩ := e0
      obtain ⟨u, hu⟩ : ∃ u, xs.getD q 0 = u := ⟨_, rfl⟩
      obtain ⟨v, hv⟩ : ∃ v, xs.getD k 0 = v := ⟨_, rfl⟩
      rw [hu] at c1
      rw [hv] at c2
      have HU := Lib.hid hu
      have HV := Lib.hid hv
      have z1 : (0 : Int) ≤ (k : Int) := by omega
      have z2 : (0 : Int) ≤ (q : Int) := by omega
      have z3 : (q : Int) < (n : Int) := by omega
      have w1' : IntKind.i64.wrap ((k : Int) - 1) = (q : Int) := by rw [IntKind.wrap_i64]; omega
      clear hu hv hq
      by_cases hvu : v < u
      · go_wp2_with (fail)
        go_quiet (fail)
        go_wp2_with (fail)
        go_ret
        have h0 : ascB xs = false := asc_no (i := q) (by have := HL.out; have := HQ.out; omega) (by rw [← HQ.out, HV.out, HU.out]; exact hvu)
        exact ⟨ret_bool (by simp [flOK, okT, h0]), _, World.drewN_drewN _ _ _⟩
      · go_wp2_with (fail)
        go_quiet (fail)
        go_wp2_with (fail)
        go_roundw
        case rel => exact ⟨k + 1, _, by omega, by omega, by go_num, rfl, Lib.hid fun j hj hj2 => by
          rcases Nat.lt_or_ge (j + 1) k with h1 | h1
          · exact ha.out j h1 hj2
          · have e : j = q := by have := HQ.out; omega
            rw [e, ← HQ.out, HU.out, HV.out]
            omega⟩
        case measure => simp [intOf]; omega
    · have hlt' : ¬ (k : Int) < (n : Int) := by omega
      have h1 : ascB xs = true := asc_iff.2 fun i hi => ha.out i (by have := HL.out; omega) (by have := HL.out; omega)
      have H1 := Lib.hid h1
      clear h1
      by_cases h12 : (n : Int) ≤ 12
      · rcases hr : allR xs 0 1000 with _ | _
        all_goals rcases ag : inR age 0 100 with _ | _
        all_goals rcases mn : inR many 1 12 with _ | _
        all_goals
          go_wp2_with (first | (go_at_call 19; refine (spec_allIn_any _ _ _ (H.out.drewN mm)).mono ?_; rintro e w' ⟨rfl, rfl⟩) | (go_at_call 30; refine (spec_inRange_any _ _ _ _).mono ?_; rintro e w' ⟨rfl, rfl⟩))
          go_ret
          exact ⟨ret_bool (by have e1 := HL.out; have e2 := H1.out; have e3 : xs.length ≤ 12 := by omega
                              simp [flOK, okT, hr, ag, mn, e2, e3]), _, rfl⟩
      · go_wp2_with (fail)
        go_ret
        exact ⟨ret_bool (by have e1 := HL.out; have e3 : ¬ xs.length ≤ 12 := by omega
                            simp [flOK, okT, e3]), _, rfl⟩
end Go.Proofs.Ytokajigaicdffaa
