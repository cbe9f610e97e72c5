/-
  FlushTimes of the model and of the program.
-/
import Derived.Test.YtdfhhjdefmogbaaFl
namespace Go.Proofs.Ytdfhhjdefmogbaa
open Go.RowKit

theorem allR_drop {xs : List Int} {lo hi : Int} (h : allR xs lo hi = true) (k : Nat) : allR (xs.drop k) lo hi = true := by
  unfold allR at *
  rw [List.all_eq_true] at *
  exact fun x hx => h x (List.mem_of_mem_drop hx)
def lenS : Value → Nat
  | .slice _ n _ => n
  | _ => 0

set_option maxHeartbeats 2000000 in
theorem spec_validTimes_any {A : Option Addr} {n c : Nat} {xs : List Int} (age many : Int) (w : World) (h : IS w A n c xs) :
    Calls Try.prog 15 #[.slice A n c, .int .i64 age, .int .i64 many] w fun e w' => e = .returned (.bool (flOK xs age many)) ∧ ∃ m, w' = w.drewN m := by
  have hcap := h.cap
  have hl := h.len
  have HL := Lib.hid hl
  clear hl
  have H := Lib.hid h
  clear h
  have CELL : Hid (∀ k : Nat, k < n → ∃ b off, A = some ⟨b, off, none⟩ ∧ w.cell? ⟨b, off + k, none⟩ = some (.int .i64 (xs.getD k 0))) := Lib.hid fun k hk => by
    obtain ⟨b', off', v, e, hv, hc⟩ := H.out.at_ hk
    exact ⟨b', off', e, by rw [hc, getD_of hv]⟩
  go_enter Try.func15, Try.ntmps15
  go_wp2_with (fail)
  go_loopw [7] (fun i wr => ∃ k mm : Nat, 1 ≤ k ∧ k ≤ n + 1 ∧ i = .int .i64 (k : Int) ∧ wr = w.drewN mm ∧ Hid (∀ j, j + 1 < k → j + 1 < n → xs.getD j 0 ≤ xs.getD (j + 1) 0)) (fun i _ => n + 1 - (intOf i).toNat)
  case atStart => exact ⟨1, 0, by omega, by omega, rfl, rfl, Lib.hid fun j hj hj2 => by omega⟩
  case round =>
    obtain ⟨k, mm, hk1, hk, rfl, rfl, ha⟩ := hrel
    by_cases hlt : k < n
    · have hlt' : (k : Int) < (n : Int) := by omega
      obtain ⟨q, hq⟩ : ∃ q, k = q + 1 := ⟨k - 1, by omega⟩
      have HQ := Lib.hid hq
      obtain ⟨b, off, rfl, c2⟩ := CELL.out k hlt
      obtain ⟨_, _, e0, c1⟩ := CELL.out q (by omega)
      simp only [Option.some.injEq, Addr.mk.injEq, and_true] at e0
      obtain ⟨rfl, rfl⟩ := e0
      obtain ⟨u, hu⟩ : ∃ u, xs.getD q 0 = u := ⟨_, rfl⟩
      obtain ⟨v, hv⟩ : ∃ v, xs.getD k 0 = v := ⟨_, rfl⟩
      rw [hu] at c1
      rw [hv] at c2
      have HU := Lib.hid hu
      have HV := Lib.hid hv
      have z1 : (0 : Int) ≤ (k : Int) := by omega
      have z2 : (0 : Int) ≤ (q : Int) := by omega
      have z3 : (q : Int) < (n : Int) := by omega
      have w1' : IntKind.i64.wrap ((k : Int) - 1) = (q : Int) := by rw [IntKind.wrap_i64]; omega
      clear hu hv hq
      by_cases hvu : v < u
      · go_wp2_with (fail)
        go_quiet (fail)
        go_wp2_with (fail)
        go_ret
        have h0 : ascB xs = false := asc_no (i := q) (by have := HL.out; have := HQ.out; omega) (by rw [← HQ.out, HV.out, HU.out]; exact hvu)
        exact ⟨ret_bool (by simp [flOK, okT, h0]), _, World.drewN_drewN _ _ _⟩
      · go_wp2_with (fail)
        go_quiet (fail)
        go_wp2_with (fail)
        go_roundw
        case rel => exact ⟨k + 1, _, by omega, by omega, by go_num, rfl, Lib.hid fun j hj hj2 => by
          rcases Nat.lt_or_ge (j + 1) k with h1 | h1
          · exact ha.out j h1 hj2
          · have e : j = q := by have := HQ.out; omega
            rw [e, ← HQ.out, HU.out, HV.out]
            omega⟩
        case measure => simp [intOf]; omega
    · have hlt' : ¬ (k : Int) < (n : Int) := by omega
      have h1 : ascB xs = true := asc_iff.2 fun i hi => ha.out i (by have := HL.out; omega) (by have := HL.out; omega)
      have H1 := Lib.hid h1
      clear h1
      by_cases h12 : (n : Int) ≤ 12
      · rcases hr : allR xs 0 1000 with _ | _
        all_goals rcases ag : inR age 0 100 with _ | _
        all_goals rcases mn : inR many 1 12 with _ | _
        all_goals
          go_wp2_with (first | (go_at_call 23; refine (spec_allIn_any _ _ _ (H.out.drewN mm)).mono ?_; rintro e w' ⟨rfl, rfl⟩) | (go_at_call 24; refine (spec_inRange_any _ _ _ _).mono ?_; rintro e w' ⟨rfl, rfl⟩))
          go_ret
          exact ⟨ret_bool (by have e1 := HL.out; have e2 := H1.out; have e3 : xs.length ≤ 12 := by omega
                              simp [flOK, okT, hr, ag, mn, e2, e3]), _, rfl⟩
      · go_wp2_with (fail)
        go_ret
        exact ⟨ret_bool (by have e1 := HL.out; have e3 : ¬ xs.length ≤ 12 := by omega
                            simp [flOK, okT, e3]), _, rfl⟩
set_option maxHeartbeats 4000000 in
theorem impl_FlushTimes_any {A : Option Addr} {n c : Nat} {xs : List Int} (age many : Int) (w : World) (h : IS w A n c xs) :
    Calls Try.prog 9 #[.slice A n c, .int .i64 age, .int .i64 many] w (GaveInts 3 w (flV xs age many)) := by
  have hl := h.len
  have HL := Lib.hid hl
  clear hl
  have H := Lib.hid h
  clear h
  rcases hv : okT xs with _ | _
  all_goals rcases ha : inR age 0 100 with _ | _
  all_goals rcases hm : inR many 1 12 with _ | _
  case true.true.true =>
    have hok : flOK xs age many = true := by simp [flOK, hv, ha, hm]
    obtain ⟨h12, hr, _, _, _⟩ := fl_in hok
    obtain ⟨a0, a1⟩ := inR_iff.1 ha
    obtain ⟨m0, m1⟩ := inR_iff.1 hm
    obtain ⟨M, rfl⟩ := Int.eq_ofNat_of_zero_le (show 0 ≤ many by omega)
    have hM1 : 1 ≤ M := by omega
    have hM12 : M ≤ 12 := by omega
    have HE : Hid (flV xs age (M : Int) = FL age M xs) := Lib.hid (by simp [flV, hok])
    have hn : n ≤ 12 := by have := HL.out; omega
    have HR := Lib.hid hr
    have HV := Lib.hid hv
    clear hok h12 hr hv
    go_enter Try.func9, Try.ntmps9
    go_wp2_with (first | (go_at_call 16; refine (call_b (impl_validTimes_any _ H.out) HV.out).mono ?_; rintro e w1 ⟨rfl, mm0, hw1⟩; have B1 := Lib.hid (show Below w.heap.size w w1 by rw [hw1]; exact below_drewN (Below.refl _ _) mm0); have H1 := Lib.hid (show IS w1 A n c xs by rw [hw1]; exact H.out.drewN mm0); clear hw1) | (go_at_call 17; refine (impl_within_any _ _ _ _).mono ?_; rintro e w' ⟨rfl, rfl⟩) | (go_at_call 18; refine (impl_validMany_any _ _).mono ?_; rintro e w' ⟨rfl, rfl⟩))
    clear ha hm
    go_loopw [7, 8] (fun l s wr => ∃ (ys out : List Int) (A1 : Option Addr) (n1 c1 : Nat) (A2 : Option Addr) (n2 c2 : Nat), n2 + n1 ≤ n ∧ l = .slice A1 n1 c1 ∧ s = .slice A2 n2 c2 ∧ Hid (out ++ FL age M ys = FL age M xs) ∧ Hid (OW wr 3 w.heap.size A1 n1 c1 out) ∧ Hid (Below w.heap.size w wr) ∧ Hid (IS wr A2 n2 c2 ys) ∧ Hid (Lt A2 w.heap.size ∨ n2 = 0) ∧ Hid (allR ys 0 1000 = true)) (fun _ s _ => lenS s)
    case atStart => exact ⟨xs, [], none, 0, 0, A, n, c, by omega, rfl, rfl, Lib.hid rfl, Lib.hid (OW.none _ _ _), B1, H1, Lib.hid (by
      rcases Nat.eq_zero_or_pos n with h0 | h0
      · exact .inr h0
      · refine .inl fun p hp => ?_
        obtain ⟨b, off, _, rfl, _, hc⟩ := H.out.at_ (k := 0) h0
        cases hp
        exact World.block_lt_of_cell? w ⟨b, off + 0, none⟩ hc), HR⟩
    case round =>
      obtain ⟨ys, out, A1, n1, c1, A2, n2, c2, hk, rfl, rfl, hf, ho, hb, hs, hlt2, hr⟩ := hrel
      clear B1 H1
      by_cases h0 : 0 < n2
      · have hlt' : (0 : Int) < (n2 : Int) := by omega
        obtain ⟨b, off, v, rfl, hx, hc⟩ := hs.out.at_ (k := 0) h0
        rw [Nat.add_zero] at hc
        obtain ⟨v0, v1⟩ := allR_at hx hr.out
        have hyl := hs.out.len
        have hcc := hs.out.2.1
        have hcm := hs.out.2.2.1
        simp only [maxLen] at hcm
        have hne : ys ≠ [] := by intro e; rw [e] at hyl; simp at hyl; omega
        have hv0 := getD_of hx
        obtain ⟨N, hN⟩ : ∃ N, nL age M ys = N := ⟨_, rfl⟩
        have hN1 := nL_pos (age := age) (many := M) hne a0 hM1
        obtain ⟨hN2, hN3⟩ := nL_le age M ys
        rw [hN] at hN1 hN2 hN3
        rw [hyl] at hN3
        have hNn := FL_next (age := age) (many := M) hne a0 hM1
        rw [hN] at hNn
        have HC := Lib.hid (call_int (impl_countUpTo_any (v + age) M wr hs.out hM12) (show ((upN (v + age) M ys : Nat) : Int) = (N : Int) by rw [← hN, nL, hv0]))
        have hbl : b < w.heap.size := by
          rcases hlt2.out with h | h
          · exact h _ rfl
          · omega
        have hsz := hb.out.size
        have z1 : (0 : Int) ≤ (N : Int) := by omega
        have z2 : (N : Int) ≤ (n2 : Int) := by omega
        have z3 : (n2 : Int) ≤ (c2 : Int) := by omega
        obtain ⟨AX, hAX⟩ : ∃ x, (if c2 = N then some (⟨b, off, none⟩ : Addr) else some ⟨b, off + N, none⟩) = x := ⟨_, rfl⟩
        have hAXb : ∀ q, AX = some q → q.block < w.heap.size := by
          intro q hq
          rw [← hAX] at hq
          split at hq <;> (cases hq; exact hbl)
        have HAXB := Lib.hid hAXb
        have HRD := Lib.hid (show allR (ys.drop N) 0 1000 = true from allR_drop hr.out N)
        clear hAXb hlt2
        rcases Nat.lt_or_ge N M with hNM | hNM
        · skip
          have hNM' : ((N : Int) == (M : Int)) = false := by simp; omega
          have HD : Hid (dueL age M ys = v + age) := Lib.hid (by simp only [dueL, hN]; rw [if_neg (by omega), hv0])
          have HF : Hid (out ++ [v + age] ++ FL age M (ys.drop N) = FL age M xs) := Lib.hid (by rw [← hf.out, hNn, HD.out, List.append_assoc]; rfl)
          have O7 := Lib.hid (show OW (wr.alloc (.cells #[.int .i64 (v + age)] 3)) 3 w.heap.size A1 n1 c1 out from ho.out.alloc _)
          have SV : Hid (IS (wr.alloc (.cells #[.int .i64 (v + age)] 3)) (some ⟨wr.heap.size, 0, none⟩) 1 1 [v + age]) := Lib.hid (by simpa using (OW.lit wr 3 0 [v + age] (by simp) (by simp)).is)
          have B7 := Lib.hid (hb.out.alloc hb.out.size (.cells #[.int .i64 (v + age)] 3))
          have S7 := Lib.hid (show IS (wr.alloc (.cells #[.int .i64 (v + age)] 3)) AX (n2 - N) (c2 - N) (ys.drop N) from (hAX ▸ hs.out.rest (by omega)).alloc _)
          have hnn : n1 + 1 ≤ n := by omega
          clear hNn hx hyl hne hv0 HD hN
          go_wp2_with (first | (go_at_call 19; refine HC.out.mono ?_; rintro e w' ⟨rfl, rfl⟩) | (at_builtin; go_must (refine wpList_append_is _ rfl (.tmp 45) (.tmp 47) _ rfl w.heap.size 3 infoInt Try.underlying22 _ _ _ _ rfl O7.out _ _ _ _ rfl SV.out (by omega) (by simp; omega) ?_); intro A8 c8 w8 hown8 hg8; have O8 := Lib.hid hown8; have B8 := Lib.hid (O7.out.below_grown hg8 B7.out (Nat.le_refl _) (by simp; omega)); have S8 := Lib.hid (S7.out.grown O7.out hg8 HAXB.out); clear hown8 hg8))
          go_roundw
          case rel => exact ⟨ys.drop N, out ++ [v + age], A8, n1 + 1, c8, AX, n2 - N, c2 - N, by omega, rfl, by first | rfl | simp, HF, O8, B8, S8, Lib.hid (.inl HAXB.out), HRD⟩
          case measure => simp [lenS]; omega
        · skip
          have hNM' : ((N : Int) == (M : Int)) = true := by simp; omega
          obtain ⟨p, hp⟩ : ∃ p, N = p + 1 := ⟨N - 1, by omega⟩
          obtain ⟨b', off', u, e0, hu, hcu⟩ := hs.out.at_ (k := p) (by omega)
          simp only [Option.some.injEq, Addr.mk.injEq, and_true] at e0
          obtain ⟨rfl, rfl⟩ := e0
          have HD : Hid (dueL age M ys = u) := Lib.hid (by simp only [dueL, hN]; rw [if_pos (by omega), hp, Nat.add_sub_cancel, getD_of hu])
          have y1 : (0 : Int) ≤ (p : Int) := by omega
          have y2 : (p : Int) < (n2 : Int) := by omega
          have w1' : IntKind.i64.wrap ((N : Int) - 1) = (p : Int) := by rw [IntKind.wrap_i64]; omega
          clear hu hp
          have HF : Hid (out ++ [u] ++ FL age M (ys.drop N) = FL age M xs) := Lib.hid (by rw [← hf.out, hNn, HD.out, List.append_assoc]; rfl)
          have O7 := Lib.hid (show OW (wr.alloc (.cells #[.int .i64 (u)] 3)) 3 w.heap.size A1 n1 c1 out from ho.out.alloc _)
          have SV : Hid (IS (wr.alloc (.cells #[.int .i64 (u)] 3)) (some ⟨wr.heap.size, 0, none⟩) 1 1 [u]) := Lib.hid (by simpa using (OW.lit wr 3 0 [u] (by simp) (by simp)).is)
          have B7 := Lib.hid (hb.out.alloc hb.out.size (.cells #[.int .i64 (u)] 3))
          have S7 := Lib.hid (show IS (wr.alloc (.cells #[.int .i64 (u)] 3)) AX (n2 - N) (c2 - N) (ys.drop N) from (hAX ▸ hs.out.rest (by omega)).alloc _)
          have hnn : n1 + 1 ≤ n := by omega
          clear hNn hx hyl hne hv0 HD hN
          go_wp2_with (first | (go_at_call 19; refine HC.out.mono ?_; rintro e w' ⟨rfl, rfl⟩) | (at_builtin; go_must (refine wpList_append_is _ rfl (.tmp 45) (.tmp 47) _ rfl w.heap.size 3 infoInt Try.underlying22 _ _ _ _ rfl O7.out _ _ _ _ rfl SV.out (by omega) (by simp; omega) ?_); intro A8 c8 w8 hown8 hg8; have O8 := Lib.hid hown8; have B8 := Lib.hid (O7.out.below_grown hg8 B7.out (Nat.le_refl _) (by simp; omega)); have S8 := Lib.hid (S7.out.grown O7.out hg8 HAXB.out); clear hown8 hg8))
          go_roundw
          case rel => exact ⟨ys.drop N, out ++ [u], A8, n1 + 1, c8, AX, n2 - N, c2 - N, by omega, rfl, by first | rfl | simp, HF, O8, B8, S8, Lib.hid (.inl HAXB.out), HRD⟩
          case measure => simp [lenS]; omega
      · have hlt' : ¬ (0 : Int) < (n2 : Int) := by omega
        obtain rfl : n2 = 0 := by omega
        go_wp2_with (fail)
        go_ret
        refine ⟨_, _, _, rfl, ?_, hb.out⟩
        have e := hf.out
        rw [List.eq_nil_of_length_eq_zero hs.out.len, FL_nil, List.append_nil] at e
        rw [HE.out, ← e]
        exact ho.out
  all_goals
    go_enter Try.func9, Try.ntmps9
    go_wp2_with (first | (go_at_call 16; refine (call_b (impl_validTimes_any _ H.out) hv).mono ?_; rintro e w1 ⟨rfl, mm0, hw1⟩; have B1 := Lib.hid (show Below w.heap.size w w1 by rw [hw1]; exact below_drewN (Below.refl _ _) mm0); clear hw1) | (go_at_call 17; refine (impl_within_any _ _ _ _).mono ?_; rintro e w' ⟨rfl, rfl⟩) | (go_at_call 18; refine (impl_validMany_any _ _).mono ?_; rintro e w' ⟨rfl, rfl⟩))
    go_ret
    exact ⟨_, _, _, rfl, by rw [flV_no (by simp [flOK, hv, ha, hm])]; exact OW.none _ _ _, B1.out⟩
end Go.Proofs.Ytdfhhjdefmogbaa
