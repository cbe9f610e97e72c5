/-
  Contracts of queues: the oldest entry of a class, entries without one, whether one may leave.
-/
import Derived.Test.YthemfejahohbeaaQuC
import Derived.Test.YthemfejahohbeaaQuP
import Derived.Test.YthemfejahohbeaaArF0
namespace Go.Proofs.Ythemfejahohbeaa
open Go.RowKit
set_option maxHeartbeats 1000000 in
theorem spec_firstOf_any {A : Option Addr} {n c : Nat} {xs : List Tr} (cl : Int) (w : World) (h : TS w A n c xs) (hn : n ≤ 1000000000) :
    Calls Try.prog 50 #[.slice A n c, .int .i64 cl] w fun e w' => e = .returned (.int .i64 (firstC cl xs)) ∧ w = w' := by
  have H := Lib.hid h
  clear h
  go_enter Try.func50, Try.ntmps50
  go_wp2_with (fail)
  go_loop [5] (fun i => ∃ k : Nat, k ≤ n ∧ i = .int .i64 k ∧ Hid (∀ j, j < k → ∀ y, xs[j]? = some y → y.b ≠ cl)) (fun i => n - (intOf i).toNat)
  case atStart => exact ⟨0, Nat.zero_le _, rfl, Lib.hid (fun j hj => absurd hj (by omega))⟩
  case round =>
    obtain ⟨k, hk, rfl, hp⟩ := hrel
    by_cases hlt : k < n
    · obtain ⟨b, off, x, rfl, hx, ca, cb, cc⟩ := H.out.at_ hlt
      have HX := Lib.hid hx
      clear hx
      by_cases hv : x.b = cl
      · subst hv
        go_wp2_with (fail)
        go_ret
        exact ⟨ret_int (firstC_at HX.out rfl hp.out).symm, rfl⟩
      · have hv2 : ¬ x.b = cl := hv
        go_wp2_with (fail)
        go_round
        case rel =>
          refine ⟨k + 1, by omega, by go_num, Lib.hid fun j hj y hy => ?_⟩
          rcases Nat.lt_or_ge j k with h1 | h1
          · exact hp.out j h1 y hy
          · obtain rfl : j = k := by omega
            obtain rfl : x = y := by have h2 := HX.out; rw [hy] at h2; injection h2 with h2; exact h2.symm
            exact hv2
        case measure => simp [intOf]; omega
    · go_wp2_with (fail)
      go_ret
      have ek : k = n := by omega
      subst ek
      exact ⟨ret_int (firstC_none fun j hj => hp.out j (by have := H.out.len; omega)).symm, rfl⟩
set_option maxHeartbeats 2000000 in
theorem spec_leave_any {A : Option Addr} {n c : Nat} {xs : List Tr} (k : Nat) (w : World) (h : TS w A n c xs) (hk : k < n) (hn : n ≤ 1000000) :
    Calls Try.prog 51 #[.slice A n c, .int .i64 (k : Int)] w (GaveTri 29 w (leaveL xs k)) := by
  have hnc := h.2.1
  have hcm := h.2.2.1
  simp only [maxLen] at hcm
  obtain ⟨b, off, x, rfl, hx, _⟩ := h.at_ hk
  have HL := Lib.hid h.len
  have H := Lib.hid h
  clear h hx
  have hki : (k : Int) < (n : Int) := by omega
  have h0 : (0 : Int) ≤ (k : Int) := by omega
  have h1 : (k : Int) + 1 ≤ (n : Int) := by omega
  have h2 : (k : Int) ≤ (c : Int) := by omega
  obtain ⟨AX, hAX⟩ : ∃ v, (if c = k + 1 then (some ⟨b, off, none⟩ : Option Addr) else some ⟨b, off + (k + 1) * 3, none⟩) = v := ⟨_, rfl⟩
  have C1 := Lib.hid ((H.out.cut (lo := 0) (hi := k) (Nat.zero_le _) (by omega)).alloc (.cells #[] 29))
  have C2 : Hid (TS w AX (n - (k + 1)) (c - (k + 1)) (xs.drop (k + 1))) := Lib.hid (by rw [← hAX]; exact H.out.rest (K := k + 1) hk)
  have C3 : Hid (TS (w.alloc (.cells #[] 29)) (some ⟨b, off, none⟩) k c (xs.take k)) := Lib.hid (by
    have h3 := (H.out.cut (lo := 0) (hi := k) (Nat.zero_le _) (by omega)).alloc (.cells #[] 29)
    simpa using h3)
  have e1 : ((k : Int) + 1).toNat = k + 1 := by omega
  go_enter Try.func51, Try.ntmps51
  go_wp2_with (first
    | (at_builtin; refine wpList_append_new _ rfl (.tmp 6) (.tmp 9) _ rfl 29 w.heap.size w.heap.size infoEnt2 Try.underlying23 rfl (Blk.new _ _ _) _ _ _ (xs.take k) rfl C3.out (by omega) (Nat.le_refl _) ?_; intro F1 d1 w1 ho hb hq; have O1 := Lib.hid ho; have B1 := Lib.hid (below_then (below_new w _) hb); clear ho hb hq)
    | (at_builtin; refine wpList_append_ts _ rfl (.tmp 11) (.tmp 15) _ rfl w.heap.size 29 infoEnt2 Try.underlying23 _ _ _ (xs.take k) rfl O1.out _ _ _ (xs.drop (k + 1)) rfl (C2.out.below B1.out (Nat.le_refl _)) (by omega) B1.out.size ?_; intro F2 d2 w2 ho hg; have O2 := Lib.hid ho; have B2 := Lib.hid (below_row B1.out hg B1.out.size O1.out.ge); clear ho hg))
  go_ret
  exact ⟨_, _, _, rfl, O2.out, B2.out⟩
end Go.Proofs.Ythemfejahohbeaa
