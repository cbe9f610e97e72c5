/-
  Contracts of the model: whether an item, a budget and entries fit together.
-/
import Derived.Test.YtcolkfhhcmhfjaaAsk
import Derived.RegionTactic
namespace Go.Proofs.Ytcolkfhhcmhfjaa
open Go.RowKit
set_option maxHeartbeats 2000000 in
theorem spec_validAsk_any {A A' B : Option Addr} {n c n' c' m d : Nat} {ks us : List Int} {xs : List Tr} (t cl sz : Int) (w : World) (h : IS w A n c ks) (h' : IS w A' n' c' us) (h2 : TS w B m d xs) :
    Calls Try.prog 32 #[.agg #[.int .i64 t, .slice A n c, .slice A' n' c'], .slice B m d, .int .i64 cl, .int .i64 sz] w fun e w' => e = .returned (.bool (askV t ks us xs cl sz)) ∧ Below w.heap.size w w' := by
  have P := Lib.hid (Blk.new w 29 #[.int .i64 t, .slice A n c, .slice A' n' c'])
  have H := Lib.hid (h.alloc (.cells #[.int .i64 t, .slice A n c, .slice A' n' c'] 29))
  have H' := Lib.hid (h'.alloc (.cells #[.int .i64 t, .slice A n c, .slice A' n' c'] 29))
  have H2 := Lib.hid (h2.alloc (.cells #[.int .i64 t, .slice A n c, .slice A' n' c'] 29))
  have B0 := Lib.hid (below_new w (.cells #[.int .i64 t, .slice A n c, .slice A' n' c'] 29))
  have HL := Lib.hid h'.len
  clear h h' h2
  rcases e1 : validB t ks us with _ | _
  · go_enter Try.func32, Try.ntmps32
    go_wp2_with (fail)
    refine (call_b (spec_validBudget_any t _ H.out H'.out) e1).mono ?_
    rintro e w1 ⟨rfl, hb⟩
    have BB := Lib.hid (below_then B0.out hb)
    clear hb
    go_wp2_with (fail)
    go_ret
    exact ⟨ret_bool (askV_1 e1).symm, BB.out⟩
  have E1 := Lib.hid e1
  clear e1
  rcases e2 : validE xs with _ | _
  · go_enter Try.func32, Try.ntmps32
    go_wp2_with (fail)
    refine (call_b (spec_validBudget_any t _ H.out H'.out) E1.out).mono ?_
    rintro e w1 ⟨rfl, hb⟩
    have B1 := Lib.hid (below_then B0.out hb)
    have T1 := Lib.hid (H2.out.below hb (Nat.le_refl _))
    clear hb
    go_wp2_with (fail)
    refine (call_b (spec_validEntries_any _ T1.out) e2).mono ?_
    rintro e w2 ⟨rfl, hb⟩
    have BB := Lib.hid (below_then B1.out hb)
    clear hb
    go_wp2_with (fail)
    go_ret
    exact ⟨ret_bool (askV_2 e2).symm, BB.out⟩
  have E2 := Lib.hid e2
  clear e2
  rcases e3 : inR cl 0 2 with _ | _
  · go_enter Try.func32, Try.ntmps32
    go_wp2_with (fail)
    refine (call_b (spec_validBudget_any t _ H.out H'.out) E1.out).mono ?_
    rintro e w1 ⟨rfl, hb⟩
    have B1 := Lib.hid (below_then B0.out hb)
    have T1 := Lib.hid (H2.out.below hb (Nat.le_refl _))
    clear hb
    go_wp2_with (fail)
    refine (call_b (spec_validEntries_any _ T1.out) E2.out).mono ?_
    rintro e w2 ⟨rfl, hb⟩
    have B2 := Lib.hid (below_then B1.out hb)
    clear hb
    go_wp2_with (go_at_call 47; refine (call_b (spec_inRange_any _ _ _ _) e3).mono ?_; rintro e w' ⟨rfl, rfl⟩)
    go_ret
    exact ⟨ret_bool (askV_3 e3).symm, B2.out⟩
  have E3 := Lib.hid e3
  clear e3
  rcases e4 : inR sz 1 200 with _ | _
  · go_enter Try.func32, Try.ntmps32
    go_wp2_with (fail)
    refine (call_b (spec_validBudget_any t _ H.out H'.out) E1.out).mono ?_
    rintro e w1 ⟨rfl, hb⟩
    have B1 := Lib.hid (below_then B0.out hb)
    have T1 := Lib.hid (H2.out.below hb (Nat.le_refl _))
    clear hb
    go_wp2_with (fail)
    refine (call_b (spec_validEntries_any _ T1.out) E2.out).mono ?_
    rintro e w2 ⟨rfl, hb⟩
    have B2 := Lib.hid (below_then B1.out hb)
    clear hb
    go_wp2_with (first | (go_at_call 47; with_reducible refine (call_b (spec_inRange_any _ _ _ _) E3.out).mono ?_; rintro e w' ⟨rfl, rfl⟩) | (go_at_call 47; with_reducible refine (call_b (spec_inRange_any _ _ _ _) e4).mono ?_; rintro e w' ⟨rfl, rfl⟩))
    go_ret
    exact ⟨ret_bool (askV_4 e4).symm, B2.out⟩
  have E4 := Lib.hid e4
  clear e4
  have EV := Lib.hid (askV_5 E1.out E2.out E3.out E4.out)
  have HV := Lib.hid (validE_iff.1 E2.out)
  obtain rfl : n' = 3 := by
    have h1 := HL.out
    have h2 := (cnt_iff.1 (validB_iff.1 E1.out).2.2.1).1
    omega
  go_enter Try.func32, Try.ntmps32
  go_wp2_with (fail)
  refine (call_b (spec_validBudget_any t _ H.out H'.out) E1.out).mono ?_
  rintro e w1 ⟨rfl, hb⟩
  have B1 := Lib.hid (below_then B0.out hb)
  have T1 := Lib.hid (H2.out.below hb (Nat.le_refl _))
  have U1 := Lib.hid (H'.out.below hb (Nat.le_refl _))
  have P1 := Lib.hid (P.out.on hb)
  clear hb
  go_wp2_with (fail)
  refine (call_b (spec_validEntries_any _ T1.out) E2.out).mono ?_
  rintro e w2 ⟨rfl, hb⟩
  have B2 := Lib.hid (below_then B1.out hb)
  have P2 := Lib.hid (P1.out.on hb)
  have T2 := Lib.hid (T1.out.below hb (Nat.le_refl _))
  have U2 := Lib.hid (U1.out.below hb (Nat.le_refl _))
  clear hb
  go_wp2_with (first | (go_at_call 47; with_reducible refine (call_b (spec_inRange_any _ _ _ _) E3.out).mono ?_; rintro e w' ⟨rfl, rfl⟩) | (go_at_call 47; with_reducible refine (call_b (spec_inRange_any _ _ _ _) E4.out).mono ?_; rintro e w' ⟨rfl, rfl⟩))
  refine (spec_bytesOf_any _ T2.out HV.out).mono ?_
  rintro e w3 ⟨A3, n3, c3, rfl, ho, hb⟩
  have B3 := Lib.hid (below_then B2.out hb)
  have P3 := Lib.hid (P2.out.on hb)
  have U3 := Lib.hid (U2.out.below hb (Nat.le_refl _))
  obtain rfl : n3 = 3 := ho.len.symm.trans (bytesE_len xs)
  have O3 := Lib.hid ho.is
  clear hb ho
  have hcap := O3.out.cap
  have hcap' := U3.out.cap
  have k2 : w3.cell? ⟨w.heap.size, 2, none⟩ = some (.slice A' 3 c') := P3.out.cell 2
  go_wp2_with (fail)
  go_loopw [10] (fun i wr => ∃ k : Nat, ∃ p : Nat, k ≤ 3 ∧ i = .int .i64 k ∧ wr = w3.drewN p ∧ Hid ((bytesE xs).take k = us.take k)) (fun i _ => 3 - (intOf i).toNat)
  case atStart => exact ⟨0, 0, Nat.zero_le _, rfl, rfl, Lib.hid (by simp)⟩
  case round =>
    obtain ⟨k, p, hk, rfl, rfl, ha⟩ := hrel
    by_cases hlt : k < 3
    · obtain ⟨b, off, v, rfl, hx, hc⟩ := O3.out.at_ hlt
      obtain ⟨b', off', v', rfl, hx', hc'⟩ := U3.out.at_ hlt
      have HX := Lib.hid hx
      have HX' := Lib.hid hx'
      clear hx hx'
      have hi1 : (k : Int) < 3 := by omega
      by_cases hv : v = v'
      · subst hv
        have hne : (v != v) = false := by simp
        go_wp2_with (fail)
        go_quiet (fail)
        go_wp2_with (fail)
        go_roundw
        case rel => exact ⟨k + 1, _, by omega, by go_num, rfl, Lib.hid (take_eq_snoc HX.out HX'.out ha.out)⟩
        case measure => simp [intOf]; omega
      · have hne : (v != v') = true := by simpa using hv
        go_wp2_with (fail)
        go_quiet (fail)
        go_wp2_with (fail)
        go_ret
        exact ⟨ret_bool (EV.out.trans (eq_no HX.out HX'.out hv)).symm, below_drewN (below_drewN B3.out _) _⟩
    · have hk3 : k = 3 := by omega
      have HT : Hid (bytesE xs = us) := Lib.hid (by
        have ht := ha.out
        rw [List.take_of_length_le (by rw [bytesE_len]; omega), List.take_of_length_le (by have := HL.out; omega)] at ht
        exact ht)
      go_wp2_with (fail)
      go_ret
      exact ⟨ret_bool (EV.out.trans (decide_eq_true HT.out)).symm, below_drewN B3.out _⟩
theorem spec_ValidAsk_any {A A' B : Option Addr} {n c n' c' m d : Nat} {ks us : List Int} {xs : List Tr} (t cl sz : Int) (w : World) (h : IS w A n c ks) (h' : IS w A' n' c' us) (h2 : TS w B m d xs) :
    Calls Try.prog 10 #[.agg #[.int .i64 t, .slice A n c, .slice A' n' c'], .slice B m d, .int .i64 cl, .int .i64 sz] w fun e w' => e = .returned (.bool (askV t ks us xs cl sz)) ∧ Below w.heap.size w w' := by
  have H := Lib.hid h
  have H' := Lib.hid h'
  have H2 := Lib.hid h2
  clear h h' h2
  go_enter Try.func10, Try.ntmps10
  go_wp2_with (fail)
  refine (spec_validAsk_any t cl sz _ (H.out.alloc _) (H'.out.alloc _) (H2.out.alloc _)).mono ?_
  rintro e w2 ⟨rfl, hb⟩
  have B2 := Lib.hid (below_then (below_new w _) hb)
  clear hb
  go_wp2_with (fail)
  go_ret
  exact ⟨rfl, B2.out⟩
end Go.Proofs.Ytcolkfhhcmhfjaa
