/-
  VictimFor of the model.
-/
import Derived.Test.YtnhlbaldbjcjaaaVicE
import Derived.Test.YtnhlbaldbjcjaaaQuE
namespace Go.Proofs.Ytnhlbaldbjcjaaa
open Go.RowKit
set_option maxHeartbeats 2000000 in
theorem spec_victim_any {A : Option Addr} {n c : Nat} {xs : List Tr} (cl : Int) (w : World) (h : TS w A n c xs) (hn : n ≤ 1000000) (hc : inR cl 0 2 = true) :
    Calls Try.prog 19 #[.slice A n c, .int .i64 cl] w fun e w' => e = .returned (.int .i64 (vicV xs cl)) ∧ w = w' := by
  have H := Lib.hid h
  clear h
  obtain ⟨c0, c1⟩ := inR_iff.1 hc
  clear hc
  have C0 := Lib.hid c0
  go_enter Try.func19, Try.ntmps19
  go_wp2_with (fail)
  go_loopw [5] (fun i wr => ∃ k : Int, i = .int .i64 k ∧ cl ≤ k ∧ k ≤ 2 ∧ wr = w ∧ Hid (∀ d : Int, k < d → d ≤ 2 → firstC d xs < 0)) (fun i _ => (intOf i - cl).toNat)
  case atStart => exact ⟨2, rfl, c1, Int.le_refl _, rfl, Lib.hid (fun d h1 h2 => by omega)⟩
  case round =>
    obtain ⟨k, rfl, k0, k1, rfl, hA⟩ := hrel
    rcases Int.lt_or_le cl k with hlt | hge
    · have hcd : decide (cl < k) = true := decide_eq_true hlt
      obtain ⟨F, hF⟩ : ∃ v, firstC k xs = v := ⟨_, rfl⟩
      have HF := Lib.hid hF
      clear hF
      rcases Int.lt_or_le F 0 with f0 | f0
      · have hfd : decide (0 ≤ F) = false := decide_eq_false (by omega)
        go_wp2_with (fail)
        refine (call_int (spec_firstOf_any k _ H.out (by omega)) HF.out).mono ?_
        rintro e w2 ⟨rfl, rfl⟩
        go_wp2_with (fail)
        go_roundw
        case rel =>
          refine ⟨k - 1, by go_num, by omega, by omega, by first | rfl | trivial, Lib.hid fun d h1 h2 => ?_⟩
          rcases Int.lt_or_le k d with h3 | h3
          · exact hA.out d h3 h2
          · obtain rfl : d = k := by omega
            rw [HF.out]; exact f0
        case measure => simp [intOf]; omega
      · have hfd : decide (0 ≤ F) = true := decide_eq_true f0
        go_wp2_with (fail)
        refine (call_int (spec_firstOf_any k _ H.out (by omega)) HF.out).mono ?_
        rintro e w2 ⟨rfl, rfl⟩
        go_wp2_with (fail)
        refine (call_int (spec_firstOf_any k _ H.out (by omega)) HF.out).mono ?_
        rintro e w2 ⟨rfl, rfl⟩
        go_wp2_with (fail)
        go_ret
        refine ⟨ret_int ?_, rfl⟩
        have h12 : k = 1 ∨ k = 2 := by have := C0.out; omega
        unfold vicV
        rcases h12 with rfl | rfl
        · have h2 := hA.out 2 (by omega) (by omega)
          rw [if_neg (by omega), if_pos ⟨by omega, by rw [HF.out]; exact f0⟩, HF.out]
        · rw [if_pos ⟨by omega, by rw [HF.out]; exact f0⟩, HF.out]
    · have hkc : k = cl := by omega
      have hcd : decide (cl < k) = false := decide_eq_false (by omega)
      go_wp2_with (fail)
      go_ret
      refine ⟨ret_int ?_, rfl⟩
      unfold vicV
      rw [if_neg (fun h => by have := hA.out 2 (by omega) (by omega); omega), if_neg (fun h => by have := hA.out 1 (by omega) (by omega); omega)]
set_option maxHeartbeats 2000000 in
theorem spec_VictimFor_any {A : Option Addr} {n c : Nat} {xs : List Tr} (cl : Int) (w : World) (h : TS w A n c xs) :
    Calls Try.prog 8 #[.slice A n c, .int .i64 cl] w fun e w' => e = .returned (.int .i64 (victimV xs cl)) ∧ Below w.heap.size w w' := by
  have H := Lib.hid h
  have HL := Lib.hid h.len
  clear h
  rcases hv : validE xs with _ | _
  · go_enter Try.func8, Try.ntmps8
    go_wp2_with (fail)
    refine (call_b (spec_validEntries_any _ H.out) hv).mono ?_
    rintro e w1 ⟨rfl, hb⟩
    have BB := Lib.hid hb
    clear hb
    go_wp2_with (fail)
    go_ret
    exact ⟨ret_int (victimV_f (.inl hv)).symm, BB.out⟩
  have HV := Lib.hid hv
  clear hv
  rcases hc : inR cl 0 2 with _ | _
  · go_enter Try.func8, Try.ntmps8
    go_wp2_with (fail)
    refine (call_b (spec_validEntries_any _ H.out) HV.out).mono ?_
    rintro e w1 ⟨rfl, hb⟩
    have BB := Lib.hid hb
    clear hb
    go_wp2_with (go_at_call 18; refine (call_b (spec_inRange_any _ _ _ _) hc).mono ?_; rintro e w' ⟨rfl, rfl⟩)
    go_ret
    exact ⟨ret_int (victimV_f (.inr hc)).symm, BB.out⟩
  have HR := Lib.hid (victimV_t HV.out hc)
  have HC := Lib.hid hc
  have HE := Lib.hid (validE_iff.1 HV.out)
  clear hc
  go_enter Try.func8, Try.ntmps8
  go_wp2_with (fail)
  refine (call_b (spec_validEntries_any _ H.out) HV.out).mono ?_
  rintro e w1 ⟨rfl, hb⟩
  have B1 := Lib.hid hb
  have T1 := Lib.hid (H.out.below hb (Nat.le_refl _))
  clear hb
  go_wp2_with (go_at_call 18; refine (call_b (spec_inRange_any _ _ _ _) HC.out).mono ?_; rintro e w' ⟨rfl, rfl⟩)
  refine (spec_victim_any cl _ T1.out (by have := HE.out.1; have := HL.out; omega) HC.out).mono ?_
  rintro e w2 ⟨rfl, rfl⟩
  go_wp2_with (fail)
  go_ret
  exact ⟨ret_int HR.out.symm, B1.out⟩
end Go.Proofs.Ytnhlbaldbjcjaaa
