/-
  FillOf of both sides.
-/
import Derived.Test.YtpodfjblojmkeaaCuN
namespace Go.Proofs.Ytpodfjblojmkeaa
open Go.RowKit

theorem fill_no {xs : List Int} {bytes many : Int} (h : cutOK xs bytes many = false) : fillV xs bytes many = -1 := by simp [fillV, h]
theorem fill_nil {bytes many : Int} (h : cutOK [] bytes many = true) : fillV [] bytes many = 100 := by simp [fillV, h]
theorem fill_yes {xs : List Int} {bytes many : Int} (h : cutOK xs bytes many = true) (h0 : xs ≠ []) : fillV xs bytes many = 100 * xs.sum / ((bbV xs bytes many).length * bytes) := by simp [fillV, h, h0]
theorem bbV_pos {xs : List Int} {bytes many : Int} (h : cutOK xs bytes many = true) (h0 : xs ≠ []) : 1 ≤ (bbV xs bytes many).length := by
  obtain ⟨h12, hr, hb, hm⟩ := cut_in h
  obtain ⟨hb0, hb1⟩ := inR_iff.1 hb
  obtain ⟨hm0, hm1⟩ := inR_iff.1 hm
  simp only [bbV, h, if_true]
  rw [BB_next h0 hr hb0 (by omega)]
  simp
set_option maxHeartbeats 2000000 in
theorem impl_FillOf_any {A : Option Addr} {n c : Nat} {xs : List Int} (bytes many : Int) (w : World) (h : IS w A n c xs) :
    Calls Try.prog 27 #[.slice A n c, .int .i64 bytes, .int .i64 many] w fun e w' => e = .returned (.int .i64 (fillV xs bytes many)) ∧ Below w.heap.size w w' := by
  have HL := Lib.hid h.len
  have H := Lib.hid h
  clear h
  rcases hok : cutOK xs bytes many with _ | _
  · go_enter Try.func27, Try.ntmps27
    go_wp2_with (go_at_call 33; refine (call_b (impl_validCut_any _ _ _ H.out) hok).mono ?_; rintro e w' ⟨rfl, rfl⟩)
    go_ret
    exact ⟨ret_int (fill_no hok).symm, Below.refl _ _⟩
  have HOK := Lib.hid hok
  rcases Nat.eq_zero_or_pos n with h0 | h0
  · subst h0
    have hx : xs = [] := List.eq_nil_of_length_eq_zero HL.out
    have HF : Hid (fillV xs bytes many = 100) := Lib.hid (by rw [hx] at hok ⊢; exact fill_nil hok)
    clear hok hx
    go_enter Try.func27, Try.ntmps27
    go_wp2_with (go_at_call 33; refine (call_b (impl_validCut_any _ _ _ H.out) HOK.out).mono ?_; rintro e w' ⟨rfl, rfl⟩)
    go_ret
    exact ⟨ret_int HF.out.symm, Below.refl _ _⟩
  have hx : xs ≠ [] := by rintro rfl; have := HL.out; simp at this; omega
  have hp := bbV_pos hok hx
  have hfy := fill_yes hok hx
  obtain ⟨h12, hr, hb, hm⟩ := cut_in hok
  obtain ⟨hb0, hb1⟩ := inR_iff.1 hb
  have hle := cbV_le xs bytes many
  obtain ⟨L, hL⟩ : ∃ L, (bbV xs bytes many).length = L := ⟨_, rfl⟩
  have hcl : (cbV xs bytes many).length = L := by simp [cbV, cntL]; exact hL
  obtain ⟨S, hS⟩ : ∃ S, xs.sum = S := ⟨_, rfl⟩
  have hsb := sum_bd xs hr
  rw [hL] at hp hfy
  rw [hS] at hfy hsb
  rw [hcl] at hle
  have hS0 : 0 ≤ S := by omega
  have hS1 : S ≤ 240 := by omega
  have HFY := Lib.hid hfy
  have HS := Lib.hid hS
  have HCL := Lib.hid hcl
  have HR := Lib.hid (show allR xs 0 1000 = true from allR_wide hr (by omega) (by omega))
  have hn0 : ((n : Int) == 0) = false := by simp; omega
  have h12' := HL.out
  have hn12 : n ≤ 12 := by omega
  have d1 : 20 ≤ (L : Int) * bytes := by
    have h1 : (1 : Int) * 20 ≤ (L : Int) * bytes := Int.mul_le_mul (by omega) hb0 (by omega) (by omega)
    omega
  have d2 : (L : Int) * bytes ≤ 2400 := by
    have h1 : (L : Int) * bytes ≤ 12 * 200 := Int.mul_le_mul (by omega) hb1 (by omega) (by omega)
    omega
  have dz : ((L : Int) * bytes == 0) = false := by simp; omega
  have dw : IntKind.i64.wrap ((L : Int) * bytes) = (L : Int) * bytes := by rw [IntKind.wrap_i64]; omega
  clear hfy hS hcl hL hr hb hm h12 h12' hsb hx hok
  go_enter Try.func27, Try.ntmps27
  go_wp2_with (go_at_call 33; refine (call_b (impl_validCut_any _ _ _ H.out) HOK.out).mono ?_; rintro e w' ⟨rfl, rfl⟩)
  refine (impl_CutBatches_any bytes many w H.out).mono ?_
  rintro e w2 ⟨A2, n2, c2, rfl, ho, hb2⟩
  obtain rfl : n2 = L := by rw [← HCL.out]; exact ho.len.symm
  have H2 := Lib.hid (H.out.below hb2 (Nat.le_refl _))
  have B2 := Lib.hid hb2
  clear ho hb2
  go_wp2_with (go_at_call 38; refine (call_int (impl_sumOf_any _ H2.out HR.out (by omega)) HS.out).mono ?_; rintro e w' ⟨rfl, rfl⟩)
  go_ret
  exact ⟨ret_int (by rw [HFY.out]), B2.out⟩
set_option maxHeartbeats 2000000 in
theorem spec_FillOf_any {A : Option Addr} {n c : Nat} {xs : List Int} (bytes many : Int) (w : World) (h : IS w A n c xs) :
    Calls Try.prog 26 #[.slice A n c, .int .i64 bytes, .int .i64 many] w fun e w' => e = .returned (.int .i64 (fillV xs bytes many)) ∧ Below w.heap.size w w' := by
  have HL := Lib.hid h.len
  have H := Lib.hid h
  clear h
  rcases hok : cutOK xs bytes many with _ | _
  · go_enter Try.func26, Try.ntmps26
    go_wp2_with (go_at_call 35; refine (call_b (spec_validSizes_any _ _ _ H.out) hok).mono ?_; rintro e w' ⟨rfl, rfl⟩)
    go_ret
    exact ⟨ret_int (fill_no hok).symm, Below.refl _ _⟩
  have HOK := Lib.hid hok
  rcases Nat.eq_zero_or_pos n with h0 | h0
  · subst h0
    have hx : xs = [] := List.eq_nil_of_length_eq_zero HL.out
    have HF : Hid (fillV xs bytes many = 100) := Lib.hid (by rw [hx] at hok ⊢; exact fill_nil hok)
    clear hok hx
    go_enter Try.func26, Try.ntmps26
    go_wp2_with (go_at_call 35; refine (call_b (spec_validSizes_any _ _ _ H.out) HOK.out).mono ?_; rintro e w' ⟨rfl, rfl⟩)
    go_ret
    exact ⟨ret_int HF.out.symm, Below.refl _ _⟩
  have hx : xs ≠ [] := by rintro rfl; have := HL.out; simp at this; omega
  have hp := bbV_pos hok hx
  have hfy := fill_yes hok hx
  obtain ⟨h12, hr, hb, hm⟩ := cut_in hok
  obtain ⟨hb0, hb1⟩ := inR_iff.1 hb
  obtain ⟨hm0, hm1⟩ := inR_iff.1 hm
  obtain ⟨M, rfl⟩ := Int.eq_ofNat_of_zero_le (show 0 ≤ many by omega)
  have hle := cbV_le xs bytes (M : Int)
  obtain ⟨L, hL⟩ : ∃ L, (bbV xs bytes (M : Int)).length = L := ⟨_, rfl⟩
  have hcl : (cntL (BB bytes M xs)).length = L := by rw [← hL]; simp [cntL, bbV, hok]
  obtain ⟨S, hS⟩ : ∃ S, xs.sum = S := ⟨_, rfl⟩
  have hsb := sum_bd xs hr
  rw [hL] at hp hfy
  rw [hS] at hfy hsb
  have hle2 : L ≤ 12 := by have := bbV_le xs bytes (M : Int); omega
  have hS0 : 0 ≤ S := by omega
  have hS1 : S ≤ 240 := by omega
  have HFY := Lib.hid hfy
  have HCL := Lib.hid hcl
  have hn0 : ((n : Int) == 0) = false := by simp; omega
  have hn12 : n ≤ 12 := by have := HL.out; omega
  have HCS := Lib.hid (call_int (spec_sum_any w H.out (allR_wide hr (by omega) (by omega)) (by omega)) hS)
  have HC := Lib.hid (spec_cut_any bytes M w H.out hr hn12 hb0 hb1 (by omega) (by omega))
  have d1 : 20 ≤ (L : Int) * bytes := by
    have h1 : (1 : Int) * 20 ≤ (L : Int) * bytes := Int.mul_le_mul (by omega) hb0 (by omega) (by omega)
    omega
  have d2 : (L : Int) * bytes ≤ 2400 := by
    have h1 : (L : Int) * bytes ≤ 12 * 200 := Int.mul_le_mul (by omega) hb1 (by omega) (by omega)
    omega
  have dz : ((L : Int) * bytes == 0) = false := by simp; omega
  have dw : IntKind.i64.wrap ((L : Int) * bytes) = (L : Int) * bytes := by rw [IntKind.wrap_i64]; omega
  clear hfy hS hcl hL hr hb hm h12 hsb hx hok hle
  go_enter Try.func26, Try.ntmps26
  go_wp2_with (first | (go_at_call 35; refine (call_b (spec_validSizes_any _ _ _ H.out) HOK.out).mono ?_; rintro e w' ⟨rfl, rfl⟩) | (go_at_call 37; refine HCS.out.mono ?_; rintro e w' ⟨rfl, rfl⟩))
  refine HC.out.mono ?_
  rintro e w2 ⟨A2, n2, c2, rfl, ho, hb2⟩
  obtain rfl : n2 = L := by rw [← HCL.out]; exact ho.len.symm
  have B2 := Lib.hid hb2
  clear ho hb2
  go_wp2_with (fail)
  go_ret
  exact ⟨ret_int (by rw [HFY.out]), B2.out⟩
end Go.Proofs.Ytpodfjblojmkeaa
