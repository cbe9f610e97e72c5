/-
  VictimFor of the program.
-/
import Derived.Test.YtnhlbaldbjcjaaaVicD
import Derived.Test.YtnhlbaldbjcjaaaQuP
namespace Go.Proofs.Ytnhlbaldbjcjaaa
open Go.RowKit
/-- The first place of the greatest class above cl; -1 where there is none. -/
def vicV (xs : List Tr) (cl : Int) : Int := if cl < 2 ∧ 0 ≤ firstC 2 xs then firstC 2 xs else if cl < 1 ∧ 0 ≤ firstC 1 xs then firstC 1 xs else -1
noncomputable def victimV (xs : List Tr) (cl : Int) : Int := if validE xs && inR cl 0 2 then vicV xs cl else -1
theorem victimV_t {xs : List Tr} {cl : Int} (h : validE xs = true) (h2 : inR cl 0 2 = true) : victimV xs cl = vicV xs cl := by simp [victimV, h, h2]
theorem victimV_f {xs : List Tr} {cl : Int} (h : validE xs = false ∨ inR cl 0 2 = false) : victimV xs cl = -1 := by rcases h with h | h <;> simp [victimV, h]
theorem vicV_at {xs : List Tr} {cl : Int} {i : Nat} {x : Tr} (hv : ∀ (j : Nat) (y : Tr), xs[j]? = some y → 0 ≤ y.b ∧ y.b ≤ 2) (hc : 0 ≤ cl) (hx : xs[i]? = some x) (hcl : cl < x.b)
    (hbest : ∀ (j : Nat) (y : Tr), xs[j]? = some y → cl < y.b → goesL y.b x.b j i = false) : vicV xs cl = (i : Int) := by
  have hf : firstC x.b xs = (i : Int) := firstC_at hx rfl (fun j hj y hy e => by
    have := hbest j y hy (by omega)
    rw [goesL, if_pos e] at this
    simp at this
    omega)
  have hb := hv i x hx
  have h12 : x.b = 1 ∨ x.b = 2 := by omega
  rcases h12 with h1 | h1
  · have h2 : firstC 2 xs = -1 := firstC_none (fun j hj y hy e => by
      have := hbest j y hy (by omega)
      rw [goesL, if_neg (by omega)] at this
      simp at this
      omega)
    rw [h1] at hf
    unfold vicV
    rw [h2, hf, if_neg (by omega), if_pos (by omega)]
  · rw [h1] at hf
    unfold vicV
    rw [hf, if_pos (by omega)]
theorem vicV_none {xs : List Tr} {cl : Int} (h : ∀ (j : Nat) (y : Tr), xs[j]? = some y → ¬ cl < y.b) : vicV xs cl = -1 := by
  have A : ∀ c : Int, cl < c → ¬ 0 ≤ firstC c xs := fun c hc h0 => by
    have hw : whereC c xs < xs.length := by
      by_cases hw : whereC c xs < xs.length
      · exact hw
      · have := firstC_neg.2 hw; omega
    obtain ⟨x, hx, hb⟩ := whereC_get hw
    exact h _ x hx (by omega)
  unfold vicV
  rw [if_neg (fun k => A 2 k.1 k.2), if_neg (fun k => A 1 k.1 k.2)]
set_option maxHeartbeats 2000000 in
theorem impl_VictimFor_any {A : Option Addr} {n c : Nat} {xs : List Tr} (cl : Int) (w : World) (h : TS w A n c xs) :
    Calls Try.prog 7 #[.slice A n c, .int .i64 cl] w fun e w' => e = .returned (.int .i64 (victimV xs cl)) ∧ Below w.heap.size w w' := by
  have H := Lib.hid h
  have HL := Lib.hid h.len
  clear h
  rcases hv : validE xs with _ | _
  · go_enter Try.func7, Try.ntmps7
    go_wp2_with (fail)
    refine (call_b (impl_ValidEntries_any _ H.out) hv).mono ?_
    rintro e w1 ⟨rfl, hb⟩
    have BB := Lib.hid hb
    clear hb
    go_wp2_with (fail)
    go_ret
    exact ⟨ret_int (victimV_f (.inl hv)).symm, BB.out⟩
  have HV := Lib.hid hv
  clear hv
  rcases hc : inR cl 0 2 with _ | _
  · go_enter Try.func7, Try.ntmps7
    go_wp2_with (fail)
    refine (call_b (impl_ValidEntries_any _ H.out) HV.out).mono ?_
    rintro e w1 ⟨rfl, hb⟩
    have BB := Lib.hid hb
    clear hb
    go_wp2_with (go_at_call 14; refine (call_b (impl_validClass_any _ _) hc).mono ?_; rintro e w' ⟨rfl, rfl⟩)
    go_ret
    exact ⟨ret_int (victimV_f (.inr hc)).symm, BB.out⟩
  have HR := Lib.hid (victimV_t HV.out hc)
  have HC := Lib.hid hc
  have HE := Lib.hid (validE_iff.1 HV.out)
  clear hc
  go_enter Try.func7, Try.ntmps7
  go_wp2_with (fail)
  refine (call_b (impl_ValidEntries_any _ H.out) HV.out).mono ?_
  rintro e w1 ⟨rfl, hb⟩
  have B1 := Lib.hid hb
  have T1 := Lib.hid (H.out.below hb (Nat.le_refl _))
  clear hb
  go_wp2_with (go_at_call 14; refine (call_b (impl_validClass_any _ _) HC.out).mono ?_; rintro e w' ⟨rfl, rfl⟩)
  refine (impl_victimsFor_any cl _ T1.out (by have := HE.out.1; have := HL.out; omega)).mono ?_
  rintro e w2 ⟨rfl, A2, n2, c2, ps, hP, hO, hD, hb, hH, hV, hn⟩
  have P2 := Lib.hid hP
  have O2 := Lib.hid hO
  have B2 := Lib.hid (below_then B1.out hb)
  have HH := Lib.hid hH
  have VV := Lib.hid hV
  clear hP hO hD hb hH hV hn
  go_wp2_with (fail)
  refine (vic_Len_any _ P2.out).mono ?_
  rintro e w3 ⟨rfl, rfl⟩
  rcases Nat.eq_zero_or_pos n2 with h0 | h0
  · subst h0
    go_wp2_with (fail)
    go_ret
    refine ⟨ret_int ?_, B2.out⟩
    rw [HR.out]
    refine (vicV_none (fun j y hy hb => ?_)).symm
    have hl := O2.out.len
    obtain rfl := List.eq_nil_of_length_eq_zero hl
    have := (VV.out (j : Int)).2 ⟨j, by have := (List.getElem?_eq_some_iff.1 hy).1; have := HL.out; omega, rfl, y, hy, hb⟩
    cases this
  · obtain ⟨p0, p1⟩ := P2.out.c2
    obtain ⟨b, off, v, rfl, hx, hcx⟩ := O2.out.is.at_ h0
    have hz : ((n2 : Int) == 0) = false := by simp; omega
    have h0i : (0 : Int) < (n2 : Int) := by omega
    have HX := Lib.hid hx
    clear hx p0
    rw [Nat.add_zero] at hcx
    go_wp2_with (fail)
    go_ret
    refine ⟨ret_int ?_, B2.out⟩
    rw [HR.out]
    obtain ⟨i, hi, rfl, x, hxi, hxb⟩ := (VV.out v).1 (List.mem_of_getElem? HX.out)
    refine (vicV_at (fun j y hy => (HE.out.get hy).2.1) (inR_iff.1 HC.out).1 hxi hxb (fun j y hy hyb => ?_)).symm
    obtain ⟨k, hk, ek⟩ := List.getElem_of_mem ((VV.out (j : Int)).2 ⟨j, by have := (List.getElem?_eq_some_iff.1 hy).1; have := HL.out; omega, rfl, y, hy, hyb⟩)
    have ht := HH.out.top hk
    have e0 : ps.getD 0 0 = (i : Int) := by rw [List.getD_eq_getElem?_getD, HX.out]; rfl
    have e1 : ps.getD k 0 = (j : Int) := by rw [List.getD_eq_getElem?_getD, List.getElem?_eq_getElem hk, ek]; rfl
    rw [e0, e1, goesP_at hy hxi] at ht
    exact ht
end Go.Proofs.Ytnhlbaldbjcjaaa
