/-
  Contracts of the functions on items.
-/
import Derived.Test.YtehbkfgcbeldiaaOwn
namespace Go.Proofs.Ytehbkfgcbeldiaa
open Go.RowKit

/-- An item is valid. -/
def validI (cl ky : Int) (xs : List Int) : Bool := inR cl 0 2 && inR ky 0 255 && okB xs 8
theorem validI_ff1 {cl ky : Int} {xs : List Int} (h : inR cl 0 2 = false) : validI cl ky xs = false := by simp [validI, h]
theorem validI_ff2 {cl ky : Int} {xs : List Int} (h : inR ky 0 255 = false) : validI cl ky xs = false := by simp [validI, h]
theorem validI_ff3 {cl ky : Int} {xs : List Int} (h : okB xs 8 = false) : validI cl ky xs = false := by simp [validI, h]
theorem validI_tt {cl ky : Int} {xs : List Int} (h1 : inR cl 0 2 = true) (h2 : inR ky 0 255 = true) (h3 : okB xs 8 = true) : validI cl ky xs = true := by simp [validI, h1, h2, h3]
set_option maxHeartbeats 1000000 in
theorem impl_ValidItem_any {A : Option Addr} {n c : Nat} {xs : List Int} (cl ky : Int) (w : World) (h : IS w A n c xs) :
    Calls Try.prog 10 #[.agg #[.int .i64 cl, .int .i64 ky, .slice A n c]] w fun e w' => e = .returned (.bool (validI cl ky xs)) ∧ Below w.heap.size w w' := by
  have H := Lib.hid h
  clear h
  rcases h1 : inR cl 0 2 with _ | _
  · go_enter Try.func10, Try.ntmps10
    go_wp2_with (go_at_call 18; refine (impl_within_any _ _ _ _).mono ?_; rintro e w' ⟨rfl, rfl⟩)
    go_ret
    exact ⟨ret_bool (validI_ff1 h1).symm, (Below.refl _ _).alloc (Nat.le_refl _) _⟩
  rcases h2 : inR ky 0 255 with _ | _
  · go_enter Try.func10, Try.ntmps10
    go_wp2_with (go_at_call 18; refine (impl_within_any _ _ _ _).mono ?_; rintro e w' ⟨rfl, rfl⟩)
    go_ret
    exact ⟨ret_bool (validI_ff2 h2).symm, (Below.refl _ _).alloc (Nat.le_refl _) _⟩
  rcases h3 : okB xs 8 with _ | _
  · go_enter Try.func10, Try.ntmps10
    go_wp2_with (first | (go_at_call 18; refine (impl_within_any _ _ _ _).mono ?_; rintro e w' ⟨rfl, rfl⟩) | (go_at_call 13; refine (impl_validBytes_any _ _ (H.out.alloc _)).mono ?_; rintro e w' ⟨rfl, rfl⟩))
    go_ret
    exact ⟨ret_bool (validI_ff3 h3).symm, (Below.refl _ _).alloc (Nat.le_refl _) _⟩
  · go_enter Try.func10, Try.ntmps10
    go_wp2_with (first | (go_at_call 18; refine (impl_within_any _ _ _ _).mono ?_; rintro e w' ⟨rfl, rfl⟩) | (go_at_call 13; refine (impl_validBytes_any _ _ (H.out.alloc _)).mono ?_; rintro e w' ⟨rfl, rfl⟩))
    go_ret
    exact ⟨ret_bool (validI_tt h1 h2 h3).symm, (Below.refl _ _).alloc (Nat.le_refl _) _⟩
set_option maxHeartbeats 1000000 in
theorem spec_validItem_any {A : Option Addr} {n c : Nat} {xs : List Int} (cl ky : Int) (w : World) (h : IS w A n c xs) :
    Calls Try.prog 26 #[.agg #[.int .i64 cl, .int .i64 ky, .slice A n c]] w fun e w' => e = .returned (.bool (validI cl ky xs)) ∧ Below w.heap.size w w' := by
  have hl := h.len
  have HL := Lib.hid hl
  clear hl
  have hcap := h.cap
  have H := Lib.hid h
  clear h
  rcases h1 : inR cl 0 2 with _ | _
  · go_enter Try.func26, Try.ntmps26
    go_wp2_with (go_at_call 24; refine (spec_inRange_any _ _ _ _).mono ?_; rintro e w' ⟨rfl, rfl⟩)
    go_ret
    exact ⟨ret_bool (validI_ff1 h1).symm, (Below.refl _ _).alloc (Nat.le_refl _) _⟩
  rcases h2 : inR ky 0 255 with _ | _
  · go_enter Try.func26, Try.ntmps26
    go_wp2_with (go_at_call 24; refine (spec_inRange_any _ _ _ _).mono ?_; rintro e w' ⟨rfl, rfl⟩)
    go_ret
    exact ⟨ret_bool (validI_ff2 h2).symm, (Below.refl _ _).alloc (Nat.le_refl _) _⟩
  rcases h3 : inR (n : Int) 0 8 with _ | _
  · go_enter Try.func26, Try.ntmps26
    go_wp2_with (go_at_call 24; refine (spec_inRange_any _ _ _ _).mono ?_; rintro e w' ⟨rfl, rfl⟩)
    go_ret
    have h4 : okB xs 8 = false := okB_long (by rw [HL.out]; simp [inR] at h3; omega)
    exact ⟨ret_bool (validI_ff3 h4).symm, (Below.refl _ _).alloc (Nat.le_refl _) _⟩
  rcases h4 : allR xs 0 255 with _ | _
  · go_enter Try.func26, Try.ntmps26
    go_wp2_with (first | (go_at_call 24; refine (spec_inRange_any _ _ _ _).mono ?_; rintro e w' ⟨rfl, rfl⟩) | (go_at_call 16; refine (spec_allIn_any _ _ _ (H.out.alloc _)).mono ?_; rintro e w' ⟨rfl, rfl⟩))
    go_ret
    have h5 : okB xs 8 = false := by rw [okB_short (by rw [HL.out]; simp [inR] at h3; omega), h4]
    exact ⟨ret_bool (validI_ff3 h5).symm, (Below.refl _ _).alloc (Nat.le_refl _) _⟩
  · go_enter Try.func26, Try.ntmps26
    go_wp2_with (first | (go_at_call 24; refine (spec_inRange_any _ _ _ _).mono ?_; rintro e w' ⟨rfl, rfl⟩) | (go_at_call 16; refine (spec_allIn_any _ _ _ (H.out.alloc _)).mono ?_; rintro e w' ⟨rfl, rfl⟩))
    go_ret
    have h5 : okB xs 8 = true := by rw [okB_short (by rw [HL.out]; simp [inR] at h3; omega), h4]
    exact ⟨ret_bool (validI_tt h1 h2 h5).symm, (Below.refl _ _).alloc (Nat.le_refl _) _⟩
/-- Two items are equal. -/
def eqI (cl ky : Int) (xs : List Int) (cl' ky' : Int) (ys : List Int) : Bool := decide (cl = cl' ∧ ky = ky' ∧ xs = ys)
theorem eqI_refl (cl ky : Int) (xs : List Int) : eqI cl ky xs cl ky xs = true := by simp [eqI]
theorem eqI_f1 {cl ky cl' ky' : Int} {xs ys : List Int} (h : ¬ cl = cl') : eqI cl ky xs cl' ky' ys = false := by simp [eqI, h]
theorem eqI_f2 {cl ky cl' ky' : Int} {xs ys : List Int} (h : ¬ ky = ky') : eqI cl ky xs cl' ky' ys = false := by simp [eqI, h]
theorem eqI_3 {cl ky : Int} {xs ys : List Int} : eqI cl ky xs cl ky ys = decide (xs = ys) := by simp [eqI]
end Go.Proofs.Ytehbkfgcbeldiaa
