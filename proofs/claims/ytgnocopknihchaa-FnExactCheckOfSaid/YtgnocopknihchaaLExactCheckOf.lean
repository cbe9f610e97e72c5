/-
  The law FnExactCheckOf: its walk.
-/
import Derived.Test.YtgnocopknihchaaOwn
namespace Go.Proofs.Ytgnocopknihchaa
open Go.RowKit
set_option maxHeartbeats 1000000 in
theorem walk_FnExactCheckOf {A : Option Addr} {n c : Nat} {xs : List Int} (w : World) (h : IS w A n c xs) :
    Calls Try.prog 4 #[.slice A n c] w fun e w' => e = .returned (.bool true) ∧ Below w.heap.size w w' := by
  have hcap := h.cap
  have H := Lib.hid h
  clear h
  by_cases hn : n ≤ 1048576
  · have hn' : ¬ (1048576 : Int) < (n : Int) := by omega
    go_enter Try.func4, Try.ntmps4
    go_wp2_with (fail)
    refine (laws_toIntS_any _ H.out (by omega)).mono ?_
    rintro e w1 ⟨A1, n1, c1, rfl, ho1, hb1⟩
    have HO1 := Lib.hid ho1
    clear ho1
    go_wp2_with (fail)
    refine (spec_CheckOf_any _ HO1.out.is).mono ?_
    rintro e w' ⟨rfl, rfl⟩
    go_wp2_with (fail)
    refine (laws_toIntS_any _ (H.out.below hb1 (Nat.le_refl _)) (by omega)).mono ?_
    rintro e w2 ⟨A2, n2, c2, rfl, ho2, hb2⟩
    have HO2 := Lib.hid ho2
    clear ho2
    go_wp2_with (fail)
    refine (impl_CheckOf_any _ HO2.out.is).mono ?_
    rintro e w' ⟨rfl, rfl⟩
    go_wp2_with (fail)
    have hb12 := hb1.trans (hb2.mono hb1.size)
    refine (laws_toIntS_any _ (H.out.below hb12 (Nat.le_refl _)) (by omega)).mono ?_
    rintro e w3 ⟨A3, n3, c3, rfl, ho3, hb3⟩
    have HO3 := Lib.hid ho3
    clear ho3
    have hb13 := hb12.trans (hb3.mono hb12.size)
    go_wp2_with (fail)
    refine (laws_eqIntS_any _ (HO2.out.is.below hb3 (Nat.le_refl _)) HO3.out.is).mono ?_
    rintro e w' ⟨rfl, m, rfl⟩
    have he : decide (xs = xs) = true := by simp
    go_wp2_with (fail)
    go_ret
    exact ⟨rfl, below_drewN hb13 _⟩
  · have hn' : (1048576 : Int) < (n : Int) := by omega
    go_enter Try.func4, Try.ntmps4
    go_wp2_with (fail)
    go_ret
    exact ⟨rfl, Below.refl _ _⟩
end Go.Proofs.Ytgnocopknihchaa
