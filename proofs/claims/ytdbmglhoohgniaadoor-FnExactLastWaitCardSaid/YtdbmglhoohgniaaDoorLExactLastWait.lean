/-
  The law FnExactLastWait: its walk. (Written by a program of my own off the law's operations.)
-/
/-
-- CALL: i0 W wa0
-/
import Derived.Test.YtdbmglhoohgniaaDoorTryB
import Derived.Deep.RegionHeld3
import Derived.Deep.DrawnRows
import Derived.Deep.DeepMust
import Derived.Deep.DeepCutAuto
namespace Go.Proofs.YtdbmglhoohgniaaDoor
open Go.RowKit
attribute [local go_sem ↓] Go.wp_at_zero Go.wp_at_succ
set_option maxRecDepth 100000 in
set_option maxHeartbeats 8000000 in
theorem walk_FnExactLastWait  (x0 : Int) (w : World)  (h800 : WA w) :
    Calls Tryd.prog 6 #[.int .i64 x0] w fun e w' => e = .returned (.bool true) ∧ Below w.heap.size w w' := by
  have H800 := Lib.hid h800
  clear h800
  have RB0 : Hid (Below w.heap.size w w) := Lib.hid (Below.refl _ _)
  go_enter Tryd.func6, Tryd.ntmps6
  go_wp2_with (fail)
  refine (spec_LastWait_any _ _).mono ?_
  rintro e w' ⟨rfl, rfl⟩
  go_wp2_with (fail)
  refine (impl_LastWait_any _ _ (H800.out.below RB0.out (Nat.le_refl _))).mono ?_
  rintro e w' ⟨rfl, rfl⟩
  go_wp2_with (fail)
  go_ret
  exact ⟨rfl, RB0.out⟩
end Go.Proofs.YtdbmglhoohgniaaDoor
