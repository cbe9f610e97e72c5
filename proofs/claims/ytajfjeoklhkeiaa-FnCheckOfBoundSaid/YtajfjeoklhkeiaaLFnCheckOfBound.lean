/-
  The walk of FnCheckOfBound.
-/
import Derived.Test.YtajfjeoklhkeiaaStreamA
namespace Go.Proofs.Ytajfjeoklhkeiaa
open Go.RowKit
-- CALL: W s0
set_option maxHeartbeats 2000000 in
theorem walk_FnCheckOfBound {A : Option Addr} {n c : Nat} {zs : List Int} (w : World) (h : BS w A n c zs) :
    Calls Try.prog 9 #[.slice A n c] w fun e w' => e = .returned (.bool true) ∧ Below w.heap.size w w' := by
  have H := Lib.hid h
  clear h
  rcases Nat.lt_or_ge 1048576 n with h1 | h1
  · have h1' : (1048576 : Int) < (n : Int) := by omega
    go_enter Try.func9, Try.ntmps9
    go_wp2_with (fail)
    go_ret
    exact ⟨rfl, Below.refl _ _⟩
  have h1' : ¬ (1048576 : Int) < (n : Int) := by omega
  go_enter Try.func9, Try.ntmps9
  go_wp2_with (fail)
  refine (spec_DrawCheckOf_any w H.out h1).mono ?_
  rintro e w1 ⟨xs, A1, n1, c1, rfl, hn1, ho1, hb1⟩
  have S1 := Lib.hid ho1.is
  have B1 := Lib.hid hb1
  clear ho1 hb1
  go_wp2_with (fail)
  refine (impl_CheckOf_any w1 S1.out).mono ?_
  rintro e w2 ⟨rfl, rfl⟩
  obtain ⟨cv, hcv⟩ : ∃ cv, chkOf xs = cv := ⟨_, rfl⟩
  have HC := Lib.hid (call_chk (spec_CheckOf_any w1 S1.out) hcv)
  rw [hcv]
  rcases hv : okB xs 60 with _ | _
  · have hm1 : cv = -1 := by rw [← hcv]; simp [chkOf, hv]
    subst hm1
    clear hcv
    go_wp2_with (fail)
    refine HC.out.mono ?_
    rintro e w2 ⟨rfl, rfl⟩
    go_wp2_with (fail)
    refine HC.out.mono ?_
    rintro e w2 ⟨rfl, rfl⟩
    go_wp2_with (fail)
    go_ret
    exact ⟨ret_bool (by simp), B1.out⟩
  have hb := chk_bd xs
  have hc2 : chk xs = cv := by rw [← hcv]; simp [chkOf, hv]
  rw [hc2] at hb
  obtain ⟨hb0, hb1⟩ := hb
  have hl : (n1 : Int) ≤ 60 := by
    have h := S1.out.len
    simp [okB] at hv
    omega
  have hy0 : ¬ cv < 0 := by omega
  have hy1 : cv < 251 := by omega
  clear hcv hc2 hv
  go_wp2_with (fail)
  refine HC.out.mono ?_
  rintro e w2 ⟨rfl, rfl⟩
  go_wp2_with (fail)
  go_ret
  exact ⟨ret_bool (by simp; try omega), B1.out⟩
end Go.Proofs.Ytajfjeoklhkeiaa
