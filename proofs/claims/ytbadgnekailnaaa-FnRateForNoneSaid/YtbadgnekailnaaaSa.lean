/-
  Contracts of the functions on samples.
-/
import Derived.Test.YtbadgnekailnaaaSaM
import Derived.Deep.DeepMust
import Derived.Lib.MinMax
namespace Go.Proofs.Ytbadgnekailnaaa
open Go.RowKit

theorem OW.none (w : World) (T base : Nat) : OW w T base none 0 0 [] := ⟨rfl, .inl ⟨rfl, rfl⟩⟩
theorem spec_validRate_any (r : Int) (w : World) :
    Calls Try.prog 36 #[.int .i64 r] w fun e w' => e = .returned (.bool (inR r 1 16)) ∧ w = w' := by
  go_enter Try.func36, Try.ntmps36
  go_wp2_with (go_at_call 35; refine (spec_inRange_any _ _ _ _).mono ?_; rintro e w' ⟨rfl, rfl⟩)
  go_ret
  exact ⟨rfl, rfl⟩
theorem impl_validRate_any (r : Int) (w : World) :
    Calls Try.prog 39 #[.int .i64 r] w fun e w' => e = .returned (.bool (inR r 1 16)) ∧ w = w' := by
  go_enter Try.func39, Try.ntmps39
  go_wp2_with (go_at_call 38; refine (impl_within_any _ _ _ _).mono ?_; rintro e w' ⟨rfl, rfl⟩)
  go_ret
  exact ⟨rfl, rfl⟩
theorem impl_spread_any (k : Int) (w : World) (h0 : 0 ≤ k) (h1 : k ≤ 255) :
    Calls Try.prog 40 #[.int .i64 k] w fun e w' => e = .returned (.int .i64 (spK k)) ∧ w = w' := by
  have hb : bits BinOp.and IntKind.i64 (k * 29 + 7) 255 = spK k := i64_and255 (by omega) (by omega)
  go_enter Try.func40, Try.ntmps40
  go_wp2_with (fail)
  go_ret
  exact ⟨ret_int (by first | rfl | exact hb | (simp; done)), rfl⟩
theorem spec_keeps_any (k r : Int) (w : World) (h0 : 0 ≤ k) (h1 : k ≤ 255) (h2 : 1 ≤ r) (h3 : r ≤ 16) :
    Calls Try.prog 37 #[.int .i64 k, .int .i64 r] w fun e w' => e = .returned (.bool (keepP r k)) ∧ w = w' := by
  have hr : (r == 0) = false := by simp; omega
  go_enter Try.func37, Try.ntmps37
  go_wp2_with (fail)
  go_ret
  exact ⟨ret_bool (by first | rfl | simp [keepP, spK]), rfl⟩
theorem spec_KeepsKey_any (k r : Int) (w : World) :
    Calls Try.prog 17 #[.int .i64 k, .int .i64 r] w fun e w' => e = .returned (.bool (keepV k r)) ∧ w = w' := by
  rcases hk : inR k 0 255 with _ | _
  all_goals rcases hr : inR r 1 16 with _ | _
  case true.true =>
    obtain ⟨h0, h1⟩ := inR_iff.1 hk
    obtain ⟨h2, h3⟩ := inR_iff.1 hr
    go_enter Try.func17, Try.ntmps17
    go_wp2_with (first | (go_at_call 35; refine (spec_inRange_any _ _ _ _).mono ?_; rintro e w' ⟨rfl, rfl⟩) | (go_at_call 36; refine (spec_validRate_any _ _).mono ?_; rintro e w' ⟨rfl, rfl⟩) | (go_at_call 37; refine (spec_keeps_any k r _ h0 h1 h2 h3).mono ?_; rintro e w' ⟨rfl, rfl⟩))
    go_ret
    exact ⟨ret_bool (by simp [keepV, hk, hr]), rfl⟩
  all_goals
    go_enter Try.func17, Try.ntmps17
    go_wp2_with (first | (go_at_call 35; refine (spec_inRange_any _ _ _ _).mono ?_; rintro e w' ⟨rfl, rfl⟩) | (go_at_call 36; refine (spec_validRate_any _ _).mono ?_; rintro e w' ⟨rfl, rfl⟩))
    go_ret
    exact ⟨ret_bool (by simp [keepV, hk, hr]), rfl⟩
theorem impl_KeepsKey_any (k r : Int) (w : World) :
    Calls Try.prog 18 #[.int .i64 k, .int .i64 r] w fun e w' => e = .returned (.bool (keepV k r)) ∧ w = w' := by
  rcases hk : inR k 0 255 with _ | _
  all_goals rcases hr : inR r 1 16 with _ | _
  case true.true =>
    obtain ⟨h0, h1⟩ := inR_iff.1 hk
    obtain ⟨h2, h3⟩ := inR_iff.1 hr
    obtain ⟨s, hs⟩ : ∃ s, spK k = s := ⟨_, rfl⟩
    obtain ⟨s0, s1⟩ := spK_bd k
    rw [hs] at s0 s1
    have hr0 : (r == 0) = false := by simp; omega
    have HS := Lib.hid hs
    clear hs
    go_enter Try.func18, Try.ntmps18
    go_wp2_with (first | (go_at_call 38; refine (impl_within_any _ _ _ _).mono ?_; rintro e w' ⟨rfl, rfl⟩) | (go_at_call 39; refine (impl_validRate_any _ _).mono ?_; rintro e w' ⟨rfl, rfl⟩) | (go_at_call 40; refine (call_int (impl_spread_any k _ h0 h1) HS.out).mono ?_; rintro e w' ⟨rfl, rfl⟩))
    go_ret
    exact ⟨ret_bool (by rw [Bool.eq_iff_iff]; simp [keepV, keepP, hk, hr, HS.out]), rfl⟩
  all_goals
    go_enter Try.func18, Try.ntmps18
    go_wp2_with (first | (go_at_call 38; refine (impl_within_any _ _ _ _).mono ?_; rintro e w' ⟨rfl, rfl⟩) | (go_at_call 39; refine (impl_validRate_any _ _).mono ?_; rintro e w' ⟨rfl, rfl⟩))
    go_ret
    exact ⟨ret_bool (by simp [keepV, hk, hr]), rfl⟩
theorem spec_GuessAll_any (k r : Int) (w : World) :
    Calls Try.prog 19 #[.int .i64 k, .int .i64 r] w fun e w' => e = .returned (.int .i64 (guV k r)) ∧ w = w' := by
  rcases hk : inR k 0 200 with _ | _
  all_goals rcases hr : inR r 1 16 with _ | _
  case true.true =>
    obtain ⟨h0, h1⟩ := inR_iff.1 hk
    obtain ⟨h2, h3⟩ := inR_iff.1 hr
    obtain ⟨m0, m1⟩ := mul_bd h0 h1 (by omega : 0 ≤ r) h3
    go_enter Try.func19, Try.ntmps19
    go_wp2_with (first | (go_at_call 35; refine (spec_inRange_any _ _ _ _).mono ?_; rintro e w' ⟨rfl, rfl⟩) | (go_at_call 36; refine (spec_validRate_any _ _).mono ?_; rintro e w' ⟨rfl, rfl⟩))
    go_ret
    exact ⟨ret_int (by simp only [guV, hk, hr, Bool.and_self, if_true] <;> first | rfl | (rw [IntKind.wrap_i64]; omega)), rfl⟩
  all_goals
    go_enter Try.func19, Try.ntmps19
    go_wp2_with (first | (go_at_call 35; refine (spec_inRange_any _ _ _ _).mono ?_; rintro e w' ⟨rfl, rfl⟩) | (go_at_call 36; refine (spec_validRate_any _ _).mono ?_; rintro e w' ⟨rfl, rfl⟩))
    go_ret
    exact ⟨ret_int (by simp [guV, hk, hr]), rfl⟩
theorem impl_GuessAll_any (k r : Int) (w : World) :
    Calls Try.prog 20 #[.int .i64 k, .int .i64 r] w fun e w' => e = .returned (.int .i64 (guV k r)) ∧ w = w' := by
  rcases hk : inR k 0 200 with _ | _
  all_goals rcases hr : inR r 1 16 with _ | _
  case true.true =>
    obtain ⟨h0, h1⟩ := inR_iff.1 hk
    obtain ⟨h2, h3⟩ := inR_iff.1 hr
    obtain ⟨m0, m1⟩ := mul_bd h0 h1 (by omega : 0 ≤ r) h3
    go_enter Try.func20, Try.ntmps20
    go_wp2_with (first | (go_at_call 38; refine (impl_within_any _ _ _ _).mono ?_; rintro e w' ⟨rfl, rfl⟩) | (go_at_call 39; refine (impl_validRate_any _ _).mono ?_; rintro e w' ⟨rfl, rfl⟩))
    go_ret
    exact ⟨ret_int (by simp only [guV, hk, hr, Bool.and_self, if_true] <;> first | rfl | (rw [IntKind.wrap_i64]; omega)), rfl⟩
  all_goals
    go_enter Try.func20, Try.ntmps20
    go_wp2_with (first | (go_at_call 38; refine (impl_within_any _ _ _ _).mono ?_; rintro e w' ⟨rfl, rfl⟩) | (go_at_call 39; refine (impl_validRate_any _ _).mono ?_; rintro e w' ⟨rfl, rfl⟩))
    go_ret
    exact ⟨ret_int (by simp [guV, hk, hr]), rfl⟩
end Go.Proofs.Ytbadgnekailnaaa
