/-
  Contracts of the functions on marks.
-/
import Derived.Test.YtcbphifadokfeaaMkM
import Derived.Deep.DeepMust
import Derived.Deep.RegionHeld3
import Derived.Deep.QuietTactic
namespace Go.Proofs.Ytcbphifadokfeaa
open Go.RowKit

theorem Blk.c4 {w : World} {g : Nat} {t : TypeId} {a b c d : Value} (h : Blk w g t #[a, b, c, d]) : w.cell? ⟨g, 0, none⟩ = some a ∧ w.cell? ⟨g, 1, none⟩ = some b ∧ w.cell? ⟨g, 2, none⟩ = some c ∧ w.cell? ⟨g, 3, none⟩ = some d := ⟨h.cell 0, h.cell 1, h.cell 2, h.cell 3⟩
theorem call_bool {P : Program} {f : FuncId} {args : Array Value} {w : World} {b b' : Bool} {R : World → Prop} (h : Calls P f args w fun e w' => e = .returned (.bool b) ∧ R w') (hb : b = b') :
    Calls P f args w fun e w' => e = .returned (.bool b') ∧ R w' := hb ▸ h
set_option maxHeartbeats 2000000 in
theorem impl_ValidMarks_any (a b c d : Int) (w : World) :
    Calls Try.prog 10 #[.agg #[.int .i64 a, .int .i64 b, .int .i64 c, .int .i64 d]] w fun e w' => e = .returned (.bool (mkV a b c d)) ∧ Below w.heap.size w w' := by
  rcases h1 : inR a 0 99 with _ | _
  · go_enter Try.func10, Try.ntmps10
    go_wp2_with (go_at_call 24; refine (impl_within_any _ _ _ _).mono ?_; rintro e w' ⟨rfl, rfl⟩)
    go_ret
    exact ⟨ret_bool (by simp [mkV, h1]), below_new _ _⟩
  obtain ⟨a0, a1⟩ := inR_iff.1 h1
  have hw1 : IntKind.i64.wrap (a + 1) = a + 1 := by rw [IntKind.wrap_i64]; omega
  rcases h2 : inR b (a + 1) 100 with _ | _
  · go_enter Try.func10, Try.ntmps10
    go_wp2_with (go_at_call 24; refine (impl_within_any _ _ _ _).mono ?_; rintro e w' ⟨rfl, rfl⟩)
    go_ret
    exact ⟨ret_bool (by simp [mkV, h2]), below_new _ _⟩
  rcases h3 : inR c b 100 with _ | _
  · go_enter Try.func10, Try.ntmps10
    go_wp2_with (go_at_call 24; refine (impl_within_any _ _ _ _).mono ?_; rintro e w' ⟨rfl, rfl⟩)
    go_ret
    exact ⟨ret_bool (by simp [mkV, h3]), below_new _ _⟩
  obtain ⟨b0, b1⟩ := inR_iff.1 h2
  obtain ⟨c0, c1⟩ := inR_iff.1 h3
  have hw2 : IntKind.i64.wrap (c + 1) = c + 1 := by rw [IntKind.wrap_i64]; omega
  go_enter Try.func10, Try.ntmps10
  go_wp2_with (go_at_call 24; refine (impl_within_any _ _ _ _).mono ?_; rintro e w' ⟨rfl, rfl⟩)
  go_ret
  exact ⟨ret_bool (by simp [mkV, h1, h2, h3]), below_new _ _⟩
set_option maxHeartbeats 2000000 in
theorem spec_validMarks_any (a b c d : Int) (w : World) :
    Calls Try.prog 23 #[.agg #[.int .i64 a, .int .i64 b, .int .i64 c, .int .i64 d]] w fun e w' => e = .returned (.bool (mkV a b c d)) ∧ Below w.heap.size w w' := by
  rcases h1 : inR a 0 99 with _ | _
  · go_enter Try.func23, Try.ntmps23
    go_wp2_with (go_at_call 41; refine (spec_inRange_any _ _ _ _).mono ?_; rintro e w' ⟨rfl, rfl⟩)
    go_ret
    exact ⟨ret_bool (by simp [mkV, h1]), below_new _ _⟩
  obtain ⟨a0, a1⟩ := inR_iff.1 h1
  have hw1 : IntKind.i64.wrap (a + 1) = a + 1 := by rw [IntKind.wrap_i64]; omega
  rcases h2 : inR b (a + 1) 100 with _ | _
  · go_enter Try.func23, Try.ntmps23
    go_wp2_with (go_at_call 41; refine (spec_inRange_any _ _ _ _).mono ?_; rintro e w' ⟨rfl, rfl⟩)
    go_ret
    exact ⟨ret_bool (by simp [mkV, h2]), below_new _ _⟩
  rcases h3 : inR c b 100 with _ | _
  · go_enter Try.func23, Try.ntmps23
    go_wp2_with (go_at_call 41; refine (spec_inRange_any _ _ _ _).mono ?_; rintro e w' ⟨rfl, rfl⟩)
    go_ret
    exact ⟨ret_bool (by simp [mkV, h3]), below_new _ _⟩
  obtain ⟨b0, b1⟩ := inR_iff.1 h2
  obtain ⟨c0, c1⟩ := inR_iff.1 h3
  have hw2 : IntKind.i64.wrap (c + 1) = c + 1 := by rw [IntKind.wrap_i64]; omega
  go_enter Try.func23, Try.ntmps23
  go_wp2_with (go_at_call 41; refine (spec_inRange_any _ _ _ _).mono ?_; rintro e w' ⟨rfl, rfl⟩)
  go_ret
  exact ⟨ret_bool (by simp [mkV, h1, h2, h3]), below_new _ _⟩
theorem spec_ValidMarks_any (a b c d : Int) (w : World) :
    Calls Try.prog 8 #[.agg #[.int .i64 a, .int .i64 b, .int .i64 c, .int .i64 d]] w fun e w' => e = .returned (.bool (mkV a b c d)) ∧ Below w.heap.size w w' := by
  go_enter Try.func8, Try.ntmps8
  go_wp2_with (fail)
  refine (spec_validMarks_any a b c d _).mono ?_
  rintro e w1 ⟨rfl, hb⟩
  have B1 := Lib.hid ((below_new w (.cells #[.int .i64 a, .int .i64 b, .int .i64 c, .int .i64 d] 25)).trans (hb.mono (by simp)))
  clear hb
  go_wp2_with (fail)
  go_ret
  exact ⟨rfl, B1.out⟩
set_option maxHeartbeats 1000000 in
theorem laws_toMarks_any (a b c d : Int) (w : World) :
    Calls Try.prog 9 #[.agg #[.int .i64 a, .int .i64 b, .int .i64 c, .int .i64 d]] w fun e w' => e = .returned (.agg #[.int .i64 a, .int .i64 b, .int .i64 c, .int .i64 d]) ∧ Below w.heap.size w w' := by
  go_enter Try.func9, Try.ntmps9
  go_wp2_with (fail)
  refine bodyPost_ret (v := .agg #[.int .i64 a, .int .i64 b, .int .i64 c, .int .i64 d]) (by simp [results, Try.results9, go_sem]) rfl ?_
  refine ⟨rfl, ?_⟩
  exact ((below_new w _).alloc (by simp) _).alloc (by simp; omega) _
end Go.Proofs.Ytcbphifadokfeaa
