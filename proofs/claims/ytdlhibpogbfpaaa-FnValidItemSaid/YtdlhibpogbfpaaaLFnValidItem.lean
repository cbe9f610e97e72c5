/-
  The walk of FnValidItem.
-/
import Derived.Test.YtdlhibpogbfpaaaDraw
namespace Go.Proofs.Ytdlhibpogbfpaaa
open Go.RowKit
theorem validI_nil {cl ky : Int} {xs : List Int} (h : validI cl ky xs = true) : validI cl ky [] = true := by
  simp only [validI, Bool.and_eq_true] at h ⊢
  exact ⟨h.1, by simp [okB, allR]⟩
-- CALL: W s0
set_option maxHeartbeats 2000000 in
theorem walk_FnValidItem {A : Option Addr} {n c : Nat} {zs : List Int} (w : World) (h : BS w A n c zs) :
    Calls Try.prog 3 #[.slice A n c] w fun e w' => e = .returned (.bool true) ∧ Below w.heap.size w w' := by
  have H := Lib.hid h
  clear h
  rcases Nat.lt_or_ge 1048576 n with h1 | h1
  · have h1' : (1048576 : Int) < (n : Int) := by omega
    go_enter Try.func3, Try.ntmps3
    go_wp2_with (fail)
    go_ret
    exact ⟨rfl, Below.refl _ _⟩
  have h1' : ¬ (1048576 : Int) < (n : Int) := by omega
  go_enter Try.func3, Try.ntmps3
  go_wp2_with (fail)
  refine (spec_DrawValidItem_any w H.out h1).mono ?_
  rintro e w1 ⟨cl, ky, xs, A1, n1, c1, rfl, hn1, ho1, hb1⟩
  have S1 := Lib.hid (ho1.is.alloc (.cells #[.int .i64 cl, .int .i64 ky, .slice A1 n1 c1] 25))
  have Q1 := Lib.hid (Blk.new w1 25 #[.int .i64 cl, .int .i64 ky, .slice A1 n1 c1])
  have B1 := Lib.hid (hb1.trans ((below_new w1 (.cells #[.int .i64 cl, .int .i64 ky, .slice A1 n1 c1] 25)).mono hb1.size))
  clear ho1 hb1
  go_wp2_with (fail)
  refine (impl_ValidItem_any cl ky _ S1.out).mono ?_
  rintro e w2 ⟨rfl, hb2⟩
  have S2 := Lib.hid (S1.out.below hb2 (Nat.le_refl _))
  have Q2 := Lib.hid (Q1.out.on hb2)
  have B2 := Lib.hid (B1.out.trans (hb2.mono B1.out.size))
  clear hb2 S1 Q1 B1
  obtain ⟨qa, qb, qc⟩ := Q2.out.c3
  rcases hv : validI cl ky xs with _ | _
  · go_wp2_with (fail)
    refine (spec_ValidItem_any cl ky _ S2.out).mono ?_
    clear qa qb qc
    rintro e w3 ⟨rfl, hb3⟩
    have S3 := Lib.hid (S2.out.below hb3 (Nat.le_refl _))
    have Q3 := Lib.hid (Q2.out.on hb3)
    have B3 := Lib.hid (B2.out.trans (hb3.mono B2.out.size))
    clear hb3 S2 Q2 B2
    obtain ⟨qa, qb, qc⟩ := Q3.out.c3
    go_wp2_with (fail)
    refine (spec_ValidItem_any cl ky _ S3.out).mono ?_
    rintro e w4 ⟨rfl, hb4⟩
    have B4 := Lib.hid (B3.out.trans (hb4.mono B3.out.size))
    clear hb4
    go_wp2_with (fail)
    go_ret
    exact ⟨ret_bool (by simp [hv]), B4.out⟩
  have hv2 := validI_nil hv
  have hv3 : validI 3 0 [] = false := by decide
  go_wp2_with (fail)
  refine (spec_ValidItem_any cl ky _ S2.out).mono ?_
  clear qa qb qc
  rintro e w3 ⟨rfl, hb3⟩
  have Q3 := Lib.hid (Q2.out.on hb3)
  have B3 := Lib.hid (B2.out.trans (hb3.mono B2.out.size))
  clear hb3 S2 Q2 B2
  obtain ⟨qa, qb, qc⟩ := Q3.out.c3
  go_wp2_with (fail)
  refine (impl_ValidItem_any cl ky _ (IS.nil _)).mono ?_
  rintro e w4 ⟨rfl, hb4⟩
  have B4 := Lib.hid (B3.out.trans (hb4.mono B3.out.size))
  clear hb4
  go_wp2_with (fail)
  refine (impl_ValidItem_any 3 0 _ (IS.nil _)).mono ?_
  rintro e w5 ⟨rfl, hb5⟩
  have B5 := Lib.hid (B4.out.trans (hb5.mono B4.out.size))
  clear hb5
  go_wp2_with (fail)
  go_ret
  exact ⟨ret_bool (by simp [hv2, hv3]), B5.out⟩
end Go.Proofs.Ytdlhibpogbfpaaa
