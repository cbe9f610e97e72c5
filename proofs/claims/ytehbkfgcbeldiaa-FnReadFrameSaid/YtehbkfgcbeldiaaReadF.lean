/-
  Contract of the program's ReadFrame: all cases
-/
import Derived.Test.YtehbkfgcbeldiaaReadM
namespace Go.Proofs.Ytehbkfgcbeldiaa
open Go.RowKit
attribute [local go_sem ↓] Go.wp_at_zero Go.wp_at_succ
set_option maxHeartbeats 4000000 in
theorem impl_ReadFrame_any {A : Option Addr} {n c : Nat} {bs : List Int} (w : World) (h : IS w A n c bs) :
    Calls Try.prog 5 #[.slice A n c] w (GaveRead 3 w bs) := by
  have hcap := h.cap
  have hl := h.len
  have HL := Lib.hid hl
  have H := Lib.hid h
  clear h hl
  rcases h1 : okB bs 60 with _ | _
  · go_enter Try.func5, Try.ntmps5
    go_wp2_with (go_at_call 13; refine (impl_validBytes_any _ _ (H.out.alloc _)).mono ?_; rintro e w' ⟨rfl, rfl⟩)
    refine bodyPost_ret (v := .tuple #[.agg #[.int .i64 0, .int .i64 0, .slice none 0 0], .int .i64 0, .bool false]) (by simp [results, Try.results5, go_sem]) rfl ?_
    exact gaveRead_f (rOK_f1 h1) (by first | exact below_new _ _ | exact (below_new _ _).setCell (by simp) _ | exact (((below_new _ _).setCell (by simp) _).setCell (by simp) _).setCell (by simp) _)
  rcases Nat.lt_or_ge n 5 with h2 | h2
  · go_enter Try.func5, Try.ntmps5
    go_wp2_with (go_at_call 13; refine (impl_validBytes_any _ _ (H.out.alloc _)).mono ?_; rintro e w' ⟨rfl, rfl⟩)
    refine bodyPost_ret (v := .tuple #[.agg #[.int .i64 0, .int .i64 0, .slice none 0 0], .int .i64 0, .bool false]) (by simp [results, Try.results5, go_sem]) rfl ?_
    exact gaveRead_f (rOK_f2 (by have := HL.out; omega)) (below_new _ _)
  obtain ⟨b, off, v0, rfl, x0, c0⟩ := H.out.at_ (k := 0) (by omega)
  obtain ⟨_, _, v1, e1, x1, c1⟩ := H.out.at_ (k := 1) (by omega)
  obtain ⟨_, _, v2, e2, x2, c2⟩ := H.out.at_ (k := 2) (by omega)
  obtain ⟨_, _, v3, e3, x3, c3⟩ := H.out.at_ (k := 3) (by omega)
  simp only [Option.some.injEq, Addr.mk.injEq, and_true] at e1 e2 e3
  obtain ⟨rfl, rfl⟩ := e1
  obtain ⟨rfl, rfl⟩ := e2
  obtain ⟨rfl, rfl⟩ := e3
  have hal : allR bs 0 255 = true := by simp [okB] at h1; exact h1.2
  obtain ⟨hv0, _⟩ := allR_at x1 hal
  obtain ⟨m, rfl⟩ := Int.eq_ofNat_of_zero_le hv0
  have hv1 := (allR_at x1 hal).2
  have hbl := World.block_lt_of_cell? w _ c0
  simp only [Nat.add_zero] at c0 hbl
  have X0 := Lib.hid x0
  have X1 := Lib.hid x1
  have X2 := Lib.hid x2
  have X3 := Lib.hid x3
  have HA := Lib.hid hal
  clear x0 x1 x2 x3 hal hv0
  have hrn : Hid (rn bs = 4 + m) := Lib.hid (by unfold rn; rw [getD_of X1.out]; simp)
  by_cases h3 : v0 = 165
  · subst h3
    have e165 : ((165 : Int) != 165) = false := by simp
    rcases Nat.lt_or_ge n (5 + m) with h4 | h4
    · have h4' : (n : Int) < 5 + (m : Int) := by omega
      go_enter Try.func5, Try.ntmps5
      go_wp2_with (go_at_call 13; refine (impl_validBytes_any _ _ (H.out.alloc _)).mono ?_; rintro e w' ⟨rfl, rfl⟩)
      refine bodyPost_ret (v := .tuple #[.agg #[.int .i64 0, .int .i64 0, .slice none 0 0], .int .i64 0, .bool false]) (by simp [results, Try.results5, go_sem]) rfl ?_
      exact gaveRead_f (rOK_f4 (by rw [hrn.out]; have := HL.out; omega)) (below_new _ _)
    · exact impl_ReadFrame_main w H.out h1 X0.out X1.out X2.out X3.out h4
  · have e165 : (v0 != 165) = true := by simpa using h3
    have H3 := Lib.hid h3
    clear h3
    go_enter Try.func5, Try.ntmps5
    go_wp2_with (go_at_call 13; refine (impl_validBytes_any _ _ (H.out.alloc _)).mono ?_; rintro e w' ⟨rfl, rfl⟩)
    refine bodyPost_ret (v := .tuple #[.agg #[.int .i64 0, .int .i64 0, .slice none 0 0], .int .i64 0, .bool false]) (by simp [results, Try.results5, go_sem]) rfl ?_
    exact gaveRead_f (rOK_f3 (by rw [getD_of X0.out]; exact H3.out)) (below_new _ _)
end Go.Proofs.Ytehbkfgcbeldiaa
