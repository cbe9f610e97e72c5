/-
  Contracts of the laws' functions on budgets: size, copy, comparison, marks.
-/
import Derived.Test.YtcbphifadokfeaaCopy
namespace Go.Proofs.Ytcbphifadokfeaa
open Go.RowKit

/-- A call has handed back a budget with new integers, and nothing that was there has turned. -/
def GaveBud (T : Nat) (w : World) (t : Int) (ks us : List Int) (e : Ending) (w' : World) : Prop :=
  ∃ A n c A' n' c', e = .returned (.agg #[.int .i64 t, .slice A n c, .slice A' n' c']) ∧ OW w' T w.heap.size A n c ks ∧ OW w' T w.heap.size A' n' c' us ∧ Disj A A' ∧ Below w.heap.size w w'
set_option maxHeartbeats 400000 in
theorem laws_szBudget_any {A A' : Option Addr} {n c n' c' : Nat} (t left : Int) (w : World) (h1 : n ≤ 9223372036854775807) (h1' : n' ≤ 9223372036854775807) (h2 : 0 ≤ left) (h3 : left ≤ 1048576) :
    Calls Try.prog 11 #[.agg #[.int .i64 t, .slice A n c, .slice A' n' c'], .int .i64 left] w fun e w' => e = .returned (.int .i64 (szL left (n + n'))) ∧ Below w.heap.size w w' := by
  rcases Int.lt_or_le left (n : Int) with h | h
  · have he := Lib.hid (szL_lo h)
    have hr : Hid (szL left (n + n') = -1) := Lib.hid (szL_lo (by omega))
    go_enter Try.func11, Try.ntmps11
    go_wp2_with (go_at_call 25; refine (laws_szIntS_any _ _ h1 h2 h3).mono ?_; rintro e w' ⟨rfl, rfl⟩; rw [he.out])
    go_ret
    exact ⟨ret_int hr.out.symm, below_new _ _⟩
  have he := Lib.hid (szL_hi h)
  have hx : 0 ≤ left - (n : Int) := by omega
  have hx1 : left - (n : Int) ≤ 1048576 := by omega
  rcases Int.lt_or_le (left - (n : Int)) (n' : Int) with h' | h'
  · have he' := Lib.hid (szL_lo h')
    have hr : Hid (szL left (n + n') = -1) := Lib.hid (szL_lo (by omega))
    go_enter Try.func11, Try.ntmps11
    go_wp2_with (first | (go_at_call 25; with_reducible refine (laws_szIntS_any left _ h1 h2 h3).mono ?_; rintro e w' ⟨rfl, rfl⟩; rw [he.out]) | (go_at_call 25; with_reducible refine (laws_szIntS_any (left - (n : Int)) _ h1' hx hx1).mono ?_; rintro e w' ⟨rfl, rfl⟩; rw [he'.out]))
    go_ret
    exact ⟨ret_int hr.out.symm, below_new _ _⟩
  · have he' := Lib.hid (szL_hi h')
    have hr : Hid (szL left (n + n') = left - (n : Int) - (n' : Int)) := Lib.hid (by rw [szL_hi (by omega)]; omega)
    have hx2 : 0 ≤ left - (n : Int) - (n' : Int) := by omega
    go_enter Try.func11, Try.ntmps11
    go_wp2_with (first | (go_at_call 25; with_reducible refine (laws_szIntS_any left _ h1 h2 h3).mono ?_; rintro e w' ⟨rfl, rfl⟩; rw [he.out]) | (go_at_call 25; with_reducible refine (laws_szIntS_any (left - (n : Int)) _ h1' hx hx1).mono ?_; rintro e w' ⟨rfl, rfl⟩; rw [he'.out]))
    go_ret
    exact ⟨ret_int hr.out.symm, below_new _ _⟩
set_option maxHeartbeats 1000000 in
theorem laws_toBudget_any {A A' : Option Addr} {n c n' c' : Nat} {ks us : List Int} (t : Int) (w : World) (h : IS w A n c ks) (h' : IS w A' n' c' us) (hn : n ≤ 1073741824) (hn' : n' ≤ 1073741824) :
    Calls Try.prog 13 #[.agg #[.int .i64 t, .slice A n c, .slice A' n' c']] w (GaveBud 3 w t ks us) := by
  have H := Lib.hid h
  have H' := Lib.hid h'
  clear h h'
  go_enter Try.func13, Try.ntmps13
  go_wp2_with (fail)
  refine (laws_toIntS_any _ (H.out.below ((((Below.refl _ _).alloc (by simp) _).alloc (by simp; try omega) _).alloc (by simp; try omega) _) (Nat.le_refl _)) hn).mono ?_
  rintro e w1 ⟨A1, n1, c1, rfl, ho1, hb1⟩
  have hz := hb1.size
  simp at hz
  have HO := Lib.hid ho1
  have B1 : Hid (Below w.heap.size w w1) := Lib.hid (Below.trans ((((Below.refl _ _).alloc (by simp) _).alloc (by simp; try omega) _).alloc (by simp; try omega) _) (hb1.mono (by simp; try omega)))
  have P1 : Hid (Blk w1 w.heap.size 30 #[.int .i64 t, .slice A n c, .slice A' n' c']) := Lib.hid ((((Blk.new w _ _).alloc _).alloc _).on hb1)
  have Q1 : Hid (Blk w1 (w.heap.size + 1) 33 #[.int .i64 0, .slice none 0 0, .slice none 0 0]) := Lib.hid (((by simpa using Blk.new (w.alloc (.cells #[.int .i64 t, .slice A n c, .slice A' n' c'] 30)) 33 #[.int .i64 0, .slice none 0 0, .slice none 0 0] : Blk _ (w.heap.size + 1) _ _).alloc _).on hb1)
  have X1 : Hid (Blk w1 (w.heap.size + 1 + 1) 33 #[.int .i64 t, .slice none 0 0, .slice none 0 0]) := Lib.hid ((by simpa using Blk.new ((w.alloc (.cells #[.int .i64 t, .slice A n c, .slice A' n' c'] 30)).alloc (.cells #[.int .i64 0, .slice none 0 0, .slice none 0 0] 33)) 33 #[.int .i64 t, .slice none 0 0, .slice none 0 0] : Blk _ (w.heap.size + 1 + 1) _ _).on hb1)
  clear ho1 hb1
  obtain ⟨p0, p1, p2⟩ := P1.out.c3
  obtain ⟨x0, x1, x2⟩ := X1.out.c3
  have f1 := X1.out.frozen 1
  go_wp2_with (fail)
  refine (laws_toIntS_any _ (H'.out.below (B1.out.setCell (by simp; try omega) _) (Nat.le_refl _)) hn').mono ?_
  rintro e w2 ⟨A2, n2, c2, rfl, ho2, hb2⟩
  have hz2 := hb2.size
  simp at hz2
  have HO2 := Lib.hid ho2
  have HB2 := Lib.hid hb2
  have X2 := Lib.hid ((X1.out.set_ 1 (.slice A1 n1 c1)).on hb2)
  have Q2 := Lib.hid ((Q1.out.far (p := ⟨w.heap.size + 1 + 1, 1, none⟩) (by simp; try omega) (.slice A1 n1 c1)).on hb2)
  have O1 := Lib.hid ((HO.out.setCell (p := ⟨w.heap.size + 1 + 1, 1, none⟩) (by simp; try omega) (.slice A1 n1 c1)).below hb2 (Nat.le_refl _))
  have HD : Hid (Disj A1 A2) := Lib.hid (Disj.mk (HO.out.lt) (HO2.out.ge.mono (by simp)))
  clear ho2 hb2 p0 p1 p2 x0 x1 x2 f1
  obtain ⟨x0, x1, x2⟩ : _ ∧ _ ∧ _ := X2.out.c3
  obtain ⟨q0, q1, q2⟩ := Q2.out.c3
  have f0 := Q2.out.frozen 0
  have f1 := Q2.out.frozen 1
  have f2 := Q2.out.frozen 2
  have f3 := X2.out.frozen 2
  go_wp2_with (fail)
  refine bodyPost_ret (v := .agg #[.int .i64 t, .slice A1 n1 c1, .slice A2 n2 c2]) (by simp [results, Try.results13, go_sem, q0, q1, q2]) rfl ?_
  refine ⟨_, _, _, _, _, _, rfl, ?_, ?_, HD.out, ?_⟩
  · refine OW.base_le (base := w.heap.size + 1 + 1 + 1) ?_ (by omega)
    repeat (refine OW.setCell ?_ (by simp; try omega) _)
    simpa using O1.out
  · refine OW.base_le (base := w.heap.size + 1 + 1 + 1) ?_ (by omega)
    repeat (refine OW.setCell ?_ (by simp; try omega) _)
    exact HO2.out.base_le (by simp; omega)
  · repeat (refine Below.setCell ?_ (by simp; try omega) _)
    exact (B1.out.setCell (by simp; try omega) _).trans (HB2.out.mono (by simp; omega))
set_option maxHeartbeats 1000000 in
theorem laws_eqBudget_same {A A' B B' : Option Addr} {n c n' c' m d m' d' : Nat} {ks us : List Int} (t : Int) (w : World) (h1 : IS w A n c ks) (h2 : IS w A' n' c' us) (h3 : IS w B m d ks) (h4 : IS w B' m' d' us) :
    Calls Try.prog 15 #[.agg #[.int .i64 t, .slice A n c, .slice A' n' c'], .agg #[.int .i64 t, .slice B m d, .slice B' m' d']] w fun e w' => e = .returned (.bool true) ∧ Below w.heap.size w w' := by
  have H1 := Lib.hid ((h1.alloc (.cells #[.int .i64 t, .slice A n c, .slice A' n' c'] 33)).alloc (.cells #[.int .i64 t, .slice B m d, .slice B' m' d'] 33))
  have H2 := Lib.hid ((h2.alloc (.cells #[.int .i64 t, .slice A n c, .slice A' n' c'] 33)).alloc (.cells #[.int .i64 t, .slice B m d, .slice B' m' d'] 33))
  have H3 := Lib.hid ((h3.alloc (.cells #[.int .i64 t, .slice A n c, .slice A' n' c'] 33)).alloc (.cells #[.int .i64 t, .slice B m d, .slice B' m' d'] 33))
  have H4 := Lib.hid ((h4.alloc (.cells #[.int .i64 t, .slice A n c, .slice A' n' c'] 33)).alloc (.cells #[.int .i64 t, .slice B m d, .slice B' m' d'] 33))
  clear h1 h2 h3 h4
  have e1 : (t != t) = false := by simp
  have hb2 : Below w.heap.size w ((w.alloc (.cells #[.int .i64 t, .slice A n c, .slice A' n' c'] 33)).alloc (.cells #[.int .i64 t, .slice B m d, .slice B' m' d'] 33)) := ((Below.refl _ _).alloc (Nat.le_refl _) _).alloc (by simp) _
  have HB := Lib.hid hb2
  clear hb2
  go_enter Try.func15, Try.ntmps15
  go_wp2_with (fail)
  refine (call_b (laws_eqIntS_any _ H1.out H3.out) (decide_eq_true rfl)).mono ?_
  rintro e w' ⟨rfl, m1, rfl⟩
  go_wp2_with (fail)
  refine (call_b (laws_eqIntS_any _ (H2.out.drewN m1) (H4.out.drewN m1)) (decide_eq_true rfl)).mono ?_
  rintro e w' ⟨rfl, m2, rfl⟩
  go_wp2_with (fail)
  go_ret
  exact ⟨rfl, by first | exact below_drewN HB.out _ | exact below_drewN (below_drewN HB.out _) _⟩
end Go.Proofs.Ytcbphifadokfeaa
