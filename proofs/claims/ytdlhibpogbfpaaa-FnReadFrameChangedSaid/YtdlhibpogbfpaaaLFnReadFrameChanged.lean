/-
  The walk of FnReadFrameChanged.
-/
import Derived.Test.YtdlhibpogbfpaaaLawR
namespace Go.Proofs.Ytdlhibpogbfpaaa
open Go.RowKit
theorem OW.stored {w : World} {T base : Nat} {A : Option Addr} {n c : Nat} {xs : List Int} {g : Nat} (h : OW w T base A n c xs) (hg : A = some ⟨g, 0, none⟩) (k : Nat) (v : Int) : OW (w.setCell ⟨g, k, none⟩ (.int .i64 v)) T base A n c (xs.set k v) := by
  subst hg
  have h2 := (World.ownsRow.stored h k (.int .i64 v)).1
  rw [← List.map_set] at h2
  exact h2
-- CALL: W s0
set_option maxHeartbeats 1500000 in
theorem walk_FnReadFrameChanged {A : Option Addr} {n c : Nat} {zs : List Int} (w : World) (h : BS w A n c zs) :
    Calls Try.prog 8 #[.slice A n c] w fun e w' => e = .returned (.bool true) ∧ Below w.heap.size w w' := by
  have H := Lib.hid h
  clear h
  rcases Nat.lt_or_ge 1048576 n with h1 | h1
  · have h1' : (1048576 : Int) < (n : Int) := by omega
    go_enter Try.func8, Try.ntmps8
    go_wp2_with (fail)
    go_ret
    exact ⟨rfl, Below.refl _ _⟩
  have h1' : ¬ (1048576 : Int) < (n : Int) := by omega
  go_enter Try.func8, Try.ntmps8
  go_wp2_with (fail)
  refine (spec_DrawFrameOf_any w H.out h1).mono ?_
  rintro e w1 ⟨cl, ky, xs, A1, n1, c1, rfl, hn1, ho1, hb1⟩
  have S1 := Lib.hid (ho1.is.alloc (.cells #[.int .i64 cl, .int .i64 ky, .slice A1 n1 c1] 25))
  have Q1 := Lib.hid (Blk.new w1 25 #[.int .i64 cl, .int .i64 ky, .slice A1 n1 c1])
  have B1 := Lib.hid (hb1.trans ((below_new w1 (.cells #[.int .i64 cl, .int .i64 ky, .slice A1 n1 c1] 25)).mono hb1.size))
  clear ho1 hb1
  go_wp2_with (fail)
  refine (impl_FrameOf_any cl ky _ S1.out).mono ?_
  rintro e w2 ⟨A2, n2, c2, rfl, ho2, hb2⟩
  have S2 := Lib.hid (S1.out.below hb2 (Nat.le_refl _))
  have Q2 := Lib.hid (Q1.out.on hb2)
  have B2 := Lib.hid (B1.out.trans (hb2.mono B1.out.size))
  have F2 := Lib.hid ho2.is
  have G2 := Lib.hid ho2.form
  have L2 := Lib.hid ho2.len
  clear hb2 ho2 Q1 B1
  obtain ⟨qa, qb, qc⟩ := Q2.out.c3
  go_wp2_with (fail)
  refine (spec_FrameOf_any cl ky _ S2.out).mono ?_
  clear qa qb qc
  rintro e w3 ⟨A3, n3, c3, rfl, ho3, hb3⟩
  have S3 := Lib.hid (S2.out.below hb3 (Nat.le_refl _))
  have Q3 := Lib.hid (Q2.out.on hb3)
  have B3 := Lib.hid (B2.out.trans (hb3.mono B2.out.size))
  have F3 := Lib.hid (F2.out.below hb3 (Nat.le_refl _))
  have E3 := Lib.hid ho3.is
  clear hb3 ho3 S1 S2 Q2 B2 F2
  go_wp2_with (fail)
  refine (laws_equalInts_any _ F3.out E3.out).mono ?_
  rintro e w4 ⟨rfl, m4, rfl⟩
  have S4 := Lib.hid (S3.out.drewN m4)
  have Q4 := Lib.hid (Q3.out.drewN m4)
  have B4 := Lib.hid (below_drewN B3.out m4)
  have F4 := Lib.hid (F3.out.drewN m4)
  clear S3 Q3 B3 F3 E3
  have heq : (decide (frameOfL cl ky xs = frameOfL cl ky xs)) = true := by simp
  obtain ⟨w4', hw4'⟩ : ∃ u, u = w3.drewN m4 := ⟨_, rfl⟩
  rw [← hw4'] at S4 Q4 B4 F4
  rw [← hw4']
  clear hw4'
  obtain ⟨qa, qb, qc⟩ := Q4.out.c3
  rcases hv : validI cl ky xs with _ | _
  · have hn2 : n2 = 0 := by rw [← L2.out, frameOfL_f hv]; rfl
    subst hn2
    go_wp2_with (fail)
    refine (spec_FrameOf_any cl ky _ S4.out).mono ?_
    clear qa qb qc
    rintro e w5 ⟨A5, n5, c5, rfl, ho5, hb5⟩
    have B5 := Lib.hid (B4.out.trans (hb5.mono B4.out.size))
    have F5 := Lib.hid (F4.out.below hb5 (Nat.le_refl _))
    have E5 := Lib.hid ho5.is
    clear ho5 hb5
    go_wp2_with (fail)
    refine (laws_equalInts_any _ F5.out E5.out).mono ?_
    rintro e w6 ⟨rfl, m6, rfl⟩
    go_wp2_with (fail)
    go_ret
    exact ⟨ret_bool (by simp), below_drewN B5.out m6⟩
  have hl1 := S4.out.len
  subst hl1
  have hn2 : n2 = 4 + xs.length + 1 := by rw [← L2.out, frameOfL_t hv, frameL_len]; omega
  subst hn2
  obtain ⟨g, rfl⟩ : ∃ g, A2 = some ⟨g, 0, none⟩ := by
    rcases G2.out with ⟨_, e, _⟩ | ⟨g, e, _⟩
    · omega
    · exact ⟨g, e⟩
  obtain ⟨m, hm⟩ : ∃ m, m = xs.length := ⟨_, rfl⟩
  have FF : Hid (IS w4' (some ⟨g, 0, none⟩) (4 + m + 1) c2 (frameL cl ky xs)) := Lib.hid (by rw [hm, ← frameOfL_t hv]; exact F4.out)
  have SS : Hid (IS w4' A1 m c1 xs) := Lib.hid (by rw [hm]; exact S4.out)
  have hcp := FF.out.2.1
  rw [← hm] at qc ⊢
  have hm8 : m ≤ 10 := by omega
  have hm9 := Lib.hid hm
  have Q5 := Lib.hid (by have q := Q4.out; rw [← hm] at q; exact q)
  have VV := Lib.hid hv
  clear hm S4 F4 L2 G2 heq hn1 Q4 hv
  have hx0 : ¬ (4 + (m : Int) + 1 < 5) := by omega
  by_cases h255 : ky = 255
  · subst h255
    go_wp2_with (fail)
    refine (spec_FrameOf_any cl 255 _ SS.out).mono ?_
    clear qa qb qc
    rintro e w5 ⟨A5, n5, c5, rfl, ho5, hb5⟩
    have B5 := Lib.hid (B4.out.trans (hb5.mono B4.out.size))
    have F5 := Lib.hid (FF.out.below hb5 (Nat.le_refl _))
    have E5 := Lib.hid ho5.is
    clear ho5 hb5
    go_wp2_with (fail)
    refine (laws_equalInts_any _ F5.out E5.out).mono ?_
    rintro e w6 ⟨rfl, m6, rfl⟩
    have hee : decide (frameL cl 255 xs = frameOfL cl 255 xs) = true := by rw [frameOfL_t VV.out]; simp
    go_wp2_with (fail)
    go_ret
    exact ⟨ret_bool (by simp), below_drewN B5.out m6⟩
  have h256 : (ky == 255) = false := by simpa using h255
  have O5 : Hid (OW (w4'.alloc (.cells #[] 3)) 3 w4'.heap.size (some ⟨w4'.heap.size, 0, none⟩) 0 0 []) := Lib.hid (by simpa using OW.lit w4' 3 w4'.heap.size [] (Nat.le_refl _) (by simp))
  have I5 := Lib.hid (FF.out.alloc (.cells #[] 3))
  have hpar := validI_parts VV.out
  have hk0 : 0 ≤ ky := hpar.2.2.1
  have hk1 : ky ≤ 255 := hpar.2.2.2.1
  have hw1 : IntKind.i64.wrap (ky + 1) = ky + 1 := IntWalk.i64_in _ (by omega)
  have hx3 : (3 : Int) < 4 + (m : Int) + 1 := by omega
  clear hpar
  go_wp2_with (at_builtin; go_must (refine wpList_append_is _ rfl (.tmp 35) (.tmp 36) _ rfl w4'.heap.size 3 infoInt Try.underlying23 _ _ _ _ rfl O5.out _ _ _ _ rfl I5.out (by omega) (by first | omega | (simp; done) | (simp; omega)) ?_); intro A6 c6 w6 hown6 hg6; have O6 : Hid (OW w6 3 w4'.heap.size A6 (4 + m + 1) c6 (frameL cl ky xs)) := Lib.hid (by simpa using hown6); have G6 := Lib.hid (row_of hg6); clear hown6 hg6; obtain ⟨g6, e6, h6a, h6b⟩ := O6.out.pos (by omega); subst e6; have z3 := O6.out.is.cell_is (k := 3) (by omega) (frameL_3 cl ky xs); simp only [Nat.zero_add] at z3; have f3 := World.ownsRow.frozenAt O6.out 3)
  have O7 := Lib.hid (O6.out.stored rfl 3 (ky + 1))
  have B6 : Hid (Below w.heap.size w w6) := Lib.hid (below_row (B4.out.trans ((below_new w4' _).mono B4.out.size)) G6.out (Nat.le_trans B4.out.size (by simp)) (O5.out.ge.mono B4.out.size))
  have B7 : Hid (Below w.heap.size w (w6.setCell ⟨g6, 3, none⟩ (.int .i64 (ky + 1)))) := Lib.hid (B6.out.setCell (Nat.le_trans B4.out.size h6a) _)
  clear z3 f3
  refine (impl_ReadFrame_any _ O7.out.is).mono ?_
  intro e w8 hgr
  obtain ⟨A8, n8, c8, rfl, hb8⟩ := gaveRead_not (rOK_changed cl ky xs) hgr
  have B8 := Lib.hid (B7.out.trans (hb8.mono B7.out.size))
  clear hgr hb8
  go_wp2_with (fail)
  go_ret
  exact ⟨rfl, B8.out.trans ((below_new _ _).mono B8.out.size)⟩
end Go.Proofs.Ytdlhibpogbfpaaa
