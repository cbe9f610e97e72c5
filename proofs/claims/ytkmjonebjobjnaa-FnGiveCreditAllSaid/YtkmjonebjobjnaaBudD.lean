/-
  Contracts of budgets: credit given by the program, taken and given by the model.
-/
import Derived.Test.YtkmjonebjobjnaaBudC
import Derived.RegionTactic
import Derived.BigRegion
namespace Go.Proofs.Ytkmjonebjobjnaa
open Go.RowKit
attribute [local go_sem ↓] Go.wp_at_zero Go.wp_at_succ

set_option maxHeartbeats 2000000 in
theorem impl_GiveCredit_any {A A' : Option Addr} {n c n' c' : Nat} {ks us : List Int} (t cl s : Int) (w : World) (h : IS w A n c ks) (h' : IS w A' n' c' us) :
    Calls Try.prog 25 #[.agg #[.int .i64 t, .slice A n c, .slice A' n' c'], .int .i64 cl, .int .i64 s] w (GaveBudB 3 w (gcT t ks us cl s) (gcK t ks us cl s) (gcU t ks us cl s) (gcOK t ks us cl s)) := by
  have H := Lib.hid h
  have H' := Lib.hid h'
  clear h h'
  rcases hv : validB t ks us with _ | _
  · have HK : Hid (gcOK t ks us cl s = false) := Lib.hid (by simp [gcOK, hv])
    go_enter Try.func25, Try.ntmps25
    go_wp2_with (fail)
    refine (call_b (impl_ValidBudget_any t _ ((H.out.alloc _).alloc _) ((H'.out.alloc _).alloc _)) hv).mono ?_
    rintro e w1 ⟨rfl, hb⟩
    have B1 := Lib.hid (Below.trans (((Below.refl w.heap.size w).alloc (Nat.le_refl _) _).alloc (by simp) _) (hb.mono (by simp; try omega)))
    have P1 : Hid (Blk w1 w.heap.size 25 #[.int .i64 t, .slice A n c, .slice A' n' c']) := Lib.hid (((Blk.new w _ _).alloc _).on hb)
    have Q1 : Hid (Blk w1 (w.heap.size + 1) 25 #[.int .i64 0, .slice none 0 0, .slice none 0 0]) := Lib.hid ((by simpa using Blk.new (w.alloc (.cells #[.int .i64 t, .slice A n c, .slice A' n' c'] 25)) 25 #[.int .i64 0, .slice none 0 0, .slice none 0 0] : Blk _ (w.heap.size + 1) _ _).on hb)
    clear hb
    obtain ⟨p0, p1, p2⟩ := P1.out.c3
    obtain ⟨q0, q1, q2⟩ := Q1.out.c3
    have f0 := Q1.out.frozen 0
    have f1 := Q1.out.frozen 1
    have f2 := Q1.out.frozen 2
    go_wp2_with (fail)
    refine bodyPost_ret (v := .tuple #[.agg #[.int .i64 0, .slice none 0 0, .slice none 0 0], .bool false]) (by simp [results, Try.results25, go_sem, q0, q1, q2]) rfl ?_
    refine gaveBud_f (by simp [gcT, HK.out]) (by simp [gcK, HK.out]) (by simp [gcU, HK.out]) (by first | rfl | exact HK.out) ?_
    repeat' (first | exact B1.out | refine Below.setCell ?_ ?_ _ | (show w.heap.size ≤ _; first | omega | (simp; done) | (simp; omega)))
  rcases hc : inR cl 0 2 with _ | _
  · have HK : Hid (gcOK t ks us cl s = false) := Lib.hid (by simp [gcOK, hc])
    go_enter Try.func25, Try.ntmps25
    go_wp2_with (fail)
    refine (call_b (impl_ValidBudget_any t _ ((H.out.alloc _).alloc _) ((H'.out.alloc _).alloc _)) hv).mono ?_
    rintro e w1 ⟨rfl, hb⟩
    have B1 := Lib.hid (Below.trans (((Below.refl w.heap.size w).alloc (Nat.le_refl _) _).alloc (by simp) _) (hb.mono (by simp; try omega)))
    have P1 : Hid (Blk w1 w.heap.size 25 #[.int .i64 t, .slice A n c, .slice A' n' c']) := Lib.hid (((Blk.new w _ _).alloc _).on hb)
    have Q1 : Hid (Blk w1 (w.heap.size + 1) 25 #[.int .i64 0, .slice none 0 0, .slice none 0 0]) := Lib.hid ((by simpa using Blk.new (w.alloc (.cells #[.int .i64 t, .slice A n c, .slice A' n' c'] 25)) 25 #[.int .i64 0, .slice none 0 0, .slice none 0 0] : Blk _ (w.heap.size + 1) _ _).on hb)
    clear hb
    obtain ⟨p0, p1, p2⟩ := P1.out.c3
    obtain ⟨q0, q1, q2⟩ := Q1.out.c3
    have f0 := Q1.out.frozen 0
    have f1 := Q1.out.frozen 1
    have f2 := Q1.out.frozen 2
    go_wp2_with (go_at_call 39; refine (call_b (impl_validClass_any _ _) hc).mono ?_; rintro e w' ⟨rfl, rfl⟩)
    refine bodyPost_ret (v := .tuple #[.agg #[.int .i64 0, .slice none 0 0, .slice none 0 0], .bool false]) (by simp [results, Try.results25, go_sem, q0, q1, q2]) rfl ?_
    refine gaveBud_f (by simp [gcT, HK.out]) (by simp [gcK, HK.out]) (by simp [gcU, HK.out]) (by first | rfl | exact HK.out) ?_
    repeat' (first | exact B1.out | refine Below.setCell ?_ ?_ _ | (show w.heap.size ≤ _; first | omega | (simp; done) | (simp; omega)))
  have HR := Lib.hid (used_gc (s := s) hv hc)
  obtain ⟨hc0, hc1⟩ := inR_iff.1 hc
  obtain ⟨j, rfl⟩ := Int.eq_ofNat_of_zero_le hc0
  have hj : j < 3 := by omega
  obtain ⟨u, hu1, hu2, hu3, hu4⟩ := cnt_at (validB_iff.1 hv).2.2.1 hj
  obtain rfl : n' = 3 := H'.out.len ▸ (validB_len hv).2
  obtain ⟨b', off', y, rfl, hy, hcy⟩ := H'.out.at_ hj
  obtain rfl : u = y := by rw [hu1] at hy; injection hy
  have HR' : Hid (inR s 0 u = gcOK t ks us (j : Int) s) := Lib.hid (by have := HR.out; rw [Int.toNat_natCast, hu2] at this; exact this)
  have HV := Lib.hid hv
  have HC := Lib.hid hc
  have hcy' := cell_alloc (cell_alloc hcy (.cells #[.int .i64 t, .slice A n c, .slice (some ⟨b', off', none⟩) 3 c'] 25)) (.cells #[.int .i64 0, .slice none 0 0, .slice none 0 0] 25)
  have hj0 : (0 : Int) ≤ (j : Int) := by omega
  have hj1 : (j : Int) < 3 := by omega
  clear hv hc HR hu1 hu2 hy hcy
  rcases hok : gcOK t ks us (j : Int) s with _ | _
  · have HK := Lib.hid hok
    clear hok
    go_enter Try.func25, Try.ntmps25
    go_wp2_with (fail)
    refine (call_b (impl_ValidBudget_any t _ ((H.out.alloc _).alloc _) ((H'.out.alloc _).alloc _)) HV.out).mono ?_
    rintro e w1 ⟨rfl, hb⟩
    have hcy1 := cell_up hb hcy'
    clear hcy'
    have B1 := Lib.hid (Below.trans (((Below.refl w.heap.size w).alloc (Nat.le_refl _) _).alloc (by simp) _) (hb.mono (by simp; try omega)))
    have P1 : Hid (Blk w1 w.heap.size 25 #[.int .i64 t, .slice A n c, .slice (some ⟨b', off', none⟩) 3 c']) := Lib.hid (((Blk.new w _ _).alloc _).on hb)
    have Q1 : Hid (Blk w1 (w.heap.size + 1) 25 #[.int .i64 0, .slice none 0 0, .slice none 0 0]) := Lib.hid ((by simpa using Blk.new (w.alloc (.cells #[.int .i64 t, .slice A n c, .slice (some ⟨b', off', none⟩) 3 c'] 25)) 25 #[.int .i64 0, .slice none 0 0, .slice none 0 0] : Blk _ (w.heap.size + 1) _ _).on hb)
    clear hb
    obtain ⟨p0, p1, p2⟩ := P1.out.c3
    obtain ⟨q0, q1, q2⟩ := Q1.out.c3
    have f0 := Q1.out.frozen 0
    have f1 := Q1.out.frozen 1
    have f2 := Q1.out.frozen 2
    go_wp2_with (first | (go_at_call 39; refine (call_b (impl_validClass_any _ _) HC.out).mono ?_; rintro e w' ⟨rfl, rfl⟩) | (go_at_call 33; refine (call_b (impl_within_any _ _ _ _) (HR'.out.trans HK.out)).mono ?_; rintro e w' ⟨rfl, rfl⟩))
    refine bodyPost_ret (v := .tuple #[.agg #[.int .i64 0, .slice none 0 0, .slice none 0 0], .bool false]) (by simp [results, Try.results25, go_sem, q0, q1, q2]) rfl ?_
    refine gaveBud_f (by simp [gcT, HK.out]) (by simp [gcK, HK.out]) (by simp [gcU, HK.out]) (by first | rfl | exact HK.out) ?_
    repeat' (first | exact B1.out | refine Below.setCell ?_ ?_ _ | (show w.heap.size ≤ _; first | omega | (simp; done) | (simp; omega)))
  · have HK := Lib.hid hok
    obtain ⟨g1, g2, g3, g4⟩ := gcOK_iff.1 hok
    have G1 := Lib.hid (validB_iff.1 g1)
    obtain ⟨g5, g6⟩ := g3
    have g7 : -200 ≤ -s := by omega
    have g8 : -s ≤ 200 := by omega
    clear hok g1 g2 g4
    go_enter Try.func25, Try.ntmps25
    go_wp2_with (fail)
    refine (call_b (impl_ValidBudget_any t _ ((H.out.alloc _).alloc _) ((H'.out.alloc _).alloc _)) HV.out).mono ?_
    rintro e w1 ⟨rfl, hb⟩
    have hcy1 := cell_up hb hcy'
    clear hcy'
    have B1 := Lib.hid (Below.trans (((Below.refl w.heap.size w).alloc (Nat.le_refl _) _).alloc (by simp) _) (hb.mono (by simp; try omega)))
    have P1 : Hid (Blk w1 w.heap.size 25 #[.int .i64 t, .slice A n c, .slice (some ⟨b', off', none⟩) 3 c']) := Lib.hid (((Blk.new w _ _).alloc _).on hb)
    have Q1 : Hid (Blk w1 (w.heap.size + 1) 25 #[.int .i64 0, .slice none 0 0, .slice none 0 0]) := Lib.hid ((by simpa using Blk.new (w.alloc (.cells #[.int .i64 t, .slice A n c, .slice (some ⟨b', off', none⟩) 3 c'] 25)) 25 #[.int .i64 0, .slice none 0 0, .slice none 0 0] : Blk _ (w.heap.size + 1) _ _).on hb)
    have hz1 := hb.size
    simp at hz1
    clear hb
    obtain ⟨p0, p1, p2⟩ := P1.out.c3
    go_wp2_with (first | (go_at_call 39; refine (call_b (impl_validClass_any _ _) HC.out).mono ?_; rintro e w' ⟨rfl, rfl⟩) | (go_at_call 33; refine (call_b (impl_within_any _ _ _ _) (HR'.out.trans HK.out)).mono ?_; rintro e w' ⟨rfl, rfl⟩))
    refine (impl_addUsed_any _ _ _ _ (H.out.below B1.out (Nat.le_refl _)) (H'.out.below B1.out (Nat.le_refl _)) G1.out.2.1 G1.out.2.2.1 HC.out g7 g8).mono ?_
    rintro e w2 ⟨A1, n1, c1, A2, n2, c2, rfl, ho1, ho2, hd, hb⟩
    have Q2 := Lib.hid (Q1.out.on hb)
    have B2 := Lib.hid (B1.out.trans (hb.mono B1.out.size))
    have O1 := Lib.hid ho1
    have O2 := Lib.hid ho2
    have D := Lib.hid hd
    clear ho1 ho2 hd hb p0 p1 p2
    obtain ⟨q0, q1, q2⟩ := Q2.out.c3
    have f0 := Q2.out.frozen 0
    have f1 := Q2.out.frozen 1
    have f2 := Q2.out.frozen 2
    go_wp2_with (fail)
    refine bodyPost_ret (v := .tuple #[.agg #[.int .i64 t, .slice A1 n1 c1, .slice A2 n2 c2], .bool true]) (by simp [results, Try.results25, go_sem, q0, q1, q2]) rfl ?_
    refine ⟨A1, n1, c1, A2, n2, c2, by simp [gcT, HK.out], ?_, ?_, D.out, ?_⟩
    · simp only [gcK, HK.out, if_true]
      refine OW.base_le (base := w1.heap.size) ?_ (by omega)
      repeat (refine OW.setCell ?_ (by simp; try omega) _)
      exact O1.out
    · simp only [gcU, HK.out, if_true]
      refine OW.base_le (base := w1.heap.size) ?_ (by omega)
      repeat (refine OW.setCell ?_ (by simp; try omega) _)
      exact O2.out
    · repeat' (first | exact B2.out | refine Below.setCell ?_ ?_ _ | (show w.heap.size ≤ _; first | omega | (simp; done) | (simp; omega)))
end Go.Proofs.Ytkmjonebjobjnaa
