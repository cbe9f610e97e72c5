/-
  Contracts of queues: lists of classes.
-/
import Derived.Test.YthemfejahohbeaaQuG0
import Derived.Deep.RegionLaw
import Derived.Deep.DeepMust
namespace Go.Proofs.Ythemfejahohbeaa
open Go.RowKit
set_option maxHeartbeats 16000000 in
theorem impl_splitByClass_any {A : Option Addr} {n c : Nat} {xs : List Tr} (w : World) (h : TS w A n c xs) (hv : ∀ x ∈ xs, 0 ≤ x.b ∧ x.b ≤ 2) (hn : n ≤ 1000) :
    Calls Try.prog 43 #[.slice A n c] w (GaveLs 29 w xs) := by
  have HL := Lib.hid h.len
  have H := Lib.hid ((h.alloc (.cells #[.slice none 0 0, .slice none 0 0, .slice none 0 0] 54)).alloc (.cells #[.slice none 0 0, .slice none 0 0, .slice none 0 0] 54))
  have HE := Lib.hid hv
  have BLT : Hid (0 < n → Lt A w.heap.size) := Lib.hid (fun hn p hp => by
    obtain ⟨b, off, x, e, _, hc, _⟩ := h.at_ hn
    rw [e] at hp
    cases hp
    exact World.block_lt_of_cell? w _ hc)
  have R0 := Lib.hid ((Blk.new w 54 #[.slice none 0 0, .slice none 0 0, .slice none 0 0]).alloc (.cells #[.slice none 0 0, .slice none 0 0, .slice none 0 0] 54))
  have X0 : Hid (Blk _ (w.heap.size + 1) 54 #[.slice none 0 0, .slice none 0 0, .slice none 0 0]) := Lib.hid (by simpa using Blk.new (w.alloc (.cells #[.slice none 0 0, .slice none 0 0, .slice none 0 0] 54)) 54 #[.slice none 0 0, .slice none 0 0, .slice none 0 0])
  have B0 := Lib.hid (((Below.refl w.heap.size w).alloc (Nat.le_refl _) (.cells #[.slice none 0 0, .slice none 0 0, .slice none 0 0] 54)).alloc (by simp) (.cells #[.slice none 0 0, .slice none 0 0, .slice none 0 0] 54))
  clear h hv
  go_enter Try.func43, Try.ntmps43
  go_wp2_with (fail)
  obtain ⟨W, eW⟩ : ∃ v : World, v = (w.alloc (.cells #[.slice none 0 0, .slice none 0 0, .slice none 0 0] 54)).alloc (.cells #[.slice none 0 0, .slice none 0 0, .slice none 0 0] 54) := ⟨_, rfl⟩
  have hWs : w.heap.size + 1 + 1 ≤ W.heap.size := by rw [eW]; simp
  rw [← eW] at H R0 X0 B0 ⊢
  clear eW
  go_loopw [8] (fun i wr => ∃ (k : Nat) (L0 : Option Addr) (a0 b0 : Nat) (L1 : Option Addr) (a1 b1 : Nat) (L2 : Option Addr) (a2 b2 : Nat), k ≤ n ∧ a0 ≤ k ∧ a1 ≤ k ∧ a2 ≤ k ∧ i = .int .i64 k ∧ Hid (Blk wr (w.heap.size + 1) 54 #[.slice L0 a0 b0, .slice L1 a1 b1, .slice L2 a2 b2]) ∧ Hid (OT wr 29 (w.heap.size + 1 + 1) L0 a0 b0 (cls 0 (xs.take k))) ∧ Hid (OT wr 29 (w.heap.size + 1 + 1) L1 a1 b1 (cls 1 (xs.take k))) ∧ Hid (OT wr 29 (w.heap.size + 1 + 1) L2 a2 b2 (cls 2 (xs.take k))) ∧ Hid (Disj L0 L1) ∧ Hid (Disj L0 L2) ∧ Hid (Disj L1 L2) ∧ Hid (Below (w.heap.size + 1) W wr)) (fun i _ => n - (intOf i).toNat)
  case atStart => exact ⟨0, none, 0, 0, none, 0, 0, none, 0, 0, Nat.zero_le _, Nat.le_refl _, Nat.le_refl _, Nat.le_refl _, rfl, X0, Lib.hid (OT.nil _ _ _), Lib.hid (OT.nil _ _ _), Lib.hid (OT.nil _ _ _), Lib.hid (fun p q hp => by cases hp), Lib.hid (fun p q hp => by cases hp), Lib.hid (fun p q hp => by cases hp), Lib.hid (Below.refl _ _)⟩
  case round =>
    obtain ⟨k, L0, a0, b0, L1, a1, b1, L2, a2, b2, hk, ha0, ha1, ha2, rfl, hX, hO0, hO1, hO2, hJ01, hJ02, hJ12, hB⟩ := hrel
    have hz := hB.out.size
    have TT : Hid (0 < n → TS wr A n c xs) := Lib.hid (fun hn0 => H.out.kept (fun p hp hlt => hB.out.block p.block (Nat.lt_succ_of_lt (BLT.out hn0 p hp))))
    by_cases hlt : k < n
    · obtain ⟨b, off, x, rfl, hx, ca, cb, cc⟩ := (TT.out (by omega)).at_ hlt
      obtain ⟨p0, p1⟩ := HE.out x (List.mem_of_getElem? hx)
      have N0 := Lib.hid (cls_next (c := 0) hx)
      have N1 := Lib.hid (cls_next (c := 1) hx)
      have N2 := Lib.hid (cls_next (c := 2) hx)
      have hki : (k : Int) < (n : Int) := by omega
      have hb3 : x.b = 0 ∨ x.b = 1 ∨ x.b = 2 := by omega
      clear hx
      obtain ⟨xa, xb, xc⟩ := x
      simp only at *
      rcases hb3 with rfl | rfl | rfl
      · go_wp2_with (fail)
        have XB : Hid (Blk (wr.alloc (.cells #[.int .i64 xa, .int .i64 0, .int .i64 xc] 29)) wr.heap.size 29 #[.int .i64 xa, .int .i64 0, .int .i64 xc]) := Lib.hid (Blk.new _ _ _)
        have X1 := Lib.hid (hX.out.alloc (.cells #[.int .i64 xa, .int .i64 0, .int .i64 xc] 29))
        have P0 := Lib.hid (hO0.out.alloc (.cells #[.int .i64 xa, .int .i64 0, .int .i64 xc] 29))
        have P1 := Lib.hid (hO1.out.alloc (.cells #[.int .i64 xa, .int .i64 0, .int .i64 xc] 29))
        have P2 := Lib.hid (hO2.out.alloc (.cells #[.int .i64 xa, .int .i64 0, .int .i64 xc] 29))
        have B1 := Lib.hid (hB.out.alloc (by omega) (.cells #[.int .i64 xa, .int .i64 0, .int .i64 xc] 29))
        have hz1 : (wr.alloc (.cells #[.int .i64 xa, .int .i64 0, .int .i64 xc] 29)).heap.size = wr.heap.size + 1 := by simp
        obtain ⟨V, eV⟩ : ∃ v : World, v = wr.alloc (.cells #[.int .i64 xa, .int .i64 0, .int .i64 xc] 29) := ⟨_, rfl⟩
        rw [← eV] at XB X1 P0 P1 P2 B1 hz1 ⊢
        clear eV ca cb cc
        have hv1 : w.heap.size + 1 + 1 ≤ V.heap.size := by omega
        have hv2 : wr.heap.size < V.heap.size := by omega
        have hv3 : w.heap.size + 1 < V.heap.size := by omega
        have hv4 : w.heap.size + 1 ≠ wr.heap.size := by omega
        clear hz1
        obtain ⟨e0, e1, e2⟩ := XB.out.c3
        obtain ⟨x0, x1, x2⟩ := X1.out.c3
        have S1 : Hid (TS (V.alloc (.cells #[.int .i64 xa, .int .i64 0, .int .i64 xc] 29)) (some ⟨V.heap.size, 0, none⟩) 1 1 [⟨xa, 0, xc⟩]) := Lib.hid (by simpa [cellsT] using (OT.lit V 29 0 [⟨xa, 0, xc⟩] (Nat.zero_le _) (by simp)).ts)
        have DXB : Hid (Disj (some ⟨wr.heap.size, 0, none⟩) L0) := Lib.hid (Disj.mk (B := wr.heap.size) hO0.out.lt (fun p hp => by cases hp; exact Nat.le_refl _)).symm
        have DX : Hid (Disj (some ⟨w.heap.size + 1, 0, none⟩) L0) := Lib.hid (Disj.mk (B := w.heap.size + 1 + 1) (fun p hp => by cases hp; exact Nat.lt_succ_self _) hO0.out.ge)
        have f0 := X1.out.frozen 0
        have hsx : w.heap.size + 1 ≠ V.heap.size := by omega
        have hsx2 : wr.heap.size ≠ V.heap.size := by omega
        have OO : Hid (OT ((V.alloc (.cells #[.int .i64 xa, .int .i64 0, .int .i64 xc] 29)).drew) 29 (w.heap.size + 1 + 1) L0 a0 b0 (cls 0 (xs.take k))) := Lib.hid ((P0.out.alloc _).drew)
        have ST : Hid (TS ((V.alloc (.cells #[.int .i64 xa, .int .i64 0, .int .i64 xc] 29)).drew) (some ⟨V.heap.size, 0, none⟩) 1 1 [⟨xa, 0, xc⟩]) := Lib.hid S1.out.drew
        go_region_law (refine step_append_ts2 rfl (.tmp 17) (.tmp 19) 23 rfl (w.heap.size + 1 + 1) 29 infoEnt2 Try.underlying23 L0 a0 b0 (cls 0 (xs.take k)) (by simp [Act.eval]) OO.out (some ⟨V.heap.size, 0, none⟩) 1 1 [⟨xa, 0, xc⟩] (by simp [Act.eval]) ST.out (by omega) (by show w.heap.size + 1 + 1 ≤ (V.alloc _).heap.size; simp; omega) ?_; intro F1 f1 w2 hown hg hne; have K1 := Lib.hid hown; have X2 := Lib.hid (((X1.out.alloc _).drew).away hg DX.out); have JF := Lib.hid (hne.disj hJ01.out.symm.symm (P1.out.lt.mono (by first | omega | (simp; done) | (simp; omega)))); have JG := Lib.hid (hne.disj hJ02.out.symm.symm (P2.out.lt.mono (by first | omega | (simp; done) | (simp; omega)))); have P1 := Lib.hid (((P1.out.alloc _).drew).away hg hJ01.out.symm); have P2 := Lib.hid (((P2.out.alloc _).drew).away hg hJ02.out.symm); have B2 := Lib.hid (below_row ((B1.out.alloc (by omega) _).drew) hg (by show w.heap.size + 1 ≤ (V.alloc _).heap.size; simp; omega) (P0.out.ge.mono (by omega))); have JX := Lib.hid (hne.disj DX.out.symm (fun p hp => by cases hp; show w.heap.size + 1 < (V.alloc _).heap.size; simp; omega)); have XB2 := Lib.hid (((XB.out.alloc _).drew).away hg DXB.out); clear hown hg hne; obtain ⟨y0, y1, y2⟩ := XB2.out.c3; obtain ⟨z0, z1, z2⟩ := X2.out.c3; have zf := X2.out.frozen 0)
        all_goals (
          clear e0 e1 e2 x0 x1 x2 f0
          go_wp2_with (fail)
          go_roundw
          case rel =>
            have YX := Lib.hid (X2.out.set_ 0 (.slice F1 (a0 + 1) f1))
            have YJ := Lib.hid (K1.out.setCell2 (p := ⟨w.heap.size + 1, 0, none⟩) (.inr JX.out.symm) (.slice F1 (a0 + 1) f1))
            have YM := Lib.hid (P1.out.setCell2 (p := ⟨w.heap.size + 1, 0, none⟩) (.inl (by show w.heap.size + 1 < _; omega)) (.slice F1 (a0 + 1) f1))
            have YN := Lib.hid (P2.out.setCell2 (p := ⟨w.heap.size + 1, 0, none⟩) (.inl (by show w.heap.size + 1 < _; omega)) (.slice F1 (a0 + 1) f1))
            have YB := Lib.hid (B2.out.setCell (p := ⟨w.heap.size + 1, 0, none⟩) (Nat.le_refl _) (.slice F1 (a0 + 1) f1))
            refine ⟨k + 1, F1, _, f1, L1, a1, b1, L2, a2, b2, by omega, by omega, by omega, by omega, by go_num, YX, Lib.hid (by first | (rw [N0.out]; exact YJ.out) | (rw [N0.out, if_pos rfl]; exact YJ.out) | (rw [N0.out, if_neg (by decide)]; exact YJ.out)), Lib.hid (by first | (rw [N1.out]; exact YM.out) | (rw [N1.out, if_pos rfl]; exact YM.out) | (rw [N1.out, if_neg (by decide)]; exact YM.out)), Lib.hid (by first | (rw [N2.out]; exact YN.out) | (rw [N2.out, if_pos rfl]; exact YN.out) | (rw [N2.out, if_neg (by decide)]; exact YN.out)), JF, JG, hJ12, YB⟩
          case measure => simp [intOf]; omega)
      · go_wp2_with (fail)
        have XB : Hid (Blk (wr.alloc (.cells #[.int .i64 xa, .int .i64 1, .int .i64 xc] 29)) wr.heap.size 29 #[.int .i64 xa, .int .i64 1, .int .i64 xc]) := Lib.hid (Blk.new _ _ _)
        have X1 := Lib.hid (hX.out.alloc (.cells #[.int .i64 xa, .int .i64 1, .int .i64 xc] 29))
        have P0 := Lib.hid (hO0.out.alloc (.cells #[.int .i64 xa, .int .i64 1, .int .i64 xc] 29))
        have P1 := Lib.hid (hO1.out.alloc (.cells #[.int .i64 xa, .int .i64 1, .int .i64 xc] 29))
        have P2 := Lib.hid (hO2.out.alloc (.cells #[.int .i64 xa, .int .i64 1, .int .i64 xc] 29))
        have B1 := Lib.hid (hB.out.alloc (by omega) (.cells #[.int .i64 xa, .int .i64 1, .int .i64 xc] 29))
        have hz1 : (wr.alloc (.cells #[.int .i64 xa, .int .i64 1, .int .i64 xc] 29)).heap.size = wr.heap.size + 1 := by simp
        obtain ⟨V, eV⟩ : ∃ v : World, v = wr.alloc (.cells #[.int .i64 xa, .int .i64 1, .int .i64 xc] 29) := ⟨_, rfl⟩
        rw [← eV] at XB X1 P0 P1 P2 B1 hz1 ⊢
        clear eV ca cb cc
        have hv1 : w.heap.size + 1 + 1 ≤ V.heap.size := by omega
        have hv2 : wr.heap.size < V.heap.size := by omega
        have hv3 : w.heap.size + 1 < V.heap.size := by omega
        have hv4 : w.heap.size + 1 ≠ wr.heap.size := by omega
        clear hz1
        obtain ⟨e0, e1, e2⟩ := XB.out.c3
        obtain ⟨x0, x1, x2⟩ := X1.out.c3
        have S1 : Hid (TS (V.alloc (.cells #[.int .i64 xa, .int .i64 1, .int .i64 xc] 29)) (some ⟨V.heap.size, 0, none⟩) 1 1 [⟨xa, 1, xc⟩]) := Lib.hid (by simpa [cellsT] using (OT.lit V 29 0 [⟨xa, 1, xc⟩] (Nat.zero_le _) (by simp)).ts)
        have DXB : Hid (Disj (some ⟨wr.heap.size, 0, none⟩) L1) := Lib.hid (Disj.mk (B := wr.heap.size) hO1.out.lt (fun p hp => by cases hp; exact Nat.le_refl _)).symm
        have DX : Hid (Disj (some ⟨w.heap.size + 1, 0, none⟩) L1) := Lib.hid (Disj.mk (B := w.heap.size + 1 + 1) (fun p hp => by cases hp; exact Nat.lt_succ_self _) hO1.out.ge)
        have f0 := X1.out.frozen 1
        have hsx : w.heap.size + 1 ≠ V.heap.size := by omega
        have hsx2 : wr.heap.size ≠ V.heap.size := by omega
        have OO : Hid (OT ((V.alloc (.cells #[.int .i64 xa, .int .i64 1, .int .i64 xc] 29)).drew) 29 (w.heap.size + 1 + 1) L1 a1 b1 (cls 1 (xs.take k))) := Lib.hid ((P1.out.alloc _).drew)
        have ST : Hid (TS ((V.alloc (.cells #[.int .i64 xa, .int .i64 1, .int .i64 xc] 29)).drew) (some ⟨V.heap.size, 0, none⟩) 1 1 [⟨xa, 1, xc⟩]) := Lib.hid S1.out.drew
        go_region_law (refine step_append_ts2 rfl (.tmp 17) (.tmp 19) 23 rfl (w.heap.size + 1 + 1) 29 infoEnt2 Try.underlying23 L1 a1 b1 (cls 1 (xs.take k)) (by simp [Act.eval]) OO.out (some ⟨V.heap.size, 0, none⟩) 1 1 [⟨xa, 1, xc⟩] (by simp [Act.eval]) ST.out (by omega) (by show w.heap.size + 1 + 1 ≤ (V.alloc _).heap.size; simp; omega) ?_; intro F1 f1 w2 hown hg hne; have K1 := Lib.hid hown; have X2 := Lib.hid (((X1.out.alloc _).drew).away hg DX.out); have JF := Lib.hid (hne.disj hJ01.out.symm (P0.out.lt.mono (by first | omega | (simp; done) | (simp; omega)))); have JG := Lib.hid (hne.disj hJ12.out.symm.symm (P2.out.lt.mono (by first | omega | (simp; done) | (simp; omega)))); have P0 := Lib.hid (((P0.out.alloc _).drew).away hg hJ01.out); have P2 := Lib.hid (((P2.out.alloc _).drew).away hg hJ12.out.symm); have B2 := Lib.hid (below_row ((B1.out.alloc (by omega) _).drew) hg (by show w.heap.size + 1 ≤ (V.alloc _).heap.size; simp; omega) (P1.out.ge.mono (by omega))); have JX := Lib.hid (hne.disj DX.out.symm (fun p hp => by cases hp; show w.heap.size + 1 < (V.alloc _).heap.size; simp; omega)); have XB2 := Lib.hid (((XB.out.alloc _).drew).away hg DXB.out); clear hown hg hne; obtain ⟨y0, y1, y2⟩ := XB2.out.c3; obtain ⟨z0, z1, z2⟩ := X2.out.c3; have zf := X2.out.frozen 1)
        all_goals (
          clear e0 e1 e2 x0 x1 x2 f0
          go_wp2_with (fail)
          go_roundw
          case rel =>
            have YX := Lib.hid (X2.out.set_ 1 (.slice F1 (a1 + 1) f1))
            have YJ := Lib.hid (K1.out.setCell2 (p := ⟨w.heap.size + 1, 1, none⟩) (.inr JX.out.symm) (.slice F1 (a1 + 1) f1))
            have YM := Lib.hid (P0.out.setCell2 (p := ⟨w.heap.size + 1, 1, none⟩) (.inl (by show w.heap.size + 1 < _; omega)) (.slice F1 (a1 + 1) f1))
            have YN := Lib.hid (P2.out.setCell2 (p := ⟨w.heap.size + 1, 1, none⟩) (.inl (by show w.heap.size + 1 < _; omega)) (.slice F1 (a1 + 1) f1))
            have YB := Lib.hid (B2.out.setCell (p := ⟨w.heap.size + 1, 1, none⟩) (Nat.le_refl _) (.slice F1 (a1 + 1) f1))
            refine ⟨k + 1, L0, a0, b0, F1, _, f1, L2, a2, b2, by omega, by omega, by omega, by omega, by go_num, YX, Lib.hid (by first | (rw [N0.out]; exact YM.out) | (rw [N0.out, if_pos rfl]; exact YM.out) | (rw [N0.out, if_neg (by decide)]; exact YM.out)), Lib.hid (by first | (rw [N1.out]; exact YJ.out) | (rw [N1.out, if_pos rfl]; exact YJ.out) | (rw [N1.out, if_neg (by decide)]; exact YJ.out)), Lib.hid (by first | (rw [N2.out]; exact YN.out) | (rw [N2.out, if_pos rfl]; exact YN.out) | (rw [N2.out, if_neg (by decide)]; exact YN.out)), Lib.hid JF.out.symm, hJ02, JG, YB⟩
          case measure => simp [intOf]; omega)
      · go_wp2_with (fail)
        have XB : Hid (Blk (wr.alloc (.cells #[.int .i64 xa, .int .i64 2, .int .i64 xc] 29)) wr.heap.size 29 #[.int .i64 xa, .int .i64 2, .int .i64 xc]) := Lib.hid (Blk.new _ _ _)
        have X1 := Lib.hid (hX.out.alloc (.cells #[.int .i64 xa, .int .i64 2, .int .i64 xc] 29))
        have P0 := Lib.hid (hO0.out.alloc (.cells #[.int .i64 xa, .int .i64 2, .int .i64 xc] 29))
        have P1 := Lib.hid (hO1.out.alloc (.cells #[.int .i64 xa, .int .i64 2, .int .i64 xc] 29))
        have P2 := Lib.hid (hO2.out.alloc (.cells #[.int .i64 xa, .int .i64 2, .int .i64 xc] 29))
        have B1 := Lib.hid (hB.out.alloc (by omega) (.cells #[.int .i64 xa, .int .i64 2, .int .i64 xc] 29))
        have hz1 : (wr.alloc (.cells #[.int .i64 xa, .int .i64 2, .int .i64 xc] 29)).heap.size = wr.heap.size + 1 := by simp
        obtain ⟨V, eV⟩ : ∃ v : World, v = wr.alloc (.cells #[.int .i64 xa, .int .i64 2, .int .i64 xc] 29) := ⟨_, rfl⟩
        rw [← eV] at XB X1 P0 P1 P2 B1 hz1 ⊢
        clear eV ca cb cc
        have hv1 : w.heap.size + 1 + 1 ≤ V.heap.size := by omega
        have hv2 : wr.heap.size < V.heap.size := by omega
        have hv3 : w.heap.size + 1 < V.heap.size := by omega
        have hv4 : w.heap.size + 1 ≠ wr.heap.size := by omega
        clear hz1
        obtain ⟨e0, e1, e2⟩ := XB.out.c3
        obtain ⟨x0, x1, x2⟩ := X1.out.c3
        have S1 : Hid (TS (V.alloc (.cells #[.int .i64 xa, .int .i64 2, .int .i64 xc] 29)) (some ⟨V.heap.size, 0, none⟩) 1 1 [⟨xa, 2, xc⟩]) := Lib.hid (by simpa [cellsT] using (OT.lit V 29 0 [⟨xa, 2, xc⟩] (Nat.zero_le _) (by simp)).ts)
        have DXB : Hid (Disj (some ⟨wr.heap.size, 0, none⟩) L2) := Lib.hid (Disj.mk (B := wr.heap.size) hO2.out.lt (fun p hp => by cases hp; exact Nat.le_refl _)).symm
        have DX : Hid (Disj (some ⟨w.heap.size + 1, 0, none⟩) L2) := Lib.hid (Disj.mk (B := w.heap.size + 1 + 1) (fun p hp => by cases hp; exact Nat.lt_succ_self _) hO2.out.ge)
        have f0 := X1.out.frozen 2
        have hsx : w.heap.size + 1 ≠ V.heap.size := by omega
        have hsx2 : wr.heap.size ≠ V.heap.size := by omega
        have OO : Hid (OT ((V.alloc (.cells #[.int .i64 xa, .int .i64 2, .int .i64 xc] 29)).drew) 29 (w.heap.size + 1 + 1) L2 a2 b2 (cls 2 (xs.take k))) := Lib.hid ((P2.out.alloc _).drew)
        have ST : Hid (TS ((V.alloc (.cells #[.int .i64 xa, .int .i64 2, .int .i64 xc] 29)).drew) (some ⟨V.heap.size, 0, none⟩) 1 1 [⟨xa, 2, xc⟩]) := Lib.hid S1.out.drew
        go_region_law (refine step_append_ts2 rfl (.tmp 17) (.tmp 19) 23 rfl (w.heap.size + 1 + 1) 29 infoEnt2 Try.underlying23 L2 a2 b2 (cls 2 (xs.take k)) (by simp [Act.eval]) OO.out (some ⟨V.heap.size, 0, none⟩) 1 1 [⟨xa, 2, xc⟩] (by simp [Act.eval]) ST.out (by omega) (by show w.heap.size + 1 + 1 ≤ (V.alloc _).heap.size; simp; omega) ?_; intro F1 f1 w2 hown hg hne; have K1 := Lib.hid hown; have X2 := Lib.hid (((X1.out.alloc _).drew).away hg DX.out); have JF := Lib.hid (hne.disj hJ02.out.symm (P0.out.lt.mono (by first | omega | (simp; done) | (simp; omega)))); have JG := Lib.hid (hne.disj hJ12.out.symm (P1.out.lt.mono (by first | omega | (simp; done) | (simp; omega)))); have P0 := Lib.hid (((P0.out.alloc _).drew).away hg hJ02.out); have P1 := Lib.hid (((P1.out.alloc _).drew).away hg hJ12.out); have B2 := Lib.hid (below_row ((B1.out.alloc (by omega) _).drew) hg (by show w.heap.size + 1 ≤ (V.alloc _).heap.size; simp; omega) (P2.out.ge.mono (by omega))); have JX := Lib.hid (hne.disj DX.out.symm (fun p hp => by cases hp; show w.heap.size + 1 < (V.alloc _).heap.size; simp; omega)); have XB2 := Lib.hid (((XB.out.alloc _).drew).away hg DXB.out); clear hown hg hne; obtain ⟨y0, y1, y2⟩ := XB2.out.c3; obtain ⟨z0, z1, z2⟩ := X2.out.c3; have zf := X2.out.frozen 2)
        all_goals (
          clear e0 e1 e2 x0 x1 x2 f0
          go_wp2_with (fail)
          go_roundw
          case rel =>
            have YX := Lib.hid (X2.out.set_ 2 (.slice F1 (a2 + 1) f1))
            have YJ := Lib.hid (K1.out.setCell2 (p := ⟨w.heap.size + 1, 2, none⟩) (.inr JX.out.symm) (.slice F1 (a2 + 1) f1))
            have YM := Lib.hid (P0.out.setCell2 (p := ⟨w.heap.size + 1, 2, none⟩) (.inl (by show w.heap.size + 1 < _; omega)) (.slice F1 (a2 + 1) f1))
            have YN := Lib.hid (P1.out.setCell2 (p := ⟨w.heap.size + 1, 2, none⟩) (.inl (by show w.heap.size + 1 < _; omega)) (.slice F1 (a2 + 1) f1))
            have YB := Lib.hid (B2.out.setCell (p := ⟨w.heap.size + 1, 2, none⟩) (Nat.le_refl _) (.slice F1 (a2 + 1) f1))
            refine ⟨k + 1, L0, a0, b0, L1, a1, b1, F1, _, f1, by omega, by omega, by omega, by omega, by go_num, YX, Lib.hid (by first | (rw [N0.out]; exact YM.out) | (rw [N0.out, if_pos rfl]; exact YM.out) | (rw [N0.out, if_neg (by decide)]; exact YM.out)), Lib.hid (by first | (rw [N1.out]; exact YN.out) | (rw [N1.out, if_pos rfl]; exact YN.out) | (rw [N1.out, if_neg (by decide)]; exact YN.out)), Lib.hid (by first | (rw [N2.out]; exact YJ.out) | (rw [N2.out, if_pos rfl]; exact YJ.out) | (rw [N2.out, if_neg (by decide)]; exact YJ.out)), hJ01, Lib.hid JF.out.symm, Lib.hid JG.out.symm, YB⟩
          case measure => simp [intOf]; omega)
    · have ek : k = n := by omega
      subst ek
      have e1 : xs.take k = xs := List.take_of_length_le (by have := HL.out; omega)
      rw [e1] at hO0 hO1 hO2
      have RR : Hid (Blk wr w.heap.size 54 #[.slice none 0 0, .slice none 0 0, .slice none 0 0]) := Lib.hid ((hB.out.block w.heap.size (Nat.lt_succ_self _)).trans R0.out)
      have BB := Lib.hid (B0.out.trans (hB.out.mono (Nat.le_succ _)))
      clear e1
      obtain ⟨x0, x1, x2⟩ := hX.out.c3
      obtain ⟨r0, r1, r2⟩ := RR.out.c3
      have f0 := RR.out.frozen 0
      have f1 := RR.out.frozen 1
      have f2 := RR.out.frozen 2
      go_wp2_with (fail)
      refine bodyPost_ret (v := .agg #[.slice L0 a0 b0, .slice L1 a1 b1, .slice L2 a2 b2]) (by simp [results, Try.results43, go_sem, r0, r1, r2]) rfl ?_
      refine ⟨_, _, _, _, _, _, _, _, _, rfl, ?_, ?_, ?_, ?_⟩
      · refine OT.base_le (base := w.heap.size + 1 + 1) ?_ (by omega)
        repeat (refine OT.setCell ?_ (by simp; try omega) _)
        exact hO0.out
      · refine OT.base_le (base := w.heap.size + 1 + 1) ?_ (by omega)
        repeat (refine OT.setCell ?_ (by simp; try omega) _)
        exact hO1.out
      · refine OT.base_le (base := w.heap.size + 1 + 1) ?_ (by omega)
        repeat (refine OT.setCell ?_ (by simp; try omega) _)
        exact hO2.out
      · repeat (refine Below.setCell ?_ (by simp) _)
        exact BB.out
end Go.Proofs.Ythemfejahohbeaa
