/-
  Contracts of queues: all entries leave.
-/
import Derived.Test.YthemfejahohbeaaQuK
namespace Go.Proofs.Ythemfejahohbeaa
open Go.RowKit
theorem popL_le (xs : List Tr) (sh db : List Int) (t : Int) : (popL xs sh db t).length ≤ 10 := by
  rcases h : popOK xs sh db t with _ | _
  · rw [(pop_no h).2.1]; simp
  · exact (validE_iff.1 (validQ_iff.1 (pop_valid h)).1).1
theorem popH_le (xs : List Tr) (sh db : List Int) (t : Int) : (popH xs sh db t).length ≤ 3 := by
  rcases h : popOK xs sh db t with _ | _
  · rw [(pop_no h).2.2.1]; simp
  · have := (cnt_iff.1 (validQ_iff.1 (pop_valid h)).2.1).1; omega
theorem popD_le (xs : List Tr) (sh db : List Int) (t : Int) : (popD xs sh db t).length ≤ 3 := by
  rcases h : popOK xs sh db t with _ | _
  · rw [(pop_no h).2.2.2.1]; simp
  · have := (cnt_iff.1 (validQ_iff.1 (pop_valid h)).2.2.1).1; omega
theorem popA_le (xs : List Tr) (sh db : List Int) (t : Int) : (popA xs sh db t).length ≤ 10 := by
  rcases h : popOK xs sh db t with _ | _
  · rw [popA_no h]; simp
  · exact Nat.le_trans (popA_len xs sh db t) (validE_iff.1 (validQ_iff.1 (popOK_iff.1 h).1).1).1
/-- A queue in a block of its own, and what it holds. -/
structure QAt (TQ : Nat) (w : World) (g : Nat) (ys : List Tr) (sh db : List Int) (t : Int) (B1 : Option Addr) (k1 e1 : Nat) (B2 : Option Addr) (k2 e2 : Nat) (B3 : Option Addr) (k3 e3 : Nat) : Prop where
  q : Blk w g TQ #[.slice B1 k1 e1, .slice B2 k2 e2, .slice B3 k3 e3, .int .i64 t]
  l : TS w B1 k1 e1 ys
  s : IS w B2 k2 e2 sh
  d : IS w B3 k3 e3 db
theorem lt_slice {w : World} {A : Option Addr} {n c : Nat} {xs : List Tr} (h : TS w A n c xs) (hn : 0 < n) : Lt A w.heap.size := fun p hp => by
  obtain ⟨b, off, x, e, _, hc, _⟩ := h.at_ hn
  rw [e] at hp
  cases hp
  exact World.block_lt_of_cell? w _ hc
/-- A slice whose reading a write to another row leaves alone. -/
theorem TS.row_lt {w w' : World} {A D : Option Addr} {n c : Nat} {xs : List Tr} (h : TS w A n c xs) (hg : Row w w' D) (hd : 0 < n → Disj A D) : TS w' A n c xs := by
  rcases Nat.eq_zero_or_pos n with h0 | h0
  · subst h0
    exact ⟨h.1, h.2.1, h.2.2.1, fun hn => absurd hn (Nat.lt_irrefl 0), h.2.2.2.2⟩
  · exact h.away hg (hd h0)
theorem IS.row_lt {w w' : World} {A D : Option Addr} {n c : Nat} {xs : List Int} (h : IS w A n c xs) (hg : Row w w' D) (hd : 0 < n → Disj A D) : IS w' A n c xs := by
  rcases Nat.eq_zero_or_pos n with h0 | h0
  · subst h0
    exact ⟨h.1, h.2.1, h.2.2.1, fun hn => absurd hn (Nat.lt_irrefl 0), h.2.2.2.2⟩
  · exact h.away hg (hd h0)
theorem lt_ints {w : World} {A : Option Addr} {n c : Nat} {xs : List Int} (h : IS w A n c xs) (hn : 0 < n) : Lt A w.heap.size := fun p hp => by
  obtain ⟨b, off, x, e, _, hc⟩ := h.at_ hn
  rw [e] at hp
  cases hp
  exact World.block_lt_of_cell? w _ hc
theorem TS.setB {w : World} {A : Option Addr} {n c g i : Nat} {xs : List Tr} (h : TS w A n c xs) (hd : Disj (some ⟨g, 0, none⟩) A) (u : Value) : TS (w.setCell ⟨g, i, none⟩ u) A n c xs :=
  h.kept fun q hq _ => Below.heap_setCell w _ u q.block (fun e => hd _ _ rfl hq e.symm)
theorem IS.setB {w : World} {A : Option Addr} {n c g i : Nat} {xs : List Int} (h : IS w A n c xs) (hd : Disj (some ⟨g, 0, none⟩) A) (u : Value) : IS (w.setCell ⟨g, i, none⟩ u) A n c xs :=
  h.kept' fun q hq _ => Below.heap_setCell w _ u q.block (fun e => hd _ _ rfl hq e.symm)
set_option maxHeartbeats 16000000 in
theorem impl_PopAll_any {A A2 A3 : Option Addr} {n c n2 c2 n3 c3 : Nat} {xs : List Tr} {sh db : List Int} (t : Int) (w : World) (h : TS w A n c xs) (h2 : IS w A2 n2 c2 sh) (h3 : IS w A3 n3 c3 db) (hn : n ≤ 1048576) :
    Calls Try.prog 23 #[.agg #[.slice A n c, .slice A2 n2 c2, .slice A3 n3 c3, .int .i64 t]] w (GaveTri 29 w (popA xs sh db t)) := by
  have hl := Lib.hid h.len
  have HQ0 : Hid (QAt 26 (w.alloc (.cells #[.slice A n c, .slice A2 n2 c2, .slice A3 n3 c3, .int .i64 t] 26)) w.heap.size xs sh db t A n c A2 n2 c2 A3 n3 c3) := Lib.hid ⟨Blk.new _ _ _, h.alloc _, h2.alloc _, h3.alloc _⟩
  have B0 := Lib.hid (below_new w (.cells #[.slice A n c, .slice A2 n2 c2, .slice A3 n3 c3, .int .i64 t] 26))
  clear h h2 h3
  go_enter Try.func23, Try.ntmps23
  go_wp2_with (fail)
  generalize w.alloc (.cells #[.slice A n c, .slice A2 n2 c2, .slice A3 n3 c3, .int .i64 t] 26) = W at *
  go_loopg [3] n (fun k v3 wr => ∃ (ys acc : List Tr) (s d : List Int) (tt : Int) (B1 : Option Addr) (k1 e1 : Nat) (B2 : Option Addr) (k2 e2 : Nat) (B3 : Option Addr) (k3 e3 : Nat) (G : Option Addr) (ng cg : Nat), v3 = .slice G ng cg ∧ k = ys.length ∧ ng + k ≤ 1048576 ∧ Hid (QAt 26 wr w.heap.size ys s d tt B1 k1 e1 B2 k2 e2 B3 k3 e3) ∧ Hid (OT wr 29 (w.heap.size + 1) G ng cg acc) ∧ Hid (0 < k1 → Disj B1 G) ∧ Hid (0 < k2 → Disj B2 G) ∧ Hid (0 < k3 → Disj B3 G) ∧ Hid (acc ++ popA ys s d tt = popA xs sh db t) ∧ Hid (Below w.heap.size w wr))
  case atStart => exact ⟨xs, [], sh, db, t, A, n, c, A2, n2, c2, A3, n3, c3, none, 0, 0, rfl, hl.out.symm, by omega, HQ0, Lib.hid (OT.nil _ _ _), Lib.hid (fun _ => (disj_none A).symm), Lib.hid (fun _ => (disj_none A2).symm), Lib.hid (fun _ => (disj_none A3).symm), Lib.hid rfl, B0⟩
  case round =>
    obtain ⟨ys, acc, s, d, tt, B1, k1, e1, B2, k2, e2, B3, k3, e3, G, ng, cg, rfl, hk0, hng, HQ, HG, hj1, hj2, hj3, HP, HB⟩ := hrel
    have HK0 := Lib.hid hk0
    clear HQ0 B0 hk0
    rcases hok : popOK ys s d tt with _ | _
    · have HA := Lib.hid (popA_no hok)
      have HOK := Lib.hid hok
      clear hok
      obtain ⟨q0, q1, q2, q3⟩ := HQ.out.q.c4
      have ql := HQ.out.q.lt
      go_wp2_with (fail)
      refine (impl_PopEntry_any tt _ HQ.out.l HQ.out.s HQ.out.d).mono ?_
      rintro e w1 ⟨N1, a1, b1, N2, a2, b2, N3, a3, b3, rfl, ho1, ho2, ho3, j12, j13, j23, hb⟩
      rw [HOK.out]
      have G1 := Lib.hid (HG.out.below hb (Nat.le_refl _))
      have hzb := HB.out.size
      have B1' := Lib.hid (HB.out.trans (hb.mono hzb))
      have hz1 := hb.size
      clear hb ho1 ho2 ho3 j12 j13 j23 q0 q1 q2 q3 ql
      go_wp2_with (fail)
      go_ret
      have h1 := HP.out
      rw [HA.out, List.append_nil] at h1
      exact ⟨G, ng, cg, rfl, by rw [← h1]; exact ((G1.out.base_le (Nat.le_succ _)).alloc _).alloc _, (B1'.out.alloc (by omega) _).alloc (by simp; omega) _⟩
    · have HOK := Lib.hid hok
      have hyl := Lib.hid (pop_len hok)
      have HA := Lib.hid (popA_yes hok)
      have HVN := Lib.hid (pop_valid hok)
      clear hok
      obtain ⟨q0, q1, q2, q3⟩ := HQ.out.q.c4
      have ql := HQ.out.q.lt
      go_wp2_with (fail)
      refine (impl_PopEntry_any tt _ HQ.out.l HQ.out.s HQ.out.d).mono ?_
      rintro e w1 ⟨N1, a1, b1, N2, a2, b2, N3, a3, b3, rfl, ho1, ho2, ho3, j12, j13, j23, hb⟩
      rw [HOK.out]
      have ql2 : w.heap.size < wr.heap.size := ql
      clear q0 q1 q2 q3 ql
      have hz1 := hb.size
      obtain ⟨x, hx⟩ : ∃ x, popX ys s d tt = x := ⟨_, rfl⟩
      have HX := Lib.hid hx
      rw [hx]
      clear hx
      obtain ⟨xa, xb, xc⟩ := x
      simp only
      have Q1 := Lib.hid (HQ.out.q.on hb)
      have G1 := Lib.hid (HG.out.below hb (Nat.le_refl _))
      have GL := Lib.hid HG.out.lt
      have B1' := Lib.hid (HB.out.trans (hb.mono HB.out.size))
      have O1 := Lib.hid ho1
      have O2 := Lib.hid ho2
      have O3 := Lib.hid ho3
      have hzb := HB.out.size
      clear hb ho1 ho2 ho3 j12 j13 j23
      have XN : Hid (Blk ((w1.alloc (.cells #[.int .i64 xa, .int .i64 xb, .int .i64 xc] 29)).alloc (.cells #[.slice N1 a1 b1, .slice N2 a2 b2, .slice N3 a3 b3, .int .i64 (popT ys s d tt)] 26)) (w1.heap.size + 1) 26 #[.slice N1 a1 b1, .slice N2 a2 b2, .slice N3 a3 b3, .int .i64 (popT ys s d tt)]) := Lib.hid (by simpa using Blk.new (w1.alloc (.cells #[.int .i64 xa, .int .i64 xb, .int .i64 xc] 29)) 26 #[.slice N1 a1 b1, .slice N2 a2 b2, .slice N3 a3 b3, .int .i64 (popT ys s d tt)])
      have XN2 := Lib.hid (XN.out.alloc (.cells #[.int .i64 xa, .int .i64 xb, .int .i64 xc] 29))
      have Q2 := Lib.hid (((Q1.out.alloc (.cells #[.int .i64 xa, .int .i64 xb, .int .i64 xc] 29)).alloc (.cells #[.slice N1 a1 b1, .slice N2 a2 b2, .slice N3 a3 b3, .int .i64 (popT ys s d tt)] 26)).alloc (.cells #[.int .i64 xa, .int .i64 xb, .int .i64 xc] 29))
      have P1 := Lib.hid (((O1.out.ts.alloc (.cells #[.int .i64 xa, .int .i64 xb, .int .i64 xc] 29)).alloc (.cells #[.slice N1 a1 b1, .slice N2 a2 b2, .slice N3 a3 b3, .int .i64 (popT ys s d tt)] 26)).alloc (.cells #[.int .i64 xa, .int .i64 xb, .int .i64 xc] 29))
      have P2 := Lib.hid (((O2.out.is.alloc (.cells #[.int .i64 xa, .int .i64 xb, .int .i64 xc] 29)).alloc (.cells #[.slice N1 a1 b1, .slice N2 a2 b2, .slice N3 a3 b3, .int .i64 (popT ys s d tt)] 26)).alloc (.cells #[.int .i64 xa, .int .i64 xb, .int .i64 xc] 29))
      have P3 := Lib.hid (((O3.out.is.alloc (.cells #[.int .i64 xa, .int .i64 xb, .int .i64 xc] 29)).alloc (.cells #[.slice N1 a1 b1, .slice N2 a2 b2, .slice N3 a3 b3, .int .i64 (popT ys s d tt)] 26)).alloc (.cells #[.int .i64 xa, .int .i64 xb, .int .i64 xc] 29))
      have G2 := Lib.hid (((G1.out.alloc (.cells #[.int .i64 xa, .int .i64 xb, .int .i64 xc] 29)).alloc (.cells #[.slice N1 a1 b1, .slice N2 a2 b2, .slice N3 a3 b3, .int .i64 (popT ys s d tt)] 26)).alloc (.cells #[.int .i64 xa, .int .i64 xb, .int .i64 xc] 29))
      have B2' := Lib.hid (((B1'.out.alloc (by omega) (.cells #[.int .i64 xa, .int .i64 xb, .int .i64 xc] 29)).alloc (by simp; omega) (.cells #[.slice N1 a1 b1, .slice N2 a2 b2, .slice N3 a3 b3, .int .i64 (popT ys s d tt)] 26)).alloc (by simp; omega) (.cells #[.int .i64 xa, .int .i64 xb, .int .i64 xc] 29))
      have LL1 := Lib.hid O1.out.lt
      have LL2 := Lib.hid O2.out.lt
      have LL3 := Lib.hid O3.out.lt
      have JJ1 : Hid (Disj G N1) := Lib.hid (Disj.mk GL.out O1.out.ge)
      have JJ2 : Hid (Disj G N2) := Lib.hid (Disj.mk GL.out O2.out.ge)
      have JJ3 : Hid (Disj G N3) := Lib.hid (Disj.mk GL.out O3.out.ge)
      have JQ : Hid (Disj (some ⟨w.heap.size, 0, none⟩) G) := Lib.hid (disj_lt (Nat.lt_succ_self _) HG.out.ge)
      have JQN1 : Hid (Disj (some ⟨w.heap.size, 0, none⟩) N1) := Lib.hid (disj_lt (by have := ql2; omega) O1.out.ge)
      have JQN2 : Hid (Disj (some ⟨w.heap.size, 0, none⟩) N2) := Lib.hid (disj_lt (by have := ql2; omega) O2.out.ge)
      have JQN3 : Hid (Disj (some ⟨w.heap.size, 0, none⟩) N3) := Lib.hid (disj_lt (by have := ql2; omega) O3.out.ge)
      have JN : Hid (Disj (some ⟨w1.heap.size + 1, 0, none⟩) G) := Lib.hid (Disj.mk (B := wr.heap.size) GL.out (fun p hp => by cases hp; show wr.heap.size ≤ w1.heap.size + 1; omega)).symm
      have SX : Hid (TS (((w1.alloc (.cells #[.int .i64 xa, .int .i64 xb, .int .i64 xc] 29)).alloc (.cells #[.slice N1 a1 b1, .slice N2 a2 b2, .slice N3 a3 b3, .int .i64 (popT ys s d tt)] 26)).alloc (.cells #[.int .i64 xa, .int .i64 xb, .int .i64 xc] 29)) (some ⟨w1.heap.size + 1 + 1, 0, none⟩) 1 1 [⟨xa, xb, xc⟩]) := Lib.hid (by simpa [cellsT] using (OT.lit ((w1.alloc (.cells #[.int .i64 xa, .int .i64 xb, .int .i64 xc] 29)).alloc (.cells #[.slice N1 a1 b1, .slice N2 a2 b2, .slice N3 a3 b3, .int .i64 (popT ys s d tt)] 26)) 29 0 [⟨xa, xb, xc⟩] (Nat.zero_le _) (by simp)).ts)
      clear Q1 G1 B1' O1 O2 O3 XN HQ HG HB
      go_wp2_with (at_builtin; refine wpList_append_ts2 _ rfl (.tmp 16) (.tmp 18) _ rfl (w.heap.size + 1) 29 infoEnt2 Try.underlying23 _ _ _ acc rfl G2.out _ _ _ [⟨xa, xb, xc⟩] rfl SX.out (by omega) (by simp; omega) ?_; intro F1 f1 w2 hown hg hnr; have K1 := Lib.hid hown; have hz2 := hg.size; simp at hz2; have Q3 := Lib.hid (Q2.out.away hg JQ.out); have N3' := Lib.hid (XN2.out.away hg JN.out); have R1 := Lib.hid (P1.out.row_lt hg (fun _ => JJ1.out.symm)); have R2 := Lib.hid (P2.out.row_lt hg (fun _ => JJ2.out.symm)); have R3 := Lib.hid (P3.out.row_lt hg (fun _ => JJ3.out.symm)); have JF1 := Lib.hid (hnr.disj JJ1.out (LL1.out.mono (by simp; omega))); have JF2 := Lib.hid (hnr.disj JJ2.out (LL2.out.mono (by simp; omega))); have JF3 := Lib.hid (hnr.disj JJ3.out (LL3.out.mono (by simp; omega))); have JFQ := Lib.hid (hnr.disj JQ.out.symm (fun p hp => by cases hp; show w.heap.size < _; simp; omega)); have B3' := Lib.hid (below_row B2'.out hg (by simp; omega) (G2.out.ge.mono (Nat.le_succ _))); clear hown hg hnr; obtain ⟨y0, y1, y2, y3⟩ := Q3.out.c4; obtain ⟨z0, z1, z2, z3⟩ := N3'.out.c4; have f0 := Q3.out.frozen 0; have f1' := Q3.out.frozen 1; have f2 := Q3.out.frozen 2; have f3 := Q3.out.frozen 3; have hqn : w.heap.size ≠ w1.heap.size + 1 := by omega)
      go_roundg (gk - 1)
      case measure => have := hyl.out; have := HK0.out; omega
      case rel =>
        have hyl2 := hyl.out
        have hkk := HK0.out
        refine ⟨popL ys s d tt, acc ++ [⟨xa, xb, xc⟩], popH ys s d tt, popD ys s d tt, popT ys s d tt, N1, a1, b1, N2, a2, b2, N3, a3, b3, F1, ng + 1, f1, rfl, by omega, by omega, Lib.hid ⟨?_, ?_, ?_, ?_⟩, Lib.hid ?_, Lib.hid (fun _ => JF1.out.symm), Lib.hid (fun _ => JF2.out.symm), Lib.hid (fun _ => JF3.out.symm), Lib.hid ?_, Lib.hid ?_⟩
        · exact (((Q3.out.set_ 0 _).set_ 1 _).set_ 2 _).set_ 3 _
        · exact (((R1.out.setB (JQN1.out) _).setB (JQN1.out) _).setB (JQN1.out) _).setB (JQN1.out) _
        · exact (((R2.out.setB (JQN2.out) _).setB (JQN2.out) _).setB (JQN2.out) _).setB (JQN2.out) _
        · exact (((R3.out.setB (JQN3.out) _).setB (JQN3.out) _).setB (JQN3.out) _).setB (JQN3.out) _
        · exact (((K1.out.setCell2 (.inr JFQ.out.symm) _).setCell2 (.inr JFQ.out.symm) _).setCell2 (.inr JFQ.out.symm) _).setCell2 (.inr JFQ.out.symm) _
        · rw [List.append_assoc, List.singleton_append, ← HX.out, ← HA.out]; exact HP.out
        · exact (((B3'.out.setCell (Nat.le_refl _) _).setCell (Nat.le_refl _) _).setCell (Nat.le_refl _) _).setCell (Nat.le_refl _) _
set_option maxHeartbeats 16000000 in
theorem spec_PopAll_any {A A2 A3 : Option Addr} {n c n2 c2 n3 c3 : Nat} {xs : List Tr} {sh db : List Int} (t : Int) (w : World) (h : TS w A n c xs) (h2 : IS w A2 n2 c2 sh) (h3 : IS w A3 n3 c3 db) (hn : n ≤ 1048576) :
    Calls Try.prog 25 #[.agg #[.slice A n c, .slice A2 n2 c2, .slice A3 n3 c3, .int .i64 t]] w (GaveTri 29 w (popA xs sh db t)) := by
  have hl := Lib.hid h.len
  have HT := Lib.hid ((h.alloc (.cells #[.slice A n c, .slice A2 n2 c2, .slice A3 n3 c3, .int .i64 t] 26)).alloc (.cells #[] 29))
  have HS := Lib.hid ((h2.alloc (.cells #[.slice A n c, .slice A2 n2 c2, .slice A3 n3 c3, .int .i64 t] 26)).alloc (.cells #[] 29))
  have HD := Lib.hid ((h3.alloc (.cells #[.slice A n c, .slice A2 n2 c2, .slice A3 n3 c3, .int .i64 t] 26)).alloc (.cells #[] 29))
  have HK := Lib.hid ((Blk.new w 26 #[.slice A n c, .slice A2 n2 c2, .slice A3 n3 c3, .int .i64 t]).alloc (.cells #[] 29))
  have HE : Hid (OT ((w.alloc (.cells #[.slice A n c, .slice A2 n2 c2, .slice A3 n3 c3, .int .i64 t] 26)).alloc (.cells #[] 29)) 29 (w.heap.size + 1) (some ⟨w.heap.size + 1, 0, none⟩) 0 0 []) := Lib.hid (by simpa [cellsT] using OT.lit (w.alloc (.cells #[.slice A n c, .slice A2 n2 c2, .slice A3 n3 c3, .int .i64 t] 26)) 29 (w.heap.size + 1) [] (by simp) (by simp))
  have B0 := Lib.hid ((below_new w (.cells #[.slice A n c, .slice A2 n2 c2, .slice A3 n3 c3, .int .i64 t] 26)).alloc (by simp) (.cells #[] 29))
  have L1 : Hid (0 < n → Lt A w.heap.size) := Lib.hid (fun hn => lt_slice h hn)
  have L2 : Hid (0 < n2 → Lt A2 w.heap.size) := Lib.hid (fun hn => lt_ints h2 hn)
  have L3 : Hid (0 < n3 → Lt A3 w.heap.size) := Lib.hid (fun hn => lt_ints h3 hn)
  clear h h2 h3
  rcases hv : validQ xs sh db t with _ | _
  · have HA := Lib.hid (popA_no (show popOK xs sh db t = false by simp [popOK, hv]))
    go_enter Try.func25, Try.ntmps25
    go_wp2_with (fail)
    refine (call_b (spec_validQueue_any t _ HT.out HS.out HD.out) hv).mono ?_
    rintro e w1 ⟨rfl, hb⟩
    have B1 := Lib.hid (B0.out.trans (hb.mono B0.out.size))
    clear hb hv
    go_wp2_with (fail)
    go_ret
    exact ⟨none, 0, 0, rfl, by rw [HA.out]; exact OT.nil _ _ _, B1.out⟩
  have HV := Lib.hid hv
  clear hv
  go_enter Try.func25, Try.ntmps25
  go_wp2_with (fail)
  refine (call_b (spec_validQueue_any t _ HT.out HS.out HD.out) HV.out).mono ?_
  rintro e W ⟨rfl, hb⟩
  have HQ0 : Hid (QAt 26 W w.heap.size xs sh db t A n c A2 n2 c2 A3 n3 c3) := Lib.hid ⟨HK.out.on hb, HT.out.below hb (Nat.le_refl _), HS.out.below hb (Nat.le_refl _), HD.out.below hb (Nat.le_refl _)⟩
  have HE0 := Lib.hid (HE.out.below hb (Nat.le_refl _))
  have BB := Lib.hid (B0.out.trans (hb.mono B0.out.size))
  clear hb HT HS HD HK HE B0
  go_wp2_with (fail)
  go_loopg [3] n (fun k v3 wr => ∃ (ys acc : List Tr) (s d : List Int) (tt : Int) (B1 : Option Addr) (k1 e1 : Nat) (B2 : Option Addr) (k2 e2 : Nat) (B3 : Option Addr) (k3 e3 : Nat) (G : Option Addr) (ng cg : Nat), v3 = .slice G ng cg ∧ k = ys.length ∧ ng + k ≤ 1048576 ∧ Hid (QAt 26 wr w.heap.size ys s d tt B1 k1 e1 B2 k2 e2 B3 k3 e3) ∧ Hid (OT wr 29 (w.heap.size + 1) G ng cg acc) ∧ Hid (0 < k1 → Disj B1 G) ∧ Hid (0 < k2 → Disj B2 G) ∧ Hid (0 < k3 → Disj B3 G) ∧ Hid (acc ++ popA ys s d tt = popA xs sh db t) ∧ Hid (validQ ys s d tt = true) ∧ Hid (Below w.heap.size w wr))
  case atStart => exact ⟨xs, [], sh, db, t, A, n, c, A2, n2, c2, A3, n3, c3, _, 0, 0, rfl, hl.out.symm, by omega, HQ0, HE0, Lib.hid (fun hn => Disj.mk (L1.out hn) (fun p hp => by cases hp; exact Nat.le_succ _)), Lib.hid (fun hn => Disj.mk (L2.out hn) (fun p hp => by cases hp; exact Nat.le_succ _)), Lib.hid (fun hn => Disj.mk (L3.out hn) (fun p hp => by cases hp; exact Nat.le_succ _)), Lib.hid rfl, HV, BB⟩
  case round =>
    obtain ⟨ys, acc, s, d, tt, B1, k1, e1, B2, k2, e2, B3, k3, e3, G, ng, cg, rfl, hk0, hng, HQ, HG, hj1, hj2, hj3, HP, HVC, HB⟩ := hrel
    have HK0 := Lib.hid hk0
    clear HQ0 BB HE0 hk0
    have hk1 := Lib.hid HQ.out.l.len
    have hcap := HQ.out.l.cap
    rcases hys : ys with _ | ⟨y, ly⟩
    · subst hys
      obtain rfl : k1 = 0 := by have := hk1.out; simpa using this.symm
      have HA := Lib.hid (popA_no (show popOK [] s d tt = false by simp [popOK]))
      obtain ⟨q0, q1, q2, q3⟩ := HQ.out.q.c4
      go_wp2_with (fail)
      go_ret
      have h1 := HP.out
      rw [HA.out, List.append_nil] at h1
      exact ⟨G, ng, cg, rfl, by rw [← h1]; exact HG.out.base_le (Nat.le_succ _), HB.out⟩
    · have hok : popOK ys s d tt = true := popOK_iff.2 ⟨HVC.out, by rw [hys]; simp⟩
      have hk1p : 0 < k1 := by have := hk1.out; rw [hys] at this; simp at this; omega
      have hk1i : decide (0 < (k1 : Int)) = true := decide_eq_true (by omega)
      clear hys hk1
      have HOK := Lib.hid hok
      have hyl := Lib.hid (pop_len hok)
      have HA := Lib.hid (popA_yes hok)
      have HVN := Lib.hid (pop_valid hok)
      clear hok
      obtain ⟨q0, q1, q2, q3⟩ := HQ.out.q.c4
      have ql := HQ.out.q.lt
      go_wp2_with (fail)
      refine (spec_PopEntry_any tt _ HQ.out.l HQ.out.s HQ.out.d).mono ?_
      rintro e w1 ⟨N1, a1, b1, N2, a2, b2, N3, a3, b3, rfl, ho1, ho2, ho3, j12, j13, j23, hb⟩
      rw [HOK.out]
      have ql2 : w.heap.size < wr.heap.size := ql
      clear q0 q1 q2 q3 ql
      have hz1 := hb.size
      obtain ⟨x, hx⟩ : ∃ x, popX ys s d tt = x := ⟨_, rfl⟩
      have HX := Lib.hid hx
      rw [hx]
      clear hx
      obtain ⟨xa, xb, xc⟩ := x
      simp only
      have Q1 := Lib.hid (HQ.out.q.on hb)
      have G1 := Lib.hid (HG.out.below hb (Nat.le_refl _))
      have GL := Lib.hid HG.out.lt
      have B1' := Lib.hid (HB.out.trans (hb.mono HB.out.size))
      have O1 := Lib.hid ho1
      have O2 := Lib.hid ho2
      have O3 := Lib.hid ho3
      have hzb := HB.out.size
      clear hb ho1 ho2 ho3 j12 j13 j23
      have XN : Hid (Blk ((w1.alloc (.cells #[.int .i64 xa, .int .i64 xb, .int .i64 xc] 29)).alloc (.cells #[.slice N1 a1 b1, .slice N2 a2 b2, .slice N3 a3 b3, .int .i64 (popT ys s d tt)] 26)) (w1.heap.size + 1) 26 #[.slice N1 a1 b1, .slice N2 a2 b2, .slice N3 a3 b3, .int .i64 (popT ys s d tt)]) := Lib.hid (by simpa using Blk.new (w1.alloc (.cells #[.int .i64 xa, .int .i64 xb, .int .i64 xc] 29)) 26 #[.slice N1 a1 b1, .slice N2 a2 b2, .slice N3 a3 b3, .int .i64 (popT ys s d tt)])
      have XN2 := Lib.hid (XN.out.alloc (.cells #[.int .i64 xa, .int .i64 xb, .int .i64 xc] 29))
      have Q2 := Lib.hid (((Q1.out.alloc (.cells #[.int .i64 xa, .int .i64 xb, .int .i64 xc] 29)).alloc (.cells #[.slice N1 a1 b1, .slice N2 a2 b2, .slice N3 a3 b3, .int .i64 (popT ys s d tt)] 26)).alloc (.cells #[.int .i64 xa, .int .i64 xb, .int .i64 xc] 29))
      have P1 := Lib.hid (((O1.out.ts.alloc (.cells #[.int .i64 xa, .int .i64 xb, .int .i64 xc] 29)).alloc (.cells #[.slice N1 a1 b1, .slice N2 a2 b2, .slice N3 a3 b3, .int .i64 (popT ys s d tt)] 26)).alloc (.cells #[.int .i64 xa, .int .i64 xb, .int .i64 xc] 29))
      have P2 := Lib.hid (((O2.out.is.alloc (.cells #[.int .i64 xa, .int .i64 xb, .int .i64 xc] 29)).alloc (.cells #[.slice N1 a1 b1, .slice N2 a2 b2, .slice N3 a3 b3, .int .i64 (popT ys s d tt)] 26)).alloc (.cells #[.int .i64 xa, .int .i64 xb, .int .i64 xc] 29))
      have P3 := Lib.hid (((O3.out.is.alloc (.cells #[.int .i64 xa, .int .i64 xb, .int .i64 xc] 29)).alloc (.cells #[.slice N1 a1 b1, .slice N2 a2 b2, .slice N3 a3 b3, .int .i64 (popT ys s d tt)] 26)).alloc (.cells #[.int .i64 xa, .int .i64 xb, .int .i64 xc] 29))
      have G2 := Lib.hid (((G1.out.alloc (.cells #[.int .i64 xa, .int .i64 xb, .int .i64 xc] 29)).alloc (.cells #[.slice N1 a1 b1, .slice N2 a2 b2, .slice N3 a3 b3, .int .i64 (popT ys s d tt)] 26)).alloc (.cells #[.int .i64 xa, .int .i64 xb, .int .i64 xc] 29))
      have B2' := Lib.hid (((B1'.out.alloc (by omega) (.cells #[.int .i64 xa, .int .i64 xb, .int .i64 xc] 29)).alloc (by simp; omega) (.cells #[.slice N1 a1 b1, .slice N2 a2 b2, .slice N3 a3 b3, .int .i64 (popT ys s d tt)] 26)).alloc (by simp; omega) (.cells #[.int .i64 xa, .int .i64 xb, .int .i64 xc] 29))
      have LL1 := Lib.hid O1.out.lt
      have LL2 := Lib.hid O2.out.lt
      have LL3 := Lib.hid O3.out.lt
      have JJ1 : Hid (Disj G N1) := Lib.hid (Disj.mk GL.out O1.out.ge)
      have JJ2 : Hid (Disj G N2) := Lib.hid (Disj.mk GL.out O2.out.ge)
      have JJ3 : Hid (Disj G N3) := Lib.hid (Disj.mk GL.out O3.out.ge)
      have JQ : Hid (Disj (some ⟨w.heap.size, 0, none⟩) G) := Lib.hid (disj_lt (Nat.lt_succ_self _) HG.out.ge)
      have JQN1 : Hid (Disj (some ⟨w.heap.size, 0, none⟩) N1) := Lib.hid (disj_lt (by have := ql2; omega) O1.out.ge)
      have JQN2 : Hid (Disj (some ⟨w.heap.size, 0, none⟩) N2) := Lib.hid (disj_lt (by have := ql2; omega) O2.out.ge)
      have JQN3 : Hid (Disj (some ⟨w.heap.size, 0, none⟩) N3) := Lib.hid (disj_lt (by have := ql2; omega) O3.out.ge)
      have JN : Hid (Disj (some ⟨w1.heap.size + 1, 0, none⟩) G) := Lib.hid (Disj.mk (B := wr.heap.size) GL.out (fun p hp => by cases hp; show wr.heap.size ≤ w1.heap.size + 1; omega)).symm
      have SX : Hid (TS (((w1.alloc (.cells #[.int .i64 xa, .int .i64 xb, .int .i64 xc] 29)).alloc (.cells #[.slice N1 a1 b1, .slice N2 a2 b2, .slice N3 a3 b3, .int .i64 (popT ys s d tt)] 26)).alloc (.cells #[.int .i64 xa, .int .i64 xb, .int .i64 xc] 29)) (some ⟨w1.heap.size + 1 + 1, 0, none⟩) 1 1 [⟨xa, xb, xc⟩]) := Lib.hid (by simpa [cellsT] using (OT.lit ((w1.alloc (.cells #[.int .i64 xa, .int .i64 xb, .int .i64 xc] 29)).alloc (.cells #[.slice N1 a1 b1, .slice N2 a2 b2, .slice N3 a3 b3, .int .i64 (popT ys s d tt)] 26)) 29 0 [⟨xa, xb, xc⟩] (Nat.zero_le _) (by simp)).ts)
      clear Q1 G1 B1' O1 O2 O3 XN HQ HG HB
      go_wp2_with (at_builtin; refine wpList_append_ts2 _ rfl (.tmp 21) (.tmp 23) _ rfl (w.heap.size + 1) 29 infoEnt2 Try.underlying23 _ _ _ acc rfl G2.out _ _ _ [⟨xa, xb, xc⟩] rfl SX.out (by omega) (by simp; omega) ?_; intro F1 f1 w2 hown hg hnr; have K1 := Lib.hid hown; have hz2 := hg.size; simp at hz2; have Q3 := Lib.hid (Q2.out.away hg JQ.out); have N3' := Lib.hid (XN2.out.away hg JN.out); have R1 := Lib.hid (P1.out.row_lt hg (fun _ => JJ1.out.symm)); have R2 := Lib.hid (P2.out.row_lt hg (fun _ => JJ2.out.symm)); have R3 := Lib.hid (P3.out.row_lt hg (fun _ => JJ3.out.symm)); have JF1 := Lib.hid (hnr.disj JJ1.out (LL1.out.mono (by simp; omega))); have JF2 := Lib.hid (hnr.disj JJ2.out (LL2.out.mono (by simp; omega))); have JF3 := Lib.hid (hnr.disj JJ3.out (LL3.out.mono (by simp; omega))); have JFQ := Lib.hid (hnr.disj JQ.out.symm (fun p hp => by cases hp; show w.heap.size < _; simp; omega)); have B3' := Lib.hid (below_row B2'.out hg (by simp; omega) (G2.out.ge.mono (Nat.le_succ _))); clear hown hg hnr; obtain ⟨y0, y1, y2, y3⟩ := Q3.out.c4; obtain ⟨z0, z1, z2, z3⟩ := N3'.out.c4; have f0 := Q3.out.frozen 0; have f1' := Q3.out.frozen 1; have f2 := Q3.out.frozen 2; have f3 := Q3.out.frozen 3; have hqn : w.heap.size ≠ w1.heap.size + 1 := by omega)
      go_roundg (gk - 1)
      case measure => have := hyl.out; have := HK0.out; omega
      case rel =>
        have hyl2 := hyl.out
        have hkk := HK0.out
        refine ⟨popL ys s d tt, acc ++ [⟨xa, xb, xc⟩], popH ys s d tt, popD ys s d tt, popT ys s d tt, N1, a1, b1, N2, a2, b2, N3, a3, b3, F1, ng + 1, f1, rfl, by omega, by omega, Lib.hid ⟨?_, ?_, ?_, ?_⟩, Lib.hid ?_, Lib.hid (fun _ => JF1.out.symm), Lib.hid (fun _ => JF2.out.symm), Lib.hid (fun _ => JF3.out.symm), Lib.hid ?_, HVN, Lib.hid ?_⟩
        · exact (((Q3.out.set_ 0 _).set_ 1 _).set_ 2 _).set_ 3 _
        · exact (((R1.out.setB (JQN1.out) _).setB (JQN1.out) _).setB (JQN1.out) _).setB (JQN1.out) _
        · exact (((R2.out.setB (JQN2.out) _).setB (JQN2.out) _).setB (JQN2.out) _).setB (JQN2.out) _
        · exact (((R3.out.setB (JQN3.out) _).setB (JQN3.out) _).setB (JQN3.out) _).setB (JQN3.out) _
        · exact (((K1.out.setCell2 (.inr JFQ.out.symm) _).setCell2 (.inr JFQ.out.symm) _).setCell2 (.inr JFQ.out.symm) _).setCell2 (.inr JFQ.out.symm) _
        · rw [List.append_assoc, List.singleton_append, ← HX.out, ← HA.out]; exact HP.out
        · exact (((B3'.out.setCell (Nat.le_refl _) _).setCell (Nat.le_refl _) _).setCell (Nat.le_refl _) _).setCell (Nat.le_refl _) _
end Go.Proofs.Ythemfejahohbeaa
