/-
  Contracts of queues: an entry is put in, bytes.
-/
import Derived.Test.YtmlnaijpbfddaaaQuC
import Derived.Test.YtmlnaijpbfddaaaQuY
import Derived.Test.YtmlnaijpbfddaaaQuP
namespace Go.Proofs.Ytmlnaijpbfddaaa
open Go.RowKit
/-- A call has handed back a queue with new memory, and whether there is one. -/
def GaveQuB (T TI : Nat) (w : World) (xs : List Tr) (sh db : List Int) (t : Int) (b : Bool) (e : Ending) (w' : World) : Prop :=
  ∃ A1 n1 c1 A2 n2 c2 A3 n3 c3, e = .returned (.tuple #[.agg #[.slice A1 n1 c1, .slice A2 n2 c2, .slice A3 n3 c3, .int .i64 t], .bool b]) ∧ OT w' T w.heap.size A1 n1 c1 xs ∧ OW w' TI w.heap.size A2 n2 c2 sh ∧ OW w' TI w.heap.size A3 n3 c3 db ∧ Disj A1 A2 ∧ Disj A1 A3 ∧ Disj A2 A3 ∧ Below w.heap.size w w'
theorem OW.nil (w : World) (T base : Nat) : OW w T base none 0 0 [] := ⟨rfl, .inl ⟨rfl, rfl⟩⟩
theorem disj_none (A : Option Addr) : Disj none A := fun p q hp _ => by cases hp
/-- An entry can be put in. -/
noncomputable def puOK (xs : List Tr) (sh db : List Int) (t : Int) (x : Tr) : Bool := validQ (xs ++ [x]) sh db t
noncomputable def puX (xs : List Tr) (sh db : List Int) (t : Int) (x : Tr) : List Tr := if puOK xs sh db t x then xs ++ [x] else []
noncomputable def puS (xs : List Tr) (sh db : List Int) (t : Int) (x : Tr) : List Int := if puOK xs sh db t x then sh else []
noncomputable def puD (xs : List Tr) (sh db : List Int) (t : Int) (x : Tr) : List Int := if puOK xs sh db t x then db else []
noncomputable def puT (xs : List Tr) (sh db : List Int) (t : Int) (x : Tr) : Int := if puOK xs sh db t x then t else 0
theorem puOK_f {xs : List Tr} {sh db : List Int} {t : Int} {x : Tr} (h : validQ xs sh db t = false) : puOK xs sh db t x = false := by
  rcases hb : puOK xs sh db t x with _ | _
  · rfl
  · exfalso
    unfold puOK at hb
    obtain ⟨h1, h2⟩ := validQ_iff.1 hb
    have h3 := validQ_iff.2 ⟨validE_t ((validE_iff.1 h1).sub (List.sublist_append_left xs [x])), h2⟩
    rw [h] at h3
    cases h3
theorem puX_le (xs : List Tr) (sh db : List Int) (t : Int) (x : Tr) : (puX xs sh db t x).length ≤ 10 := by
  unfold puX
  split
  · rename_i h; exact (validE_iff.1 (validQ_iff.1 h).1).1
  · simp
theorem puS_le (xs : List Tr) (sh db : List Int) (t : Int) (x : Tr) : (puS xs sh db t x).length ≤ 3 := by
  unfold puS
  split
  · rename_i h; have := (cnt_iff.1 (validQ_iff.1 h).2.1).1; omega
  · simp
theorem puD_le (xs : List Tr) (sh db : List Int) (t : Int) (x : Tr) : (puD xs sh db t x).length ≤ 3 := by
  unfold puD
  split
  · rename_i h; have := (cnt_iff.1 (validQ_iff.1 h).2.2.1).1; omega
  · simp
theorem gavePu_f {T TI : Nat} {w w' : World} {xs : List Tr} {sh db : List Int} {t : Int} {x : Tr} {b : Bool} (h : puOK xs sh db t x = false) (k : b = false) (hb : Below w.heap.size w w') :
    GaveQuB T TI w (puX xs sh db t x) (puS xs sh db t x) (puD xs sh db t x) (puT xs sh db t x) b (.returned (.tuple #[.agg #[.slice none 0 0, .slice none 0 0, .slice none 0 0, .int .i64 0], .bool false])) w' :=
  ⟨none, 0, 0, none, 0, 0, none, 0, 0, by simp [puT, h, k], by simp only [puX, h]; exact OT.nil _ _ _, by simp only [puS, h]; exact OW.nil _ _ _, by simp only [puD, h]; exact OW.nil _ _ _, disj_none _, disj_none _, disj_none _, hb⟩
set_option maxHeartbeats 8000000 in
theorem impl_PushEntry_any {A A2 A3 : Option Addr} {n c n2 c2 n3 c3 : Nat} {xs : List Tr} {sh db : List Int} (t : Int) (x : Tr) (w : World) (h : TS w A n c xs) (h2 : IS w A2 n2 c2 sh) (h3 : IS w A3 n3 c3 db) (hn : n ≤ 1073741823) (hn2 : n2 ≤ 1073741824) (hn3 : n3 ≤ 1073741824) :
    Calls Try.prog 6 #[.agg #[.slice A n c, .slice A2 n2 c2, .slice A3 n3 c3, .int .i64 t], .agg #[.int .i64 x.a, .int .i64 x.b, .int .i64 x.c]] w (GaveQuB 28 3 w (puX xs sh db t x) (puS xs sh db t x) (puD xs sh db t x) (puT xs sh db t x) (puOK xs sh db t x)) := by
  have H := Lib.hid (((h.alloc (.cells #[.slice A n c, .slice A2 n2 c2, .slice A3 n3 c3, .int .i64 t] 26)).alloc (.cells #[.int .i64 x.a, .int .i64 x.b, .int .i64 x.c] 28)).alloc (.cells #[.slice none 0 0, .slice none 0 0, .slice none 0 0, .int .i64 0] 26))
  have H2 := Lib.hid (((h2.alloc (.cells #[.slice A n c, .slice A2 n2 c2, .slice A3 n3 c3, .int .i64 t] 26)).alloc (.cells #[.int .i64 x.a, .int .i64 x.b, .int .i64 x.c] 28)).alloc (.cells #[.slice none 0 0, .slice none 0 0, .slice none 0 0, .int .i64 0] 26))
  have H3 := Lib.hid (((h3.alloc (.cells #[.slice A n c, .slice A2 n2 c2, .slice A3 n3 c3, .int .i64 t] 26)).alloc (.cells #[.int .i64 x.a, .int .i64 x.b, .int .i64 x.c] 28)).alloc (.cells #[.slice none 0 0, .slice none 0 0, .slice none 0 0, .int .i64 0] 26))
  have B0 := Lib.hid ((((Below.refl w.heap.size w).alloc (Nat.le_refl _) (.cells #[.slice A n c, .slice A2 n2 c2, .slice A3 n3 c3, .int .i64 t] 26)).alloc (by simp) (.cells #[.int .i64 x.a, .int .i64 x.b, .int .i64 x.c] 28)).alloc (by simp; omega) (.cells #[.slice none 0 0, .slice none 0 0, .slice none 0 0, .int .i64 0] 26))
  have P0 := Lib.hid (((Blk.new w 26 #[.slice A n c, .slice A2 n2 c2, .slice A3 n3 c3, .int .i64 t]).alloc (.cells #[.int .i64 x.a, .int .i64 x.b, .int .i64 x.c] 28)).alloc (.cells #[.slice none 0 0, .slice none 0 0, .slice none 0 0, .int .i64 0] 26))
  have X0 : Hid (Blk _ (w.heap.size + 1) 28 #[.int .i64 x.a, .int .i64 x.b, .int .i64 x.c]) := Lib.hid ((by simpa using Blk.new (w.alloc (.cells #[.slice A n c, .slice A2 n2 c2, .slice A3 n3 c3, .int .i64 t] 26)) 28 #[.int .i64 x.a, .int .i64 x.b, .int .i64 x.c] : Blk _ (w.heap.size + 1) _ _).alloc (.cells #[.slice none 0 0, .slice none 0 0, .slice none 0 0, .int .i64 0] 26))
  have R0 : Hid (Blk _ (w.heap.size + 1 + 1) 26 #[.slice none 0 0, .slice none 0 0, .slice none 0 0, .int .i64 0]) := Lib.hid (by simpa using Blk.new ((w.alloc (.cells #[.slice A n c, .slice A2 n2 c2, .slice A3 n3 c3, .int .i64 t] 26)).alloc (.cells #[.int .i64 x.a, .int .i64 x.b, .int .i64 x.c] 28)) 26 #[.slice none 0 0, .slice none 0 0, .slice none 0 0, .int .i64 0])
  clear h h2 h3
  rcases hk : puOK xs sh db t x with _ | _
  · have HK := Lib.hid hk
    have HQ : Hid (validQ (xs ++ [x]) sh db t = false) := Lib.hid hk
    clear hk
    go_enter Try.func6, Try.ntmps6
    go_wp2_with (fail)
    refine (impl_copyQueue_any t _ H.out H2.out H3.out (by omega) hn2 hn3).mono ?_
    rintro e w1 ⟨E1, m1, d1, E2, m2, d2, E3, m3, d3, rfl, ho1, ho2, ho3, j12, j13, j23, hb⟩
    have hsz := hb.size
    have hb0 := B0.out.size
    have X1 := Lib.hid (X0.out.on hb)
    have R1 := Lib.hid (R0.out.on hb)
    have hr1 : w.heap.size + 1 + 1 < w1.heap.size := R1.out.lt
    have B1 := Lib.hid (B0.out.trans (hb.mono B0.out.size))
    have hm1 : m1 ≤ 1073741823 := by have h1 := ho1.len; have h2 := H.out.len; omega
    have hbase : w.heap.size + 1 + 1 + 1 ≤ (((w.alloc (.cells #[.slice A n c, .slice A2 n2 c2, .slice A3 n3 c3, .int .i64 t] 26)).alloc (.cells #[.int .i64 x.a, .int .i64 x.b, .int .i64 x.c] 28)).alloc (.cells #[.slice none 0 0, .slice none 0 0, .slice none 0 0, .int .i64 0] 26)).heap.size := by simp
    have O1 := Lib.hid ((ho1.base_le hbase).alloc (.cells #[.slice E1 m1 d1, .slice E2 m2 d2, .slice E3 m3 d3, .int .i64 t] 26) |>.alloc (.cells #[.int .i64 x.a, .int .i64 x.b, .int .i64 x.c] 28))
    have O2 := Lib.hid ((ho2.base_le hbase).alloc (.cells #[.slice E1 m1 d1, .slice E2 m2 d2, .slice E3 m3 d3, .int .i64 t] 26) |>.alloc (.cells #[.int .i64 x.a, .int .i64 x.b, .int .i64 x.c] 28))
    have O3 := Lib.hid ((ho3.base_le hbase).alloc (.cells #[.slice E1 m1 d1, .slice E2 m2 d2, .slice E3 m3 d3, .int .i64 t] 26) |>.alloc (.cells #[.int .i64 x.a, .int .i64 x.b, .int .i64 x.c] 28))
    have L1 := Lib.hid ho1.lt
    have L2 := Lib.hid ho2.lt
    have L3 := Lib.hid ho3.lt
    have J12 := Lib.hid j12
    have J13 := Lib.hid j13
    have J23 := Lib.hid j23
    have N1 := Lib.hid ((Blk.new w1 26 #[.slice E1 m1 d1, .slice E2 m2 d2, .slice E3 m3 d3, .int .i64 t]).alloc (.cells #[.int .i64 x.a, .int .i64 x.b, .int .i64 x.c] 28))
    have S1 : Hid (TS ((w1.alloc (.cells #[.slice E1 m1 d1, .slice E2 m2 d2, .slice E3 m3 d3, .int .i64 t] 26)).alloc (.cells #[.int .i64 x.a, .int .i64 x.b, .int .i64 x.c] 28)) (some ⟨w1.heap.size + 1, 0, none⟩) 1 1 [x]) := Lib.hid (by simpa [cellsT] using (OT.lit (w1.alloc (.cells #[.slice E1 m1 d1, .slice E2 m2 d2, .slice E3 m3 d3, .int .i64 t] 26)) 28 0 [x] (Nat.zero_le _) (by simp)).ts)
    have R2 := Lib.hid ((R1.out.alloc (.cells #[.slice E1 m1 d1, .slice E2 m2 d2, .slice E3 m3 d3, .int .i64 t] 26)).alloc (.cells #[.int .i64 x.a, .int .i64 x.b, .int .i64 x.c] 28))
    have B2 := Lib.hid ((B1.out.alloc (by omega) (.cells #[.slice E1 m1 d1, .slice E2 m2 d2, .slice E3 m3 d3, .int .i64 t] 26)).alloc (by simp; omega) (.cells #[.int .i64 x.a, .int .i64 x.b, .int .i64 x.c] 28))
    obtain ⟨x0, x1, x2⟩ := X1.out.c3
    have xl := X1.out.lt
    clear hb ho1 ho2 ho3 j12 j13 j23
    go_wp2_with (at_builtin; refine wpList_append_ts2 _ rfl (.tmp 10) (.tmp 12) _ rfl (w.heap.size + 1 + 1 + 1) 28 infoEnt2 Try.underlying23 _ _ _ xs rfl O1.out _ _ _ [x] rfl S1.out (by omega) (by simp; omega) ?_; intro F1 e1 w2 hown hg hne; have K1 := Lib.hid hown; have JR : Hid (Disj (some ⟨w.heap.size + 1 + 1, 0, none⟩) E1) := Lib.hid (Disj.mk (B := w.heap.size + 1 + 1 + 1) (fun p hp => by cases hp; show w.heap.size + 1 + 1 < w.heap.size + 1 + 1 + 1; omega) O1.out.ge); have JN : Hid (Disj (some ⟨w1.heap.size, 0, none⟩) E1) := Lib.hid (Disj.mk (B := w1.heap.size) L1.out (fun p hp => by cases hp; exact Nat.le_refl _)).symm; have R3 := Lib.hid (R2.out.away hg JR.out); have N3 := Lib.hid (N1.out.away hg JN.out); have K2 := Lib.hid (O2.out.away hg J12.out.symm); have K3 := Lib.hid (O3.out.away hg J13.out.symm); have B3 := Lib.hid (below_row B2.out hg (by simp; omega) (O1.out.ge.mono (by omega))); have hs2 := hg.size; simp at hs2; have NF := Lib.hid hne; have JF : Hid (Disj F1 (some ⟨w1.heap.size, 0, none⟩)) := Lib.hid (hne.disj JN.out.symm (fun p hp => by cases hp; first | (simp; done) | (simp; omega))); have JF2 : Hid (Disj F1 E2) := Lib.hid (hne.disj J12.out (L2.out.mono (by simp; omega))); have JF3 : Hid (Disj F1 E3) := Lib.hid (hne.disj J13.out (L3.out.mono (by simp; omega))); clear hown hg hne x0 x1 x2 xl; obtain ⟨y0, y1, y2, y3⟩ := N3.out.c4; have g0 := N3.out.frozen 0)
    obtain ⟨w3, e3⟩ : ∃ v : World, v = w2.setCell ⟨w1.heap.size, 0, none⟩ (.slice F1 (m1 + 1) e1) := ⟨_, rfl⟩
    have N4 : Hid (Blk w3 w1.heap.size 26 #[.slice F1 (m1 + 1) e1, .slice E2 m2 d2, .slice E3 m3 d3, .int .i64 t]) := Lib.hid (by rw [e3]; exact N3.out.set_ 0 _)
    have R4 : Hid (Blk w3 (w.heap.size + 1 + 1) 26 #[.slice none 0 0, .slice none 0 0, .slice none 0 0, .int .i64 0]) := Lib.hid (by rw [e3]; exact R3.out.far (by show w.heap.size + 1 + 1 ≠ w1.heap.size; omega) _)
    have M1 : Hid (OT w3 28 (w.heap.size + 1 + 1 + 1) F1 (m1 + 1) e1 (xs ++ [x])) := Lib.hid (by rw [e3]; exact K1.out.setCell2 (.inr JF.out.symm) _)
    have M2 : Hid (OW w3 3 (w.heap.size + 1 + 1 + 1) E2 m2 d2 sh) := Lib.hid (by rw [e3]; exact K2.out.setCell2 (.inr (Disj.mk (B := w1.heap.size) L2.out (fun p hp => by cases hp; exact Nat.le_refl _)).symm) _)
    have M3 : Hid (OW w3 3 (w.heap.size + 1 + 1 + 1) E3 m3 d3 db) := Lib.hid (by rw [e3]; exact K3.out.setCell2 (.inr (Disj.mk (B := w1.heap.size) L3.out (fun p hp => by cases hp; exact Nat.le_refl _)).symm) _)
    have B4 : Hid (Below w.heap.size w w3) := Lib.hid (by rw [e3]; exact B3.out.setCell (by show w.heap.size ≤ w1.heap.size; omega) _)
    try rw [← e3]
    clear e3 y0 y1 y2 y3 g0
    obtain ⟨y0, y1, y2, y3⟩ := N4.out.c4
    have nl := N4.out.lt
    go_wp2_with (fail)
    refine (call_b (impl_ValidQueue_any t _ M1.out.ts M2.out.is M3.out.is) HQ.out).mono ?_
    rintro e w4 ⟨rfl, hb⟩
    have R5 := Lib.hid (R4.out.on hb)
    have N5 := Lib.hid (N4.out.on hb)
    have B5 := Lib.hid (B4.out.trans (hb.mono B4.out.size))
    have P1 := Lib.hid (M1.out.below hb (Nat.le_refl _))
    have P2 := Lib.hid (M2.out.below hb (Nat.le_refl _))
    have P3 := Lib.hid (M3.out.below hb (Nat.le_refl _))
    clear hb y0 y1 y2 y3 nl
    obtain ⟨r0, r1, r2, r3⟩ := R5.out.c4
    obtain ⟨y0, y1, y2, y3⟩ := N5.out.c4
    have f0 := R5.out.frozen 0
    have f1 := R5.out.frozen 1
    have f2 := R5.out.frozen 2
    have f3 := R5.out.frozen 3
    go_wp2_with (fail)
    refine bodyPost_ret (v := .tuple #[.agg #[.slice none 0 0, .slice none 0 0, .slice none 0 0, .int .i64 0], .bool false]) (by simp [results, Try.results6, go_sem, r0, r1, r2, r3]) rfl ?_
    refine gavePu_f HK.out rfl ?_
    repeat' (first | with_reducible exact B5.out | refine Below.setCell ?_ ?_ _ | omega | (simp; done) | (simp; omega))
  · have HK := Lib.hid hk
    have HQ : Hid (validQ (xs ++ [x]) sh db t = true) := Lib.hid hk
    clear hk
    go_enter Try.func6, Try.ntmps6
    go_wp2_with (fail)
    refine (impl_copyQueue_any t _ H.out H2.out H3.out (by omega) hn2 hn3).mono ?_
    rintro e w1 ⟨E1, m1, d1, E2, m2, d2, E3, m3, d3, rfl, ho1, ho2, ho3, j12, j13, j23, hb⟩
    have hsz := hb.size
    have hb0 := B0.out.size
    have X1 := Lib.hid (X0.out.on hb)
    have R1 := Lib.hid (R0.out.on hb)
    have hr1 : w.heap.size + 1 + 1 < w1.heap.size := R1.out.lt
    have B1 := Lib.hid (B0.out.trans (hb.mono B0.out.size))
    have hm1 : m1 ≤ 1073741823 := by have h1 := ho1.len; have h2 := H.out.len; omega
    have hbase : w.heap.size + 1 + 1 + 1 ≤ (((w.alloc (.cells #[.slice A n c, .slice A2 n2 c2, .slice A3 n3 c3, .int .i64 t] 26)).alloc (.cells #[.int .i64 x.a, .int .i64 x.b, .int .i64 x.c] 28)).alloc (.cells #[.slice none 0 0, .slice none 0 0, .slice none 0 0, .int .i64 0] 26)).heap.size := by simp
    have O1 := Lib.hid ((ho1.base_le hbase).alloc (.cells #[.slice E1 m1 d1, .slice E2 m2 d2, .slice E3 m3 d3, .int .i64 t] 26) |>.alloc (.cells #[.int .i64 x.a, .int .i64 x.b, .int .i64 x.c] 28))
    have O2 := Lib.hid ((ho2.base_le hbase).alloc (.cells #[.slice E1 m1 d1, .slice E2 m2 d2, .slice E3 m3 d3, .int .i64 t] 26) |>.alloc (.cells #[.int .i64 x.a, .int .i64 x.b, .int .i64 x.c] 28))
    have O3 := Lib.hid ((ho3.base_le hbase).alloc (.cells #[.slice E1 m1 d1, .slice E2 m2 d2, .slice E3 m3 d3, .int .i64 t] 26) |>.alloc (.cells #[.int .i64 x.a, .int .i64 x.b, .int .i64 x.c] 28))
    have L1 := Lib.hid ho1.lt
    have L2 := Lib.hid ho2.lt
    have L3 := Lib.hid ho3.lt
    have J12 := Lib.hid j12
    have J13 := Lib.hid j13
    have J23 := Lib.hid j23
    have N1 := Lib.hid ((Blk.new w1 26 #[.slice E1 m1 d1, .slice E2 m2 d2, .slice E3 m3 d3, .int .i64 t]).alloc (.cells #[.int .i64 x.a, .int .i64 x.b, .int .i64 x.c] 28))
    have S1 : Hid (TS ((w1.alloc (.cells #[.slice E1 m1 d1, .slice E2 m2 d2, .slice E3 m3 d3, .int .i64 t] 26)).alloc (.cells #[.int .i64 x.a, .int .i64 x.b, .int .i64 x.c] 28)) (some ⟨w1.heap.size + 1, 0, none⟩) 1 1 [x]) := Lib.hid (by simpa [cellsT] using (OT.lit (w1.alloc (.cells #[.slice E1 m1 d1, .slice E2 m2 d2, .slice E3 m3 d3, .int .i64 t] 26)) 28 0 [x] (Nat.zero_le _) (by simp)).ts)
    have R2 := Lib.hid ((R1.out.alloc (.cells #[.slice E1 m1 d1, .slice E2 m2 d2, .slice E3 m3 d3, .int .i64 t] 26)).alloc (.cells #[.int .i64 x.a, .int .i64 x.b, .int .i64 x.c] 28))
    have B2 := Lib.hid ((B1.out.alloc (by omega) (.cells #[.slice E1 m1 d1, .slice E2 m2 d2, .slice E3 m3 d3, .int .i64 t] 26)).alloc (by simp; omega) (.cells #[.int .i64 x.a, .int .i64 x.b, .int .i64 x.c] 28))
    obtain ⟨x0, x1, x2⟩ := X1.out.c3
    have xl := X1.out.lt
    clear hb ho1 ho2 ho3 j12 j13 j23
    go_wp2_with (at_builtin; refine wpList_append_ts2 _ rfl (.tmp 10) (.tmp 12) _ rfl (w.heap.size + 1 + 1 + 1) 28 infoEnt2 Try.underlying23 _ _ _ xs rfl O1.out _ _ _ [x] rfl S1.out (by omega) (by simp; omega) ?_; intro F1 e1 w2 hown hg hne; have K1 := Lib.hid hown; have JR : Hid (Disj (some ⟨w.heap.size + 1 + 1, 0, none⟩) E1) := Lib.hid (Disj.mk (B := w.heap.size + 1 + 1 + 1) (fun p hp => by cases hp; show w.heap.size + 1 + 1 < w.heap.size + 1 + 1 + 1; omega) O1.out.ge); have JN : Hid (Disj (some ⟨w1.heap.size, 0, none⟩) E1) := Lib.hid (Disj.mk (B := w1.heap.size) L1.out (fun p hp => by cases hp; exact Nat.le_refl _)).symm; have R3 := Lib.hid (R2.out.away hg JR.out); have N3 := Lib.hid (N1.out.away hg JN.out); have K2 := Lib.hid (O2.out.away hg J12.out.symm); have K3 := Lib.hid (O3.out.away hg J13.out.symm); have B3 := Lib.hid (below_row B2.out hg (by simp; omega) (O1.out.ge.mono (by omega))); have hs2 := hg.size; simp at hs2; have NF := Lib.hid hne; have JF : Hid (Disj F1 (some ⟨w1.heap.size, 0, none⟩)) := Lib.hid (hne.disj JN.out.symm (fun p hp => by cases hp; first | (simp; done) | (simp; omega))); have JF2 : Hid (Disj F1 E2) := Lib.hid (hne.disj J12.out (L2.out.mono (by simp; omega))); have JF3 : Hid (Disj F1 E3) := Lib.hid (hne.disj J13.out (L3.out.mono (by simp; omega))); clear hown hg hne x0 x1 x2 xl; obtain ⟨y0, y1, y2, y3⟩ := N3.out.c4; have g0 := N3.out.frozen 0)
    obtain ⟨w3, e3⟩ : ∃ v : World, v = w2.setCell ⟨w1.heap.size, 0, none⟩ (.slice F1 (m1 + 1) e1) := ⟨_, rfl⟩
    have N4 : Hid (Blk w3 w1.heap.size 26 #[.slice F1 (m1 + 1) e1, .slice E2 m2 d2, .slice E3 m3 d3, .int .i64 t]) := Lib.hid (by rw [e3]; exact N3.out.set_ 0 _)
    have R4 : Hid (Blk w3 (w.heap.size + 1 + 1) 26 #[.slice none 0 0, .slice none 0 0, .slice none 0 0, .int .i64 0]) := Lib.hid (by rw [e3]; exact R3.out.far (by show w.heap.size + 1 + 1 ≠ w1.heap.size; omega) _)
    have M1 : Hid (OT w3 28 (w.heap.size + 1 + 1 + 1) F1 (m1 + 1) e1 (xs ++ [x])) := Lib.hid (by rw [e3]; exact K1.out.setCell2 (.inr JF.out.symm) _)
    have M2 : Hid (OW w3 3 (w.heap.size + 1 + 1 + 1) E2 m2 d2 sh) := Lib.hid (by rw [e3]; exact K2.out.setCell2 (.inr (Disj.mk (B := w1.heap.size) L2.out (fun p hp => by cases hp; exact Nat.le_refl _)).symm) _)
    have M3 : Hid (OW w3 3 (w.heap.size + 1 + 1 + 1) E3 m3 d3 db) := Lib.hid (by rw [e3]; exact K3.out.setCell2 (.inr (Disj.mk (B := w1.heap.size) L3.out (fun p hp => by cases hp; exact Nat.le_refl _)).symm) _)
    have B4 : Hid (Below w.heap.size w w3) := Lib.hid (by rw [e3]; exact B3.out.setCell (by show w.heap.size ≤ w1.heap.size; omega) _)
    try rw [← e3]
    clear e3 y0 y1 y2 y3 g0
    obtain ⟨y0, y1, y2, y3⟩ := N4.out.c4
    have nl := N4.out.lt
    go_wp2_with (fail)
    refine (call_b (impl_ValidQueue_any t _ M1.out.ts M2.out.is M3.out.is) HQ.out).mono ?_
    rintro e w4 ⟨rfl, hb⟩
    have R5 := Lib.hid (R4.out.on hb)
    have N5 := Lib.hid (N4.out.on hb)
    have B5 := Lib.hid (B4.out.trans (hb.mono B4.out.size))
    have P1 := Lib.hid (M1.out.below hb (Nat.le_refl _))
    have P2 := Lib.hid (M2.out.below hb (Nat.le_refl _))
    have P3 := Lib.hid (M3.out.below hb (Nat.le_refl _))
    clear hb y0 y1 y2 y3 nl
    obtain ⟨r0, r1, r2, r3⟩ := R5.out.c4
    obtain ⟨y0, y1, y2, y3⟩ := N5.out.c4
    have f0 := R5.out.frozen 0
    have f1 := R5.out.frozen 1
    have f2 := R5.out.frozen 2
    have f3 := R5.out.frozen 3
    go_wp2_with (fail)
    refine bodyPost_ret (v := .tuple #[.agg #[.slice F1 (m1 + 1) e1, .slice E2 m2 d2, .slice E3 m3 d3, .int .i64 t], .bool true]) (by simp [results, Try.results6, go_sem, r0, r1, r2, r3]) rfl ?_
    refine ⟨F1, m1 + 1, e1, E2, m2, d2, E3, m3, d3, by simp [puT, HK.out], ?_, ?_, ?_, JF2.out, JF3.out, J23.out, ?_⟩
    · simp only [puX, HK.out, if_true]
      refine OT.base_le (base := w.heap.size + 1 + 1 + 1) ?_ (by omega)
      repeat (refine OT.setCell ?_ (by simp) _)
      exact P1.out
    · simp only [puS, HK.out, if_true]
      refine OW.base_le (base := w.heap.size + 1 + 1 + 1) ?_ (by omega)
      repeat (refine OW.setCell ?_ (by simp) _)
      exact P2.out
    · simp only [puD, HK.out, if_true]
      refine OW.base_le (base := w.heap.size + 1 + 1 + 1) ?_ (by omega)
      repeat (refine OW.setCell ?_ (by simp) _)
      exact P3.out
    · exact ((((B5.out.setCell (by first | omega | (simp; done) | (simp; omega) | (show w.heap.size ≤ w.heap.size + 1 + 1; omega)) _).setCell (by first | omega | (simp; done) | (simp; omega) | (show w.heap.size ≤ w.heap.size + 1 + 1; omega)) _).setCell (by first | omega | (simp; done) | (simp; omega) | (show w.heap.size ≤ w.heap.size + 1 + 1; omega)) _).setCell (by first | omega | (simp; done) | (simp; omega) | (show w.heap.size ≤ w.heap.size + 1 + 1; omega)) _)
set_option maxHeartbeats 8000000 in
theorem spec_PushEntry_any {A A2 A3 : Option Addr} {n c n2 c2 n3 c3 : Nat} {xs : List Tr} {sh db : List Int} (t : Int) (x : Tr) (w : World) (h : TS w A n c xs) (h2 : IS w A2 n2 c2 sh) (h3 : IS w A3 n3 c3 db) (hn : n ≤ 1073741823) (hn2 : n2 ≤ 1073741824) (hn3 : n3 ≤ 1073741824) :
    Calls Try.prog 7 #[.agg #[.slice A n c, .slice A2 n2 c2, .slice A3 n3 c3, .int .i64 t], .agg #[.int .i64 x.a, .int .i64 x.b, .int .i64 x.c]] w (GaveQuB 28 3 w (puX xs sh db t x) (puS xs sh db t x) (puD xs sh db t x) (puT xs sh db t x) (puOK xs sh db t x)) := by
  have H := Lib.hid (((h.alloc (.cells #[.slice A n c, .slice A2 n2 c2, .slice A3 n3 c3, .int .i64 t] 26)).alloc (.cells #[.int .i64 x.a, .int .i64 x.b, .int .i64 x.c] 28)).alloc (.cells #[.slice none 0 0, .slice none 0 0, .slice none 0 0, .int .i64 0] 26))
  have H2 := Lib.hid (((h2.alloc (.cells #[.slice A n c, .slice A2 n2 c2, .slice A3 n3 c3, .int .i64 t] 26)).alloc (.cells #[.int .i64 x.a, .int .i64 x.b, .int .i64 x.c] 28)).alloc (.cells #[.slice none 0 0, .slice none 0 0, .slice none 0 0, .int .i64 0] 26))
  have H3 := Lib.hid (((h3.alloc (.cells #[.slice A n c, .slice A2 n2 c2, .slice A3 n3 c3, .int .i64 t] 26)).alloc (.cells #[.int .i64 x.a, .int .i64 x.b, .int .i64 x.c] 28)).alloc (.cells #[.slice none 0 0, .slice none 0 0, .slice none 0 0, .int .i64 0] 26))
  have B0 := Lib.hid ((((Below.refl w.heap.size w).alloc (Nat.le_refl _) (.cells #[.slice A n c, .slice A2 n2 c2, .slice A3 n3 c3, .int .i64 t] 26)).alloc (by simp) (.cells #[.int .i64 x.a, .int .i64 x.b, .int .i64 x.c] 28)).alloc (by simp; omega) (.cells #[.slice none 0 0, .slice none 0 0, .slice none 0 0, .int .i64 0] 26))
  have P0 := Lib.hid (((Blk.new w 26 #[.slice A n c, .slice A2 n2 c2, .slice A3 n3 c3, .int .i64 t]).alloc (.cells #[.int .i64 x.a, .int .i64 x.b, .int .i64 x.c] 28)).alloc (.cells #[.slice none 0 0, .slice none 0 0, .slice none 0 0, .int .i64 0] 26))
  have X0 : Hid (Blk _ (w.heap.size + 1) 28 #[.int .i64 x.a, .int .i64 x.b, .int .i64 x.c]) := Lib.hid ((by simpa using Blk.new (w.alloc (.cells #[.slice A n c, .slice A2 n2 c2, .slice A3 n3 c3, .int .i64 t] 26)) 28 #[.int .i64 x.a, .int .i64 x.b, .int .i64 x.c] : Blk _ (w.heap.size + 1) _ _).alloc (.cells #[.slice none 0 0, .slice none 0 0, .slice none 0 0, .int .i64 0] 26))
  have R0 : Hid (Blk _ (w.heap.size + 1 + 1) 26 #[.slice none 0 0, .slice none 0 0, .slice none 0 0, .int .i64 0]) := Lib.hid (by simpa using Blk.new ((w.alloc (.cells #[.slice A n c, .slice A2 n2 c2, .slice A3 n3 c3, .int .i64 t] 26)).alloc (.cells #[.int .i64 x.a, .int .i64 x.b, .int .i64 x.c] 28)) 26 #[.slice none 0 0, .slice none 0 0, .slice none 0 0, .int .i64 0])
  clear h h2 h3
  rcases hv : validQ xs sh db t with _ | _
  · have HK := Lib.hid (puOK_f (x := x) hv)
    go_enter Try.func7, Try.ntmps7
    go_wp2_with (fail)
    refine (call_b (spec_validQueue_any t _ H.out H2.out H3.out) hv).mono ?_
    rintro e w1 ⟨rfl, hb⟩
    have R1 := Lib.hid (R0.out.on hb)
    have B1 := Lib.hid (B0.out.trans (hb.mono B0.out.size))
    clear hb hv
    obtain ⟨r0, r1, r2, r3⟩ := R1.out.c4
    have f0 := R1.out.frozen 0
    have f1 := R1.out.frozen 1
    have f2 := R1.out.frozen 2
    have f3 := R1.out.frozen 3
    go_wp2_with (fail)
    refine bodyPost_ret (v := .tuple #[.agg #[.slice none 0 0, .slice none 0 0, .slice none 0 0, .int .i64 0], .bool false]) (by simp [results, Try.results7, go_sem, r0, r1, r2, r3]) rfl ?_
    exact gavePu_f HK.out HK.out ((((B1.out.setCell (by simp; omega) _).setCell (by simp; omega) _).setCell (by simp; omega) _).setCell (by simp; omega) _)
  have HV := Lib.hid hv
  clear hv
  rcases hk : puOK xs sh db t x with _ | _
  · have HK := Lib.hid hk
    have HQ : Hid (validQ (xs ++ [x]) sh db t = false) := Lib.hid hk
    clear hk
    go_enter Try.func7, Try.ntmps7
    go_wp2_with (fail)
    refine (call_b (spec_validQueue_any t _ H.out H2.out H3.out) HV.out).mono ?_
    rintro e w0 ⟨rfl, hb⟩
    have P0 := Lib.hid (P0.out.on hb)
    have X0 := Lib.hid (X0.out.on hb)
    have R0 := Lib.hid (R0.out.on hb)
    have H := Lib.hid (H.out.below hb (Nat.le_refl _))
    have H2 := Lib.hid (H2.out.below hb (Nat.le_refl _))
    have H3 := Lib.hid (H3.out.below hb (Nat.le_refl _))
    have B0 := Lib.hid (B0.out.trans (hb.mono B0.out.size))
    clear hb
    obtain ⟨p0, p1, p2, p3⟩ := P0.out.c4
    have pl := P0.out.lt
    go_wp2_with (fail)
    refine (spec_copyQueue_any t _ H.out H2.out H3.out (by omega) hn2 hn3).mono ?_
    clear p0 p1 p2 p3 pl
    rintro e w1 ⟨E1, m1, d1, E2, m2, d2, E3, m3, d3, rfl, ho1, ho2, ho3, j12, j13, j23, hb⟩
    have hsz := hb.size
    have hb0 := B0.out.size
    have X1 := Lib.hid (X0.out.on hb)
    have R1 := Lib.hid (R0.out.on hb)
    have hr1 : w.heap.size + 1 + 1 < w1.heap.size := R1.out.lt
    have B1 := Lib.hid (B0.out.trans (hb.mono B0.out.size))
    have hm1 : m1 ≤ 1073741823 := by have h1 := ho1.len; have h2 := H.out.len; omega
    have hbase : w.heap.size + 1 + 1 + 1 ≤ w0.heap.size := R0.out.lt
    have O1 := Lib.hid ((ho1.base_le hbase).alloc (.cells #[.slice E1 m1 d1, .slice E2 m2 d2, .slice E3 m3 d3, .int .i64 t] 26) |>.alloc (.cells #[.int .i64 x.a, .int .i64 x.b, .int .i64 x.c] 28))
    have O2 := Lib.hid ((ho2.base_le hbase).alloc (.cells #[.slice E1 m1 d1, .slice E2 m2 d2, .slice E3 m3 d3, .int .i64 t] 26) |>.alloc (.cells #[.int .i64 x.a, .int .i64 x.b, .int .i64 x.c] 28))
    have O3 := Lib.hid ((ho3.base_le hbase).alloc (.cells #[.slice E1 m1 d1, .slice E2 m2 d2, .slice E3 m3 d3, .int .i64 t] 26) |>.alloc (.cells #[.int .i64 x.a, .int .i64 x.b, .int .i64 x.c] 28))
    have L1 := Lib.hid ho1.lt
    have L2 := Lib.hid ho2.lt
    have L3 := Lib.hid ho3.lt
    have J12 := Lib.hid j12
    have J13 := Lib.hid j13
    have J23 := Lib.hid j23
    have N1 := Lib.hid ((Blk.new w1 26 #[.slice E1 m1 d1, .slice E2 m2 d2, .slice E3 m3 d3, .int .i64 t]).alloc (.cells #[.int .i64 x.a, .int .i64 x.b, .int .i64 x.c] 28))
    have S1 : Hid (TS ((w1.alloc (.cells #[.slice E1 m1 d1, .slice E2 m2 d2, .slice E3 m3 d3, .int .i64 t] 26)).alloc (.cells #[.int .i64 x.a, .int .i64 x.b, .int .i64 x.c] 28)) (some ⟨w1.heap.size + 1, 0, none⟩) 1 1 [x]) := Lib.hid (by simpa [cellsT] using (OT.lit (w1.alloc (.cells #[.slice E1 m1 d1, .slice E2 m2 d2, .slice E3 m3 d3, .int .i64 t] 26)) 28 0 [x] (Nat.zero_le _) (by simp)).ts)
    have R2 := Lib.hid ((R1.out.alloc (.cells #[.slice E1 m1 d1, .slice E2 m2 d2, .slice E3 m3 d3, .int .i64 t] 26)).alloc (.cells #[.int .i64 x.a, .int .i64 x.b, .int .i64 x.c] 28))
    have B2 := Lib.hid ((B1.out.alloc (by omega) (.cells #[.slice E1 m1 d1, .slice E2 m2 d2, .slice E3 m3 d3, .int .i64 t] 26)).alloc (by simp; omega) (.cells #[.int .i64 x.a, .int .i64 x.b, .int .i64 x.c] 28))
    obtain ⟨x0, x1, x2⟩ := X1.out.c3
    have xl := X1.out.lt
    clear hb ho1 ho2 ho3 j12 j13 j23
    go_wp2_with (at_builtin; refine wpList_append_ts2 _ rfl (.tmp 14) (.tmp 16) _ rfl (w.heap.size + 1 + 1 + 1) 28 infoEnt2 Try.underlying23 _ _ _ xs rfl O1.out _ _ _ [x] rfl S1.out (by omega) (by simp; omega) ?_; intro F1 e1 w2 hown hg hne; have K1 := Lib.hid hown; have JR : Hid (Disj (some ⟨w.heap.size + 1 + 1, 0, none⟩) E1) := Lib.hid (Disj.mk (B := w.heap.size + 1 + 1 + 1) (fun p hp => by cases hp; show w.heap.size + 1 + 1 < w.heap.size + 1 + 1 + 1; omega) O1.out.ge); have JN : Hid (Disj (some ⟨w1.heap.size, 0, none⟩) E1) := Lib.hid (Disj.mk (B := w1.heap.size) L1.out (fun p hp => by cases hp; exact Nat.le_refl _)).symm; have R3 := Lib.hid (R2.out.away hg JR.out); have N3 := Lib.hid (N1.out.away hg JN.out); have K2 := Lib.hid (O2.out.away hg J12.out.symm); have K3 := Lib.hid (O3.out.away hg J13.out.symm); have B3 := Lib.hid (below_row B2.out hg (by simp; omega) (O1.out.ge.mono (by omega))); have hs2 := hg.size; simp at hs2; have NF := Lib.hid hne; have JF : Hid (Disj F1 (some ⟨w1.heap.size, 0, none⟩)) := Lib.hid (hne.disj JN.out.symm (fun p hp => by cases hp; first | (simp; done) | (simp; omega))); have JF2 : Hid (Disj F1 E2) := Lib.hid (hne.disj J12.out (L2.out.mono (by simp; omega))); have JF3 : Hid (Disj F1 E3) := Lib.hid (hne.disj J13.out (L3.out.mono (by simp; omega))); clear hown hg hne x0 x1 x2 xl; obtain ⟨y0, y1, y2, y3⟩ := N3.out.c4; have g0 := N3.out.frozen 0)
    obtain ⟨w3, e3⟩ : ∃ v : World, v = w2.setCell ⟨w1.heap.size, 0, none⟩ (.slice F1 (m1 + 1) e1) := ⟨_, rfl⟩
    have N4 : Hid (Blk w3 w1.heap.size 26 #[.slice F1 (m1 + 1) e1, .slice E2 m2 d2, .slice E3 m3 d3, .int .i64 t]) := Lib.hid (by rw [e3]; exact N3.out.set_ 0 _)
    have R4 : Hid (Blk w3 (w.heap.size + 1 + 1) 26 #[.slice none 0 0, .slice none 0 0, .slice none 0 0, .int .i64 0]) := Lib.hid (by rw [e3]; exact R3.out.far (by show w.heap.size + 1 + 1 ≠ w1.heap.size; omega) _)
    have M1 : Hid (OT w3 28 (w.heap.size + 1 + 1 + 1) F1 (m1 + 1) e1 (xs ++ [x])) := Lib.hid (by rw [e3]; exact K1.out.setCell2 (.inr JF.out.symm) _)
    have M2 : Hid (OW w3 3 (w.heap.size + 1 + 1 + 1) E2 m2 d2 sh) := Lib.hid (by rw [e3]; exact K2.out.setCell2 (.inr (Disj.mk (B := w1.heap.size) L2.out (fun p hp => by cases hp; exact Nat.le_refl _)).symm) _)
    have M3 : Hid (OW w3 3 (w.heap.size + 1 + 1 + 1) E3 m3 d3 db) := Lib.hid (by rw [e3]; exact K3.out.setCell2 (.inr (Disj.mk (B := w1.heap.size) L3.out (fun p hp => by cases hp; exact Nat.le_refl _)).symm) _)
    have B4 : Hid (Below w.heap.size w w3) := Lib.hid (by rw [e3]; exact B3.out.setCell (by show w.heap.size ≤ w1.heap.size; omega) _)
    try rw [← e3]
    clear e3 y0 y1 y2 y3 g0
    obtain ⟨y0, y1, y2, y3⟩ := N4.out.c4
    have nl := N4.out.lt
    go_wp2_with (fail)
    refine (call_b (spec_validQueue_any t _ M1.out.ts M2.out.is M3.out.is) HQ.out).mono ?_
    rintro e w4 ⟨rfl, hb⟩
    have R5 := Lib.hid (R4.out.on hb)
    have N5 := Lib.hid (N4.out.on hb)
    have B5 := Lib.hid (B4.out.trans (hb.mono B4.out.size))
    have P1 := Lib.hid (M1.out.below hb (Nat.le_refl _))
    have P2 := Lib.hid (M2.out.below hb (Nat.le_refl _))
    have P3 := Lib.hid (M3.out.below hb (Nat.le_refl _))
    clear hb y0 y1 y2 y3 nl
    obtain ⟨r0, r1, r2, r3⟩ := R5.out.c4
    obtain ⟨y0, y1, y2, y3⟩ := N5.out.c4
    have f0 := R5.out.frozen 0
    have f1 := R5.out.frozen 1
    have f2 := R5.out.frozen 2
    have f3 := R5.out.frozen 3
    go_wp2_with (fail)
    refine bodyPost_ret (v := .tuple #[.agg #[.slice none 0 0, .slice none 0 0, .slice none 0 0, .int .i64 0], .bool false]) (by simp [results, Try.results7, go_sem, r0, r1, r2, r3]) rfl ?_
    refine gavePu_f HK.out rfl ?_
    repeat' (first | with_reducible exact B5.out | refine Below.setCell ?_ ?_ _ | omega | (simp; done) | (simp; omega))
  · have HK := Lib.hid hk
    have HQ : Hid (validQ (xs ++ [x]) sh db t = true) := Lib.hid hk
    clear hk
    go_enter Try.func7, Try.ntmps7
    go_wp2_with (fail)
    refine (call_b (spec_validQueue_any t _ H.out H2.out H3.out) HV.out).mono ?_
    rintro e w0 ⟨rfl, hb⟩
    have P0 := Lib.hid (P0.out.on hb)
    have X0 := Lib.hid (X0.out.on hb)
    have R0 := Lib.hid (R0.out.on hb)
    have H := Lib.hid (H.out.below hb (Nat.le_refl _))
    have H2 := Lib.hid (H2.out.below hb (Nat.le_refl _))
    have H3 := Lib.hid (H3.out.below hb (Nat.le_refl _))
    have B0 := Lib.hid (B0.out.trans (hb.mono B0.out.size))
    clear hb
    obtain ⟨p0, p1, p2, p3⟩ := P0.out.c4
    have pl := P0.out.lt
    go_wp2_with (fail)
    refine (spec_copyQueue_any t _ H.out H2.out H3.out (by omega) hn2 hn3).mono ?_
    clear p0 p1 p2 p3 pl
    rintro e w1 ⟨E1, m1, d1, E2, m2, d2, E3, m3, d3, rfl, ho1, ho2, ho3, j12, j13, j23, hb⟩
    have hsz := hb.size
    have hb0 := B0.out.size
    have X1 := Lib.hid (X0.out.on hb)
    have R1 := Lib.hid (R0.out.on hb)
    have hr1 : w.heap.size + 1 + 1 < w1.heap.size := R1.out.lt
    have B1 := Lib.hid (B0.out.trans (hb.mono B0.out.size))
    have hm1 : m1 ≤ 1073741823 := by have h1 := ho1.len; have h2 := H.out.len; omega
    have hbase : w.heap.size + 1 + 1 + 1 ≤ w0.heap.size := R0.out.lt
    have O1 := Lib.hid ((ho1.base_le hbase).alloc (.cells #[.slice E1 m1 d1, .slice E2 m2 d2, .slice E3 m3 d3, .int .i64 t] 26) |>.alloc (.cells #[.int .i64 x.a, .int .i64 x.b, .int .i64 x.c] 28))
    have O2 := Lib.hid ((ho2.base_le hbase).alloc (.cells #[.slice E1 m1 d1, .slice E2 m2 d2, .slice E3 m3 d3, .int .i64 t] 26) |>.alloc (.cells #[.int .i64 x.a, .int .i64 x.b, .int .i64 x.c] 28))
    have O3 := Lib.hid ((ho3.base_le hbase).alloc (.cells #[.slice E1 m1 d1, .slice E2 m2 d2, .slice E3 m3 d3, .int .i64 t] 26) |>.alloc (.cells #[.int .i64 x.a, .int .i64 x.b, .int .i64 x.c] 28))
    have L1 := Lib.hid ho1.lt
    have L2 := Lib.hid ho2.lt
    have L3 := Lib.hid ho3.lt
    have J12 := Lib.hid j12
    have J13 := Lib.hid j13
    have J23 := Lib.hid j23
    have N1 := Lib.hid ((Blk.new w1 26 #[.slice E1 m1 d1, .slice E2 m2 d2, .slice E3 m3 d3, .int .i64 t]).alloc (.cells #[.int .i64 x.a, .int .i64 x.b, .int .i64 x.c] 28))
    have S1 : Hid (TS ((w1.alloc (.cells #[.slice E1 m1 d1, .slice E2 m2 d2, .slice E3 m3 d3, .int .i64 t] 26)).alloc (.cells #[.int .i64 x.a, .int .i64 x.b, .int .i64 x.c] 28)) (some ⟨w1.heap.size + 1, 0, none⟩) 1 1 [x]) := Lib.hid (by simpa [cellsT] using (OT.lit (w1.alloc (.cells #[.slice E1 m1 d1, .slice E2 m2 d2, .slice E3 m3 d3, .int .i64 t] 26)) 28 0 [x] (Nat.zero_le _) (by simp)).ts)
    have R2 := Lib.hid ((R1.out.alloc (.cells #[.slice E1 m1 d1, .slice E2 m2 d2, .slice E3 m3 d3, .int .i64 t] 26)).alloc (.cells #[.int .i64 x.a, .int .i64 x.b, .int .i64 x.c] 28))
    have B2 := Lib.hid ((B1.out.alloc (by omega) (.cells #[.slice E1 m1 d1, .slice E2 m2 d2, .slice E3 m3 d3, .int .i64 t] 26)).alloc (by simp; omega) (.cells #[.int .i64 x.a, .int .i64 x.b, .int .i64 x.c] 28))
    obtain ⟨x0, x1, x2⟩ := X1.out.c3
    have xl := X1.out.lt
    clear hb ho1 ho2 ho3 j12 j13 j23
    go_wp2_with (at_builtin; refine wpList_append_ts2 _ rfl (.tmp 14) (.tmp 16) _ rfl (w.heap.size + 1 + 1 + 1) 28 infoEnt2 Try.underlying23 _ _ _ xs rfl O1.out _ _ _ [x] rfl S1.out (by omega) (by simp; omega) ?_; intro F1 e1 w2 hown hg hne; have K1 := Lib.hid hown; have JR : Hid (Disj (some ⟨w.heap.size + 1 + 1, 0, none⟩) E1) := Lib.hid (Disj.mk (B := w.heap.size + 1 + 1 + 1) (fun p hp => by cases hp; show w.heap.size + 1 + 1 < w.heap.size + 1 + 1 + 1; omega) O1.out.ge); have JN : Hid (Disj (some ⟨w1.heap.size, 0, none⟩) E1) := Lib.hid (Disj.mk (B := w1.heap.size) L1.out (fun p hp => by cases hp; exact Nat.le_refl _)).symm; have R3 := Lib.hid (R2.out.away hg JR.out); have N3 := Lib.hid (N1.out.away hg JN.out); have K2 := Lib.hid (O2.out.away hg J12.out.symm); have K3 := Lib.hid (O3.out.away hg J13.out.symm); have B3 := Lib.hid (below_row B2.out hg (by simp; omega) (O1.out.ge.mono (by omega))); have hs2 := hg.size; simp at hs2; have NF := Lib.hid hne; have JF : Hid (Disj F1 (some ⟨w1.heap.size, 0, none⟩)) := Lib.hid (hne.disj JN.out.symm (fun p hp => by cases hp; first | (simp; done) | (simp; omega))); have JF2 : Hid (Disj F1 E2) := Lib.hid (hne.disj J12.out (L2.out.mono (by simp; omega))); have JF3 : Hid (Disj F1 E3) := Lib.hid (hne.disj J13.out (L3.out.mono (by simp; omega))); clear hown hg hne x0 x1 x2 xl; obtain ⟨y0, y1, y2, y3⟩ := N3.out.c4; have g0 := N3.out.frozen 0)
    obtain ⟨w3, e3⟩ : ∃ v : World, v = w2.setCell ⟨w1.heap.size, 0, none⟩ (.slice F1 (m1 + 1) e1) := ⟨_, rfl⟩
    have N4 : Hid (Blk w3 w1.heap.size 26 #[.slice F1 (m1 + 1) e1, .slice E2 m2 d2, .slice E3 m3 d3, .int .i64 t]) := Lib.hid (by rw [e3]; exact N3.out.set_ 0 _)
    have R4 : Hid (Blk w3 (w.heap.size + 1 + 1) 26 #[.slice none 0 0, .slice none 0 0, .slice none 0 0, .int .i64 0]) := Lib.hid (by rw [e3]; exact R3.out.far (by show w.heap.size + 1 + 1 ≠ w1.heap.size; omega) _)
    have M1 : Hid (OT w3 28 (w.heap.size + 1 + 1 + 1) F1 (m1 + 1) e1 (xs ++ [x])) := Lib.hid (by rw [e3]; exact K1.out.setCell2 (.inr JF.out.symm) _)
    have M2 : Hid (OW w3 3 (w.heap.size + 1 + 1 + 1) E2 m2 d2 sh) := Lib.hid (by rw [e3]; exact K2.out.setCell2 (.inr (Disj.mk (B := w1.heap.size) L2.out (fun p hp => by cases hp; exact Nat.le_refl _)).symm) _)
    have M3 : Hid (OW w3 3 (w.heap.size + 1 + 1 + 1) E3 m3 d3 db) := Lib.hid (by rw [e3]; exact K3.out.setCell2 (.inr (Disj.mk (B := w1.heap.size) L3.out (fun p hp => by cases hp; exact Nat.le_refl _)).symm) _)
    have B4 : Hid (Below w.heap.size w w3) := Lib.hid (by rw [e3]; exact B3.out.setCell (by show w.heap.size ≤ w1.heap.size; omega) _)
    try rw [← e3]
    clear e3 y0 y1 y2 y3 g0
    obtain ⟨y0, y1, y2, y3⟩ := N4.out.c4
    have nl := N4.out.lt
    go_wp2_with (fail)
    refine (call_b (spec_validQueue_any t _ M1.out.ts M2.out.is M3.out.is) HQ.out).mono ?_
    rintro e w4 ⟨rfl, hb⟩
    have R5 := Lib.hid (R4.out.on hb)
    have N5 := Lib.hid (N4.out.on hb)
    have B5 := Lib.hid (B4.out.trans (hb.mono B4.out.size))
    have P1 := Lib.hid (M1.out.below hb (Nat.le_refl _))
    have P2 := Lib.hid (M2.out.below hb (Nat.le_refl _))
    have P3 := Lib.hid (M3.out.below hb (Nat.le_refl _))
    clear hb y0 y1 y2 y3 nl
    obtain ⟨r0, r1, r2, r3⟩ := R5.out.c4
    obtain ⟨y0, y1, y2, y3⟩ := N5.out.c4
    have f0 := R5.out.frozen 0
    have f1 := R5.out.frozen 1
    have f2 := R5.out.frozen 2
    have f3 := R5.out.frozen 3
    go_wp2_with (fail)
    refine bodyPost_ret (v := .tuple #[.agg #[.slice F1 (m1 + 1) e1, .slice E2 m2 d2, .slice E3 m3 d3, .int .i64 t], .bool true]) (by simp [results, Try.results7, go_sem, r0, r1, r2, r3]) rfl ?_
    refine ⟨F1, m1 + 1, e1, E2, m2, d2, E3, m3, d3, by simp [puT, HK.out], ?_, ?_, ?_, JF2.out, JF3.out, J23.out, ?_⟩
    · simp only [puX, HK.out, if_true]
      refine OT.base_le (base := w.heap.size + 1 + 1 + 1) ?_ (by omega)
      repeat (refine OT.setCell ?_ (by simp) _)
      exact P1.out
    · simp only [puS, HK.out, if_true]
      refine OW.base_le (base := w.heap.size + 1 + 1 + 1) ?_ (by omega)
      repeat (refine OW.setCell ?_ (by simp) _)
      exact P2.out
    · simp only [puD, HK.out, if_true]
      refine OW.base_le (base := w.heap.size + 1 + 1 + 1) ?_ (by omega)
      repeat (refine OW.setCell ?_ (by simp) _)
      exact P3.out
    · exact ((((B5.out.setCell (by first | omega | (simp; done) | (simp; omega) | (show w.heap.size ≤ w.heap.size + 1 + 1; omega)) _).setCell (by first | omega | (simp; done) | (simp; omega) | (show w.heap.size ≤ w.heap.size + 1 + 1; omega)) _).setCell (by first | omega | (simp; done) | (simp; omega) | (show w.heap.size ≤ w.heap.size + 1 + 1; omega)) _).setCell (by first | omega | (simp; done) | (simp; omega) | (show w.heap.size ≤ w.heap.size + 1 + 1; omega)) _)
end Go.Proofs.Ytmlnaijpbfddaaa
