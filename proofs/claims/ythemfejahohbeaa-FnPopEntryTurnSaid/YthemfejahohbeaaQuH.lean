/-
  Contracts of queues: the turn goes on.
-/
import Derived.Test.YthemfejahohbeaaQuG0
import Derived.Lib.MinMax
namespace Go.Proofs.Ythemfejahohbeaa
open Go.RowKit
/-- Of what was there only two blocks may have turned. -/
structure Row2 (w w' : World) (g : Nat) (A : Option Addr) : Prop where
  os : w'.os = w.os
  tape : w'.tape = w.tape
  output : w'.output = w.output
  size : w.heap.size ≤ w'.heap.size
  block : ∀ k, k < w.heap.size → k ≠ g → some k ≠ A.map (·.block) → w'.heap[k]? = w.heap[k]?
theorem Row2.refl (w : World) (g : Nat) (A : Option Addr) : Row2 w w g A := ⟨rfl, rfl, rfl, Nat.le_refl _, fun _ _ _ _ => rfl⟩
theorem Row2.trans {a b c : World} {g : Nat} {A : Option Addr} (h : Row2 a b g A) (k : Row2 b c g A) : Row2 a c g A :=
  ⟨k.os.trans h.os, k.tape.trans h.tape, k.output.trans h.output, Nat.le_trans h.size k.size, fun i hi h1 h2 => (k.block i (Nat.lt_of_lt_of_le hi h.size) h1 h2).trans (h.block i hi h1 h2)⟩
theorem Row2.of_below {a b : World} {g : Nat} {A : Option Addr} (h : Below a.heap.size a b) : Row2 a b g A := ⟨h.os, h.tape, h.output, h.size, fun k hk _ _ => h.block k hk⟩
theorem Row2.drew {a b : World} {g : Nat} {A : Option Addr} (h : Row2 a b g A) : Row2 a b.drew g A := ⟨h.os, h.tape, h.output, h.size, h.block⟩
theorem Row2.setG {a b : World} {g : Nat} {A : Option Addr} (h : Row2 a b g A) (i : Nat) (v : Value) : Row2 a (b.setCell ⟨g, i, none⟩ v) g A :=
  ⟨h.os, h.tape, h.output, by simpa [World.setCell] using h.size, fun k hk h1 h2 => (Below.heap_setCell b _ v k h1).trans (h.block k hk h1 h2)⟩
theorem Row2.setA {a b : World} {g ga : Nat} (h : Row2 a b g (some ⟨ga, 0, none⟩)) (i : Nat) (v : Value) : Row2 a (b.setCell ⟨ga, i, none⟩ v) g (some ⟨ga, 0, none⟩) :=
  ⟨h.os, h.tape, h.output, by simpa [World.setCell] using h.size, fun k hk h1 h2 => (Below.heap_setCell b _ v k (fun e => h2 (by simp [e]))).trans (h.block k hk h1 h2)⟩
theorem OT.row2 {w w' : World} {T base g n c : Nat} {A D : Option Addr} {xs : List Tr} (h : OT w T base A n c xs) (hr : Row2 w w' g D) (h1 : Disj (some ⟨g, 0, none⟩) A) (h2 : Disj D A) : OT w' T base A n c xs :=
  h.kept fun g' e hlt => hr.block g' hlt (fun e2 => h1 _ _ rfl e (by simp [e2])) (fun e2 => by
    rcases D with _ | q
    · simp at e2
    · simp at e2
      exact h2 q _ rfl e (by simp [e2]))
theorem TS.row2 {w w' : World} {g n c : Nat} {A D : Option Addr} {xs : List Tr} (h : TS w A n c xs) (hr : Row2 w w' g D) (h1 : Disj (some ⟨g, 0, none⟩) A) (h2 : Disj D A) : TS w' A n c xs :=
  h.kept fun p e hlt => hr.block p.block hlt (fun e2 => h1 _ _ rfl e (by simp [e2])) (fun e2 => by
    rcases D with _ | q
    · simp at e2
    · simp at e2
      exact h2 q _ rfl e (by simp [e2]))
theorem IS.kept' {w w' : World} {A : Option Addr} {n c : Nat} {xs : List Int} (h : IS w A n c xs) (hk : ∀ p : Addr, A = some p → p.block < w.heap.size → w'.heap[p.block]? = w.heap[p.block]?) : IS w' A n c xs := by
  refine ⟨h.1, h.2.1, h.2.2.1, fun hn => ?_, h.2.2.2.2⟩
  obtain ⟨b, off, rfl, hc⟩ := h.2.2.2.1 hn
  refine ⟨b, off, rfl, fun j hj => ?_⟩
  have hlt := World.block_lt_of_cell? w ⟨b, off + j, none⟩ (hc j hj)
  rw [← hc j hj]
  exact World.cell?_of_block (hk ⟨b, off, none⟩ rfl hlt)
theorem IS.row2 {w w' : World} {g n c : Nat} {A D : Option Addr} {xs : List Int} (h : IS w A n c xs) (hr : Row2 w w' g D) (h1 : Disj (some ⟨g, 0, none⟩) A) (h2 : Disj D A) : IS w' A n c xs :=
  h.kept' fun p e hlt => hr.block p.block hlt (fun e2 => h1 _ _ rfl e (by simp [e2])) (fun e2 => by
    rcases D with _ | q
    · simp at e2
    · simp at e2
      exact h2 q _ rfl e (by simp [e2]))
theorem OW.row2 {w w' : World} {T base g n c : Nat} {A D : Option Addr} {xs : List Int} (h : OW w T base A n c xs) (hr : Row2 w w' g D) (h1 : Disj (some ⟨g, 0, none⟩) A) (h2 : Disj D A) : OW w' T base A n c xs :=
  h.kept fun g' e hlt => hr.block g' hlt (fun e2 => h1 _ _ rfl e (by simp [e2])) (fun e2 => by
    rcases D with _ | q
    · simp at e2
    · simp at e2
      exact h2 q _ rfl e (by simp [e2]))
theorem Blk.row2 {w w' : World} {g x : Nat} {t : TypeId} {cs : Array Value} {D : Option Addr} (h : Blk w x t cs) (hr : Row2 w w' g D) (h1 : x ≠ g) (h2 : some x ≠ D.map (·.block)) : Blk w' x t cs :=
  (hr.block x h.lt h1 h2).trans h
theorem below_row2 {B : Nat} {a w w' : World} {g : Nat} {A : Option Addr} (h : Below B a w) (hr : Row2 w w' g A) (hB : B ≤ w.heap.size) (hg : B ≤ g) (hA : Ge A B) : Below B a w' :=
  ⟨hr.os.trans h.os, hr.tape.trans h.tape, hr.output.trans h.output, Nat.le_trans h.size hr.size, fun k hk => (hr.block k (by omega) (by omega) (fun e => by
    rcases A with _ | q
    · simp at e
    · simp at e
      have := hA q rfl
      omega)).trans (h.block k hk)⟩
theorem hasC_cls {xs : List Tr} {u : Nat} : hasC xs u = decide (0 < (cls (u : Int) xs).length) := by
  have h := cls_nil (c := (u : Int)) (xs := xs)
  rw [Bool.eq_iff_iff, hasC_iff, decide_eq_true_eq, List.length_pos_iff]
  constructor
  · intro h1 h2; exact (h.1 h2) h1
  · intro h1
    rcases Nat.lt_or_ge (whereC (u : Int) xs) xs.length with h2 | h2
    · exact h2
    · exact absurd (h.2 (by omega)) h1
theorem cnt_getD {sh : List Int} (h : cnt sh 1 20 = true) {j : Nat} (hj : j < 3) : 1 ≤ sh.getD j 0 ∧ sh.getD j 0 ≤ 20 := by
  obtain ⟨h1, h2⟩ := cnt_iff.1 h
  have hx : sh[j]? = some (sh[j]'(by omega)) := List.getElem?_eq_getElem _
  rw [List.getD_eq_getElem?_getD, hx]
  exact allR_at hx h2
theorem debt_at {d db : List Int} {j k : Nat} (h : OkS (j, db)) (hk : k < 3) (e : d = db ∨ d = db.set j 0) : 0 ≤ d.getD k 0 ∧ d.getD k 0 ≤ 40 := by
  have h1 : ∀ v ∈ d, 0 ≤ v ∧ v ≤ 40 := by
    rcases e with rfl | rfl
    · exact h.2.2
    · intro v hv
      rcases List.mem_or_eq_of_mem_set hv with h3 | h3
      · exact h.2.2 v h3
      · omega
  have hl : k < d.length := by
    have := h.2.1
    rcases e with rfl | rfl
    · simp only at this; omega
    · simp only at this; rw [List.length_set]; omega
  rw [List.getD_eq_getElem?_getD, List.getElem?_eq_getElem hl]
  exact h1 _ (List.getElem_mem hl)
theorem list_at {w : World} {g : Nat} {T : TypeId} {L0 L1 L2 : Option Addr} {a0 b0 a1 b1 a2 b2 : Nat} {xs : List Tr} (h : Blk w g T #[.slice L0 a0 b0, .slice L1 a1 b1, .slice L2 a2 b2]) (h0 : a0 = (cls 0 xs).length) (h1 : a1 = (cls 1 xs).length) (h2 : a2 = (cls 2 xs).length) {u : Nat} (hu : u < 3) :
    ∃ L a b, w.cell? ⟨g, u, none⟩ = some (.slice L a b) ∧ hasC xs u = decide (0 < a) := by
  rcases nat3 hu with rfl | rfl | rfl
  · exact ⟨L0, a0, b0, h.cell 0, by rw [hasC_cls, h0]; rfl⟩
  · exact ⟨L1, a1, b1, h.cell 1, by rw [hasC_cls, h1]; rfl⟩
  · exact ⟨L2, a2, b2, h.cell 2, by rw [hasC_cls, h2]; rfl⟩
theorem ow_at {w : World} {T base g n c : Nat} {xs : List Int} (h : OW w T base (some ⟨g, 0, none⟩) n c xs) {j : Nat} (hj : j < n) : w.cell? ⟨g, j, none⟩ = some (.int .i64 (xs.getD j 0)) := by
  obtain ⟨b, off, e, hc⟩ := h.is.2.2.2.1 (by omega)
  simp only [Option.some.injEq, Addr.mk.injEq, and_true] at e
  obtain ⟨rfl, rfl⟩ := e
  have := hc j hj
  rwa [Nat.zero_add] at this
/-- The turn has gone on. -/
def Passed (TQ TI : Nat) (w : World) (g base : Nat) (E1 : Option Addr) (m1 d1 : Nat) (E2 : Option Addr) (m2 d2 : Nat) (gd m3 d3 : Nat) (s : Nat × List Int) (e : Ending) (w' : World) : Prop :=
  e = .returned (.tuple #[]) ∧ Blk w' g TQ #[.slice E1 m1 d1, .slice E2 m2 d2, .slice (some ⟨gd, 0, none⟩) m3 d3, .int .i64 (s.1 : Int)] ∧ OW w' TI base (some ⟨gd, 0, none⟩) m3 d3 s.2 ∧ Row2 w w' g (some ⟨gd, 0, none⟩)
set_option maxHeartbeats 16000000 in
theorem impl_passTurn_any {base g gd : Nat} {E1 E2 : Option Addr} {m1 d1 m2 d2 m3 d3 : Nat} {L0 L1 L2 : Option Addr} {a0 b0 a1 b1 a2 b2 : Nat} {xs : List Tr} {sh db : List Int} (j : Nat) (w : World)
    (hQ : Blk w g 26 #[.slice E1 m1 d1, .slice E2 m2 d2, .slice (some ⟨gd, 0, none⟩) m3 d3, .int .i64 (j : Int)]) (hS : IS w E2 m2 d2 sh) (hD : OW w 3 base (some ⟨gd, 0, none⟩) m3 d3 db) (h0 : a0 = (cls 0 xs).length) (h1 : a1 = (cls 1 xs).length) (h2 : a2 = (cls 2 xs).length)
    (hok : OkS (j, db)) (hsh : cnt sh 1 20 = true) (hgd : g ≠ gd) (j23 : Disj (some ⟨gd, 0, none⟩) E2) (jg2 : Disj (some ⟨g, 0, none⟩) E2) :
    Calls Try.prog 45 #[.pointer (some ⟨g, 0, none⟩), .agg #[.slice L0 a0 b0, .slice L1 a1 b1, .slice L2 a2 b2]] w (Passed 26 3 w g base E1 m1 d1 E2 m2 d2 gd m3 d3 (stepQ xs sh (j, db))) := by
  have hj : j < 3 := hok.1
  have hl3 : m3 = 3 := by have h1 := hD.len; have h2 := hok.2.1; simp only at h2; omega
  subst hl3
  have hsl := (cnt_iff.1 hsh).1
  have hl2 : m2 = 3 := by have h1 := hS.len; omega
  subst hl2
  obtain ⟨j', hj'⟩ : ∃ j', j' = (j + 1) % 3 := ⟨_, rfl⟩
  have hj3 : j' < 3 := by omega
  have hmod : Int.tmod ((j : Int) + 1) 3 = (j' : Int) := by rcases nat3 hj with rfl | rfl | rfl <;> subst hj' <;> rfl
  have hmod2 : ((j : Int) + 1) % 3 = (j' : Int) := by omega
  have HM := Lib.hid hj'
  have HOK := Lib.hid hok
  have HSH := Lib.hid hsh
  have hgl := hQ.lt
  have hdl : gd < w.heap.size := by obtain ⟨g', e, _, h⟩ := hD.pos (by omega); simp at e; omega
  have BL := Lib.hid (Blk.new w 54 #[.slice L0 a0 b0, .slice L1 a1 b1, .slice L2 a2 b2])
  have KQ := Lib.hid (hQ.alloc (.cells #[.slice L0 a0 b0, .slice L1 a1 b1, .slice L2 a2 b2] 54))
  have KD := Lib.hid (hD.alloc (.cells #[.slice L0 a0 b0, .slice L1 a1 b1, .slice L2 a2 b2] 54))
  have KS := Lib.hid (hS.alloc (.cells #[.slice L0 a0 b0, .slice L1 a1 b1, .slice L2 a2 b2] 54))
  have RW : Hid (Row2 w (w.alloc (.cells #[.slice L0 a0 b0, .slice L1 a1 b1, .slice L2 a2 b2] 54)) g (some ⟨gd, 0, none⟩)) := Lib.hid (Row2.of_below (below_new _ _))
  obtain ⟨LJ, aJ, bJ, hcJ, hJ⟩ := list_at BL.out h0 h1 h2 hj
  obtain ⟨LK, aK, bK, hcK, hK⟩ := list_at BL.out h0 h1 h2 hj3
  have CJ := Lib.hid hcJ
  have CK := Lib.hid hcK
  have hji : (j : Int) < 3 := by omega
  have hj0 : (0 : Int) ≤ (j : Int) := by omega
  have hki : (j' : Int) < 3 := by omega
  have hk0 : (0 : Int) ≤ (j' : Int) := by omega
  have hwg : w.heap.size ≠ g := by omega
  have hwd : w.heap.size ≠ gd := by omega
  have JS := Lib.hid j23
  have JG := Lib.hid jg2
  clear hQ hS hD h0 h1 h2 hok hsh hsl hj' hcJ hcK j23 jg2
  rcases ha : hasC xs j with _ | _
  · have HA := Lib.hid ha
    rw [ha] at hJ
    have hJ2 : aJ = 0 := by have := hJ; simp at this; omega
    have hJ3 : ((aJ : Int) == 0) = true := by simp; omega
    clear ha hJ
    rcases hb : hasC xs j' with _ | _
    · have HB := Lib.hid hb
      rw [hb] at hK
      have hK2 : aK = 0 := by have := hK; simp at this; omega
      have hK3 : decide (0 < (aK : Int)) = false := by simp; omega
      clear hb hK
      have HD1 : Hid (debt1 xs (j, db) = (db.set j 0)) := Lib.hid (by simp [debt1, HA.out])
      obtain ⟨q0, q1, q2, q3⟩ := KQ.out.c4
      have cJ := CJ.out
      go_enter Try.func45, Try.ntmps45
      go_upto_region 2 with (fail)
      obtain ⟨V, eV⟩ : ∃ v : World, v = w.alloc (.cells #[.slice L0 a0 b0, .slice L1 a1 b1, .slice L2 a2 b2] 54) := ⟨_, rfl⟩
      rw [← eV] at BL KQ KD KS RW CK ⊢
      clear eV q0 q1 q2 q3 cJ CJ
      obtain ⟨q0, q1, q2, q3⟩ := KQ.out.c4
      have dj := ow_at KD.out hj
      have fj : V.frozen? ⟨gd, j, none⟩ = false := World.ownsRow.frozenAt KD.out j
      go_region
      clear q0 q1 q2 q3 dj fj
      obtain ⟨V2, eV2⟩ : ∃ v : World, v = (V.setCell ⟨gd, j, none⟩ (.int .i64 0)).drew := ⟨_, rfl⟩
      have BL : Hid (Blk V2 w.heap.size 54 #[.slice L0 a0 b0, .slice L1 a1 b1, .slice L2 a2 b2]) := Lib.hid (by rw [eV2]; exact (BL.out.far hwd _).drew)
      have KQ : Hid (Blk V2 g 26 #[.slice E1 m1 d1, .slice E2 3 d2, .slice (some ⟨gd, 0, none⟩) 3 d3, .int .i64 (j : Int)]) := Lib.hid (by rw [eV2]; exact (KQ.out.far hgd _).drew)
      have KD : Hid (OW V2 3 base (some ⟨gd, 0, none⟩) 3 d3 (db.set j 0)) := Lib.hid (by rw [eV2]; exact (KD.out.storedS j 0).drew)
      have KS : Hid (IS V2 E2 3 d2 sh) := Lib.hid (by rw [eV2]; exact (KS.out.kept' (fun p e _ => Below.heap_setCell V ⟨gd, j, none⟩ (.int .i64 0) p.block (fun e2 => JS.out ⟨gd, 0, none⟩ p rfl e e2.symm))).drew)
      have RW : Hid (Row2 w V2 g (some ⟨gd, 0, none⟩)) := Lib.hid (by rw [eV2]; exact (RW.out.setA j _).drew)
      have CK : Hid (V2.cell? ⟨w.heap.size, j', none⟩ = some (.slice LK aK bK)) := Lib.hid (by rw [eV2]; exact cell_set CK.out hwd _)
      rw [← eV2]
      clear eV2
      obtain ⟨q0, q1, q2, q3⟩ := KQ.out.c4
      have f3 := KQ.out.frozen 3
      go_upto_region 4 with (fail)
      clear q0 q1 q2 q3 f3
      obtain ⟨V3, eV3⟩ : ∃ v : World, v = V2.setCell ⟨g, 3, none⟩ (.int .i64 (j' : Int)) := ⟨_, rfl⟩
      have KQ : Hid (Blk V3 g 26 #[.slice E1 m1 d1, .slice E2 3 d2, .slice (some ⟨gd, 0, none⟩) 3 d3, .int .i64 (j' : Int)]) := Lib.hid (by rw [eV3]; exact KQ.out.set_ 3 _)
      have KD : Hid (OW V3 3 base (some ⟨gd, 0, none⟩) 3 d3 (db.set j 0)) := Lib.hid (by rw [eV3]; exact KD.out.kept (fun g2 e _ => Below.heap_setCell V2 ⟨g, 3, none⟩ (.int .i64 (j' : Int)) g2 (fun e2 => hgd (by have e3 : g2 = g := e2; simp at e; try omega))))
      have KS : Hid (IS V3 E2 3 d2 sh) := Lib.hid (by rw [eV3]; exact KS.out.kept' (fun p e _ => Below.heap_setCell V2 ⟨g, 3, none⟩ (.int .i64 (j' : Int)) p.block (fun e2 => JG.out ⟨g, 0, none⟩ p rfl e e2.symm)))
      have RW : Hid (Row2 w V3 g (some ⟨gd, 0, none⟩)) := Lib.hid (by rw [eV3]; exact RW.out.setG 3 _)
      have cK : V3.cell? ⟨w.heap.size, j', none⟩ = some (.slice LK aK bK) := by rw [eV3]; exact cell_set CK.out hwg _
      rw [← eV3]
      clear eV3
      obtain ⟨q0, q1, q2, q3⟩ := KQ.out.c4
      go_wp2_with (fail)
      have HS : Hid (stepQ xs sh (j, db) = (j', (db.set j 0))) := Lib.hid (by simp only [stepQ, ← HM.out, HB.out, HD1.out]; simp)
      rw [HS.out]
      refine bodyPost_ret (v := .tuple #[]) (by simp [results, Try.results45, go_sem]) rfl ?_
      exact ⟨rfl, KQ.out, KD.out, RW.out⟩
    · have HB := Lib.hid hb
      rw [hb] at hK
      have hK2 : 0 < aK := by have := hK; simp at this; omega
      have hK3 : decide (0 < (aK : Int)) = true := by simp; omega
      clear hb hK
      have HD1 : Hid (debt1 xs (j, db) = (db.set j 0)) := Lib.hid (by simp [debt1, HA.out])
      obtain ⟨q0, q1, q2, q3⟩ := KQ.out.c4
      have cJ := CJ.out
      go_enter Try.func45, Try.ntmps45
      go_upto_region 2 with (fail)
      obtain ⟨V, eV⟩ : ∃ v : World, v = w.alloc (.cells #[.slice L0 a0 b0, .slice L1 a1 b1, .slice L2 a2 b2] 54) := ⟨_, rfl⟩
      rw [← eV] at BL KQ KD KS RW CK ⊢
      clear eV q0 q1 q2 q3 cJ CJ
      obtain ⟨q0, q1, q2, q3⟩ := KQ.out.c4
      have dj := ow_at KD.out hj
      have fj : V.frozen? ⟨gd, j, none⟩ = false := World.ownsRow.frozenAt KD.out j
      go_region
      clear q0 q1 q2 q3 dj fj
      obtain ⟨V2, eV2⟩ : ∃ v : World, v = (V.setCell ⟨gd, j, none⟩ (.int .i64 0)).drew := ⟨_, rfl⟩
      have BL : Hid (Blk V2 w.heap.size 54 #[.slice L0 a0 b0, .slice L1 a1 b1, .slice L2 a2 b2]) := Lib.hid (by rw [eV2]; exact (BL.out.far hwd _).drew)
      have KQ : Hid (Blk V2 g 26 #[.slice E1 m1 d1, .slice E2 3 d2, .slice (some ⟨gd, 0, none⟩) 3 d3, .int .i64 (j : Int)]) := Lib.hid (by rw [eV2]; exact (KQ.out.far hgd _).drew)
      have KD : Hid (OW V2 3 base (some ⟨gd, 0, none⟩) 3 d3 (db.set j 0)) := Lib.hid (by rw [eV2]; exact (KD.out.storedS j 0).drew)
      have KS : Hid (IS V2 E2 3 d2 sh) := Lib.hid (by rw [eV2]; exact (KS.out.kept' (fun p e _ => Below.heap_setCell V ⟨gd, j, none⟩ (.int .i64 0) p.block (fun e2 => JS.out ⟨gd, 0, none⟩ p rfl e e2.symm))).drew)
      have RW : Hid (Row2 w V2 g (some ⟨gd, 0, none⟩)) := Lib.hid (by rw [eV2]; exact (RW.out.setA j _).drew)
      have CK : Hid (V2.cell? ⟨w.heap.size, j', none⟩ = some (.slice LK aK bK)) := Lib.hid (by rw [eV2]; exact cell_set CK.out hwd _)
      rw [← eV2]
      clear eV2
      obtain ⟨q0, q1, q2, q3⟩ := KQ.out.c4
      have f3 := KQ.out.frozen 3
      go_upto_region 4 with (fail)
      clear q0 q1 q2 q3 f3
      obtain ⟨V3, eV3⟩ : ∃ v : World, v = V2.setCell ⟨g, 3, none⟩ (.int .i64 (j' : Int)) := ⟨_, rfl⟩
      have KQ : Hid (Blk V3 g 26 #[.slice E1 m1 d1, .slice E2 3 d2, .slice (some ⟨gd, 0, none⟩) 3 d3, .int .i64 (j' : Int)]) := Lib.hid (by rw [eV3]; exact KQ.out.set_ 3 _)
      have KD : Hid (OW V3 3 base (some ⟨gd, 0, none⟩) 3 d3 (db.set j 0)) := Lib.hid (by rw [eV3]; exact KD.out.kept (fun g2 e _ => Below.heap_setCell V2 ⟨g, 3, none⟩ (.int .i64 (j' : Int)) g2 (fun e2 => hgd (by have e3 : g2 = g := e2; simp at e; try omega))))
      have KS : Hid (IS V3 E2 3 d2 sh) := Lib.hid (by rw [eV3]; exact KS.out.kept' (fun p e _ => Below.heap_setCell V2 ⟨g, 3, none⟩ (.int .i64 (j' : Int)) p.block (fun e2 => JG.out ⟨g, 0, none⟩ p rfl e e2.symm)))
      have RW : Hid (Row2 w V3 g (some ⟨gd, 0, none⟩)) := Lib.hid (by rw [eV3]; exact RW.out.setG 3 _)
      have cK : V3.cell? ⟨w.heap.size, j', none⟩ = some (.slice LK aK bK) := by rw [eV3]; exact cell_set CK.out hwg _
      rw [← eV3]
      clear eV3
      obtain ⟨q0, q1, q2, q3⟩ := KQ.out.c4
      obtain ⟨DV, hDV⟩ : ∃ v, ((db.set j 0)).getD j' 0 = v := ⟨_, rfl⟩
      obtain ⟨SV, hSV⟩ : ∃ v, sh.getD j' 0 = v := ⟨_, rfl⟩
      have hd0 : 0 ≤ DV ∧ DV ≤ 40 := by rw [← hDV]; exact debt_at HOK.out hj3 (.inr rfl)
      obtain ⟨hd1, hd2⟩ := hd0
      have hs0 : 1 ≤ SV ∧ SV ≤ 20 := by rw [← hSV]; exact cnt_getD HSH.out hj3
      obtain ⟨hs1, hs2⟩ := hs0
      go_upto_region 5 with (fail)
      have dk := ow_at KD.out hj3
      rw [hDV] at dk
      have fk : V3.frozen? ⟨gd, j', none⟩ = false := World.ownsRow.frozenAt KD.out j'
      obtain ⟨b2, o2, sv, rfl, hsx, hsc⟩ := KS.out.at_ hj3
      have hsv : SV = sv := by rw [← hSV, List.getD_eq_getElem?_getD, hsx]; rfl
      rw [← hsv] at hsc
      have HV1 := Lib.hid hDV
      have HV2 := Lib.hid hSV
      clear hDV hSV hsx hsv
      go_region
      clear dk fk hsc q0 q1 q2 q3 cK
      have HS : Hid (stepQ xs sh (j, db) = (j', ((db.set j 0)).set j' (min (DV + SV) 40))) := Lib.hid (by simp only [stepQ, ← HM.out, HB.out, HD1.out, if_true, HV1.out, HV2.out])
      rw [HS.out]
      go_wp2_with (fail)
      refine bodyPost_ret (v := .tuple #[]) (by simp [results, Try.results45, go_sem]) rfl ?_
      exact ⟨rfl, (KQ.out.far (p := ⟨gd, j', none⟩) hgd _).drew, (KD.out.storedS j' (min (DV + SV) 40)).drew, (RW.out.setA j' _).drew⟩
  · have HA := Lib.hid ha
    rw [ha] at hJ
    have hJ2 : 0 < aJ := by have := hJ; simp at this; omega
    have hJ3 : ((aJ : Int) == 0) = false := by simp; omega
    clear ha hJ
    rcases hb : hasC xs j' with _ | _
    · have HB := Lib.hid hb
      rw [hb] at hK
      have hK2 : aK = 0 := by have := hK; simp at this; omega
      have hK3 : decide (0 < (aK : Int)) = false := by simp; omega
      clear hb hK
      have HD1 : Hid (debt1 xs (j, db) = db) := Lib.hid (by simp [debt1, HA.out])
      obtain ⟨q0, q1, q2, q3⟩ := KQ.out.c4
      have cJ := CJ.out
      go_enter Try.func45, Try.ntmps45
      go_upto_region 3 with (fail)
      obtain ⟨V2, eV⟩ : ∃ v : World, v = w.alloc (.cells #[.slice L0 a0 b0, .slice L1 a1 b1, .slice L2 a2 b2] 54) := ⟨_, rfl⟩
      rw [← eV] at BL KQ KD KS RW CK ⊢
      clear eV q0 q1 q2 q3 cJ CJ
      obtain ⟨q0, q1, q2, q3⟩ := KQ.out.c4
      have f3 := KQ.out.frozen 3
      go_upto_region 4 with (fail)
      clear q0 q1 q2 q3 f3
      obtain ⟨V3, eV3⟩ : ∃ v : World, v = V2.setCell ⟨g, 3, none⟩ (.int .i64 (j' : Int)) := ⟨_, rfl⟩
      have KQ : Hid (Blk V3 g 26 #[.slice E1 m1 d1, .slice E2 3 d2, .slice (some ⟨gd, 0, none⟩) 3 d3, .int .i64 (j' : Int)]) := Lib.hid (by rw [eV3]; exact KQ.out.set_ 3 _)
      have KD : Hid (OW V3 3 base (some ⟨gd, 0, none⟩) 3 d3 db) := Lib.hid (by rw [eV3]; exact KD.out.kept (fun g2 e _ => Below.heap_setCell V2 ⟨g, 3, none⟩ (.int .i64 (j' : Int)) g2 (fun e2 => hgd (by have e3 : g2 = g := e2; simp at e; try omega))))
      have KS : Hid (IS V3 E2 3 d2 sh) := Lib.hid (by rw [eV3]; exact KS.out.kept' (fun p e _ => Below.heap_setCell V2 ⟨g, 3, none⟩ (.int .i64 (j' : Int)) p.block (fun e2 => JG.out ⟨g, 0, none⟩ p rfl e e2.symm)))
      have RW : Hid (Row2 w V3 g (some ⟨gd, 0, none⟩)) := Lib.hid (by rw [eV3]; exact RW.out.setG 3 _)
      have cK : V3.cell? ⟨w.heap.size, j', none⟩ = some (.slice LK aK bK) := by rw [eV3]; exact cell_set CK.out hwg _
      rw [← eV3]
      clear eV3
      obtain ⟨q0, q1, q2, q3⟩ := KQ.out.c4
      go_wp2_with (fail)
      have HS : Hid (stepQ xs sh (j, db) = (j', db)) := Lib.hid (by simp only [stepQ, ← HM.out, HB.out, HD1.out]; simp)
      rw [HS.out]
      refine bodyPost_ret (v := .tuple #[]) (by simp [results, Try.results45, go_sem]) rfl ?_
      exact ⟨rfl, KQ.out, KD.out, RW.out⟩
    · have HB := Lib.hid hb
      rw [hb] at hK
      have hK2 : 0 < aK := by have := hK; simp at this; omega
      have hK3 : decide (0 < (aK : Int)) = true := by simp; omega
      clear hb hK
      have HD1 : Hid (debt1 xs (j, db) = db) := Lib.hid (by simp [debt1, HA.out])
      obtain ⟨q0, q1, q2, q3⟩ := KQ.out.c4
      have cJ := CJ.out
      go_enter Try.func45, Try.ntmps45
      go_upto_region 3 with (fail)
      obtain ⟨V2, eV⟩ : ∃ v : World, v = w.alloc (.cells #[.slice L0 a0 b0, .slice L1 a1 b1, .slice L2 a2 b2] 54) := ⟨_, rfl⟩
      rw [← eV] at BL KQ KD KS RW CK ⊢
      clear eV q0 q1 q2 q3 cJ CJ
      obtain ⟨q0, q1, q2, q3⟩ := KQ.out.c4
      have f3 := KQ.out.frozen 3
      go_upto_region 4 with (fail)
      clear q0 q1 q2 q3 f3
      obtain ⟨V3, eV3⟩ : ∃ v : World, v = V2.setCell ⟨g, 3, none⟩ (.int .i64 (j' : Int)) := ⟨_, rfl⟩
      have KQ : Hid (Blk V3 g 26 #[.slice E1 m1 d1, .slice E2 3 d2, .slice (some ⟨gd, 0, none⟩) 3 d3, .int .i64 (j' : Int)]) := Lib.hid (by rw [eV3]; exact KQ.out.set_ 3 _)
      have KD : Hid (OW V3 3 base (some ⟨gd, 0, none⟩) 3 d3 db) := Lib.hid (by rw [eV3]; exact KD.out.kept (fun g2 e _ => Below.heap_setCell V2 ⟨g, 3, none⟩ (.int .i64 (j' : Int)) g2 (fun e2 => hgd (by have e3 : g2 = g := e2; simp at e; try omega))))
      have KS : Hid (IS V3 E2 3 d2 sh) := Lib.hid (by rw [eV3]; exact KS.out.kept' (fun p e _ => Below.heap_setCell V2 ⟨g, 3, none⟩ (.int .i64 (j' : Int)) p.block (fun e2 => JG.out ⟨g, 0, none⟩ p rfl e e2.symm)))
      have RW : Hid (Row2 w V3 g (some ⟨gd, 0, none⟩)) := Lib.hid (by rw [eV3]; exact RW.out.setG 3 _)
      have cK : V3.cell? ⟨w.heap.size, j', none⟩ = some (.slice LK aK bK) := by rw [eV3]; exact cell_set CK.out hwg _
      rw [← eV3]
      clear eV3
      obtain ⟨q0, q1, q2, q3⟩ := KQ.out.c4
      obtain ⟨DV, hDV⟩ : ∃ v, (db).getD j' 0 = v := ⟨_, rfl⟩
      obtain ⟨SV, hSV⟩ : ∃ v, sh.getD j' 0 = v := ⟨_, rfl⟩
      have hd0 : 0 ≤ DV ∧ DV ≤ 40 := by rw [← hDV]; exact debt_at HOK.out hj3 (.inl rfl)
      obtain ⟨hd1, hd2⟩ := hd0
      have hs0 : 1 ≤ SV ∧ SV ≤ 20 := by rw [← hSV]; exact cnt_getD HSH.out hj3
      obtain ⟨hs1, hs2⟩ := hs0
      go_upto_region 5 with (fail)
      have dk := ow_at KD.out hj3
      rw [hDV] at dk
      have fk : V3.frozen? ⟨gd, j', none⟩ = false := World.ownsRow.frozenAt KD.out j'
      obtain ⟨b2, o2, sv, rfl, hsx, hsc⟩ := KS.out.at_ hj3
      have hsv : SV = sv := by rw [← hSV, List.getD_eq_getElem?_getD, hsx]; rfl
      rw [← hsv] at hsc
      have HV1 := Lib.hid hDV
      have HV2 := Lib.hid hSV
      clear hDV hSV hsx hsv
      go_region
      clear dk fk hsc q0 q1 q2 q3 cK
      have HS : Hid (stepQ xs sh (j, db) = (j', (db).set j' (min (DV + SV) 40))) := Lib.hid (by simp only [stepQ, ← HM.out, HB.out, HD1.out, if_true, HV1.out, HV2.out])
      rw [HS.out]
      go_wp2_with (fail)
      refine bodyPost_ret (v := .tuple #[]) (by simp [results, Try.results45, go_sem]) rfl ?_
      exact ⟨rfl, (KQ.out.far (p := ⟨gd, j', none⟩) hgd _).drew, (KD.out.storedS j' (min (DV + SV) 40)).drew, (RW.out.setA j' _).drew⟩
end Go.Proofs.Ythemfejahohbeaa
