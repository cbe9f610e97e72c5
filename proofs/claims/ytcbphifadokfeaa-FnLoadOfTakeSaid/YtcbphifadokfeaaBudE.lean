/-
  Contracts of budgets: credit taken and given by the model.
-/
import Derived.Test.YtcbphifadokfeaaBudC
import Derived.RegionTactic
import Derived.BigRegion
import Derived.Deep.DeepCutAuto
import Derived.KernelRfl
namespace Go.Proofs.Ytcbphifadokfeaa
open Go.RowKit
attribute [local go_sem ↓] Go.wp_at_zero Go.wp_at_succ

/-- What stands behind the making of a copy of a budget: it lies in block g. -/
def CutB (I T : TypeId) (W wx : World) (g : Nat) (t : Int) (ks us : List Int) (A1 : Option Addr) (n1 c1 : Nat) (A2 : Option Addr) (n2 c2 : Nat) : Prop :=
  Blk wx g I #[.int .i64 t, .slice A1 n1 c1, .slice A2 n2 c2] ∧ OW wx T W.heap.size A1 n1 c1 ks ∧ OW wx T W.heap.size A2 n2 c2 us ∧ Disj A1 A2 ∧ Disj (some ⟨g, 0, none⟩) A2 ∧ Disj (some ⟨g, 0, none⟩) A1 ∧ Below W.heap.size W wx ∧ W.heap.size ≤ g
theorem cut_new {I T : TypeId} {w2 w4 : World} {t : Int} {ks us : List Int} {A1 A2 : Option Addr} {n1 c1 n2 c2 : Nat} (O1 : OW w4 T w2.heap.size A1 n1 c1 ks) (O2 : OW w4 T w2.heap.size A2 n2 c2 us) (D : Disj A1 A2) (hb : Below w2.heap.size w2 w4) :
    CutB I T w2 (w4.alloc (.cells #[.int .i64 t, .slice A1 n1 c1, .slice A2 n2 c2] I)) w4.heap.size t ks us A1 n1 c1 A2 n2 c2 :=
  ⟨Blk.new _ _ _, O1.alloc _, O2.alloc _, D, (Disj.mk O2.lt (fun p hp => by cases hp; exact Nat.le_refl _)).symm, (Disj.mk O1.lt (fun p hp => by cases hp; exact Nat.le_refl _)).symm, hb.alloc hb.size _, hb.size⟩
theorem cut_set {I T : TypeId} {w2 w4 : World} {g : Nat} {t : Int} {ks us : List Int} {A1 A2 : Option Addr} {n1 c1 n2 c2 : Nat} (G : Blk w4 g I #[.int .i64 0, .slice none 0 0, .slice none 0 0]) (O1 : OW w4 T w2.heap.size A1 n1 c1 ks) (O2 : OW w4 T w2.heap.size A2 n2 c2 us) (D : Disj A1 A2)
    (D1 : Disj (some ⟨g, 0, none⟩) A1) (D2 : Disj (some ⟨g, 0, none⟩) A2) (hb : Below w2.heap.size w2 w4) (hg : w2.heap.size ≤ g) :
    CutB I T w2 (((w4.setCell ⟨g, 0, none⟩ (.int .i64 t)).setCell ⟨g, 1, none⟩ (.slice A1 n1 c1)).setCell ⟨g, 2, none⟩ (.slice A2 n2 c2)) g t ks us A1 n1 c1 A2 n2 c2 :=
  ⟨((G.set_ 0 _).set_ 1 _).set_ 2 _, ((O1.setCell2 (.inr D1) _).setCell2 (.inr D1) _).setCell2 (.inr D1) _, ((O2.setCell2 (.inr D2) _).setCell2 (.inr D2) _).setCell2 (.inr D2) _, D, D2, D1, ((hb.setCell hg _).setCell hg _).setCell hg _, hg⟩
theorem box_far {g : Nat} {A : Option Addr} {B : Nat} (h : g < B) (k : Ge A B) : Disj (some ⟨g, 0, none⟩) A := Disj.mk (B := B) (fun p hp => by cases hp; exact h) k
theorem box_up {g : Nat} {A : Option Addr} {B : Nat} (h : B ≤ g) (k : Lt A B) : Disj (some ⟨g, 0, none⟩) A := (Disj.mk (B := B) k (fun p hp => by cases hp; exact h)).symm
set_option maxHeartbeats 4000000 in
theorem spec_TakeCredit_main {A : Option Addr} {b' off' c c' : Nat} {ks us : List Int} (t s u : Int) (j : Nat) (w : World) (h : IS w A 3 c ks) (h' : IS w (some ⟨b', off', none⟩) 3 c' us) (hj : j < 3) (hu1 : us[j]? = some u) (hu3 : 0 ≤ u) (hu4 : u ≤ 200)
    (hok : tcOK t ks us (j : Int) s = true) :
    Calls Try.prog 21 #[.agg #[.int .i64 t, .slice A 3 c, .slice (some ⟨b', off', none⟩) 3 c'], .int .i64 (j : Int), .int .i64 s] w (GaveBudB 3 w (tcT t ks us (j : Int) s) (tcK t ks us (j : Int) s) (tcU t ks us (j : Int) s) (tcOK t ks us (j : Int) s)) := by
  obtain ⟨g1, g2, g3, g4⟩ := tcOK_iff.1 hok
  obtain ⟨g5, g6⟩ := g3
  have H := Lib.hid h
  have H' := Lib.hid h'
  have HK := Lib.hid hok
  have HV := Lib.hid g1
  have HC := Lib.hid g2
  have HU := Lib.hid hu1
  have hj1 : (j : Int) < 3 := by omega
  obtain ⟨R, hR⟩ : ∃ R, roomL t ks us (j : Int) = R := ⟨_, rfl⟩
  rw [hR] at g4
  have g9 : ¬ R < s := by omega
  have g10 : decide (R < s) = false := decide_eq_false g9
  have HR := Lib.hid hR
  have HS := Lib.hid (inR_t g5 g6)
  clear h h' hok g1 g2 hu1 hR
  go_enter Try.func21, Try.ntmps21
  go_wp2_with (fail)
  refine (call_b (spec_validBudget_any t _ ((H.out.alloc _).alloc _) ((H'.out.alloc _).alloc _)) HV.out).mono ?_
  rintro e w1 ⟨rfl, hb⟩
  have B1 := Lib.hid (Below.trans (((Below.refl w.heap.size w).alloc (Nat.le_refl _) _).alloc (by simp) _) (hb.mono (by simp; try omega)))
  have P1 : Hid (Blk w1 w.heap.size 33 #[.int .i64 t, .slice A 3 c, .slice (some ⟨b', off', none⟩) 3 c']) := Lib.hid (((Blk.new w _ _).alloc _).on hb)
  have Q1 : Hid (Blk w1 (w.heap.size + 1) 33 #[.int .i64 0, .slice none 0 0, .slice none 0 0]) := Lib.hid ((by simpa using Blk.new (w.alloc (.cells #[.int .i64 t, .slice A 3 c, .slice (some ⟨b', off', none⟩) 3 c'] 33)) 33 #[.int .i64 0, .slice none 0 0, .slice none 0 0] : Blk _ (w.heap.size + 1) _ _).on hb)
  have hz1 := hb.size
  simp at hz1
  clear hb
  obtain ⟨p0, p1, p2⟩ := P1.out.c3
  go_upto_region 3 with (first | (go_at_call 41; with_reducible refine (call_b (spec_inRange_any (j : Int) 0 2 _) HC.out).mono ?_; rintro e w' ⟨rfl, rfl⟩) | (go_at_call 41; with_reducible refine (call_b (spec_inRange_any s 0 200 _) HS.out).mono ?_; rintro e w' ⟨rfl, rfl⟩) | (go_at_call 42; refine (call_int (spec_roomFor_any t (j : Int) _ (H.out.below B1.out (Nat.le_refl _)) (H'.out.below B1.out (Nat.le_refl _)) HV.out HC.out) HR.out).mono ?_; rintro e w2 ⟨rfl, hb⟩; have HB2 := Lib.hid hb; clear hb p0 p1 p2))
  have B2 := Lib.hid (B1.out.trans (HB2.out.mono B1.out.size))
  have P2 := Lib.hid (P1.out.on HB2.out)
  have Q2 := Lib.hid (Q1.out.on HB2.out)
  have hz2 : w.heap.size + 1 + 1 ≤ w2.heap.size := by have := HB2.out.size; omega
  have H2 := Lib.hid (H.out.below B2.out (Nat.le_refl _))
  have H2' := Lib.hid (H'.out.below B2.out (Nat.le_refl _))
  clear HB2 P1 Q1 B1
  go_cut [8] (fun s8 wx => ∃ (g : Nat) (A1 : Option Addr) (n1 c1 : Nat) (A2 : Option Addr) (n2 c2 : Nat), s8 = .pointer (some ⟨g, 0, none⟩) ∧ CutB 33 3 w2 wx g t ks us A1 n1 c1 A2 n2 c2)
  case first =>
    obtain ⟨p0, p1, p2⟩ := P2.out.c3
    go_region_held3 (fun w' => w'.cell? ⟨w.heap.size, 0, none⟩ = some (.int .i64 t) ∧ w'.cell? ⟨w.heap.size, 1, none⟩ = some (.slice A 3 c) ∧ w'.cell? ⟨w.heap.size, 2, none⟩ = some (.slice (some ⟨b', off', none⟩) 3 c'))
      (refine And.intro (cell_up (w := w2) ?_ p0) (And.intro (cell_up (w := w2) ?_ p1) (cell_up (w := w2) ?_ p2)) <;> (repeat' (first | exact HW3.out | exact HW.out | exact Below.refl _ _ | refine Below.drew ?_ | refine Below.alloc ?_ ?_ _ | refine Below.setCell ?_ ?_ _ | omega | (simp; done) | (simp; omega))))
      (first
       | (go_at_call 43; ((with_reducible refine (spec_copyInts_any (A := A) (c := c) _ (H2.out.below (by repeat (first | exact Below.refl _ _ | refine Below.drew ?_ | refine Below.alloc ?_ (by first | omega | (simp; done) | (simp; omega)) _)) (Nat.le_refl _)) (by omega)).mono ?_); rintro e w3 ⟨A1, n1, c1, rfl, ho, hb⟩; have HO := Lib.hid ho; have HW := Lib.hid (below_then (a := w2) (by repeat (first | exact Below.refl _ _ | refine Below.drew ?_ | refine Below.alloc ?_ (by first | omega | (simp; done) | (simp; omega)) _)) hb); have hz3 := HW.out.size; have hz3b := hb.size; (try simp at hz3b); have HB := Lib.hid hb; (try (have G3 := Lib.hid ((Blk.new w2 33 #[.int .i64 0, .slice none 0 0, .slice none 0 0]).on hb))); (try (have G3 := Lib.hid ((Blk.new w2 33 #[.int .i64 0, .slice none 0 0, .slice none 0 0]).drew.on hb))); clear ho hb))
       | (go_at_call 43; ((with_reducible refine (spec_copyInts_any (A := some ⟨b', off', none⟩) (c := c') _ (H2'.out.below (by repeat (first | exact HW.out | refine Below.drew ?_ | refine Below.alloc ?_ (by first | omega | (simp; done) | (simp; omega)) _)) (Nat.le_refl _)) (by omega)).mono ?_); rintro e w4 ⟨A2, n2, c2, rfl, ho, hb⟩; have HO2 := Lib.hid ho; have HW3 := Lib.hid (below_then (a := w2) (by repeat (first | exact HW.out | refine Below.drew ?_ | refine Below.alloc ?_ (by first | omega | (simp; done) | (simp; omega)) _)) hb); have hz4 := HW3.out.size; have hz4b := hb.size; (try simp at hz4b); have HB4 := Lib.hid hb; (try (have G4 := Lib.hid ((Blk.new w3 33 #[.int .i64 0, .slice none 0 0, .slice none 0 0]).on hb))); (try (have G4 := Lib.hid ((Blk.new w3 33 #[.int .i64 0, .slice none 0 0, .slice none 0 0]).drew.on hb))); (try (have G4 := Lib.hid (G3.out.on hb))); (try (have G4 := Lib.hid (G3.out.drew.on hb))); (try (obtain ⟨g40, g41, g42⟩ := G4.out.c3)); (try (have g43 := G4.out.frozen 0)); (try (have g44 := G4.out.frozen 1)); (try (have g45 := G4.out.frozen 2)); clear ho hb)))
    all_goals (go_wp2_with (fail); go_meet)
    · exact ⟨_, A1, n1, c1, A2, n2, c2, rfl, cut_new (HO.out.below HB4.out (Nat.le_refl _)) (HO2.out.base_le hz3) (Disj.mk HO.out.lt HO2.out.ge) HW3.out⟩
    · exact ⟨_, A1, n1, c1, A2, n2, c2, rfl, cut_set G4.out ((HO.out.alloc _).below HB4.out (Nat.le_refl _)) (HO2.out.base_le (by simp; omega)) (Disj.mk HO.out.lt (HO2.out.ge.mono (by simp))) (box_up (Nat.le_refl _) HO.out.lt) (box_far (Nat.lt_succ_self _) (HO2.out.ge.mono (by simp))) HW3.out hz3⟩
    · exact ⟨_, A1, n1, c1, A2, n2, c2, rfl, cut_set G4.out ((HO.out.below HB4.out (Nat.le_refl _)).base_le (by show w2.heap.size ≤ (w2.alloc _).heap.size; simp)) (HO2.out.base_le hz3) (Disj.mk HO.out.lt HO2.out.ge) (box_far (Nat.lt_succ_self _) (HO.out.ge.mono (by show w2.heap.size + 1 ≤ (w2.alloc _).heap.size; simp))) (box_far (by have := G3.out.lt; exact this) HO2.out.ge) HW3.out (Nat.le_refl _)⟩
  case rest =>
    obtain ⟨g, A1, n1, c1, A2, n2, c2, rfl, k0, o1, o2, d, d2, d1, bx, hg⟩ := hcut
    have hn2 : n2 = 3 := by have h1 := o2.len; have h2 := H'.out.len; omega
    subst hn2
    obtain ⟨g2, rfl, hg1, hg2⟩ := o2.pos (by omega)
    obtain ⟨_, _, v, e0, hx, hcv⟩ := o2.is.at_ hj
    simp only [Option.some.injEq, Addr.mk.injEq, and_true] at e0
    obtain ⟨rfl, rfl⟩ := e0
    obtain rfl : u = v := by have := HU.out; rw [this] at hx; injection hx
    rw [Nat.zero_add] at hcv
    have hf : wc.frozen? ⟨g2, j, none⟩ = false := World.ownsRow.frozenAt o2 j
    have hne : g ≠ g2 := fun e => d2 _ _ rfl rfl (by show g = g2; exact e)
    have KB := Lib.hid k0
    have O1 := Lib.hid o1
    have O2 := Lib.hid o2
    have D := Lib.hid d
    have D1 := Lib.hid d1
    have BX := Lib.hid (B2.out.trans (bx.mono B2.out.size))
    have QX := Lib.hid (Q2.out.on bx)
    have hsx := bx.size
    obtain ⟨k00, k01, k02⟩ := k0.c3
    clear k0 o1 o2 d d1 d2 bx hx
    go_wp2_with (fail)
    go_region
    have hg2q : w.heap.size + 1 ≠ g2 := by omega
    have K2 := Lib.hid (KB.out.far (p := ⟨g2, j, none⟩) hne (.int .i64 (u + s))).drew
    have Q3 := Lib.hid (QX.out.far (p := ⟨g2, j, none⟩) hg2q (.int .i64 (u + s))).drew
    have O2' := Lib.hid (O2.out.put (j := j) (u + s)).drew
    have O1' := Lib.hid (O1.out.setCell2 (p := ⟨g2, j, none⟩) (.inr (fun p q hp hq => by cases hp; exact fun e => D.out q ⟨g2, 0, none⟩ hq rfl e.symm)) (.int .i64 (u + s))).drew
    have B3 := Lib.hid (BX.out.setCell (p := ⟨g2, j, none⟩) (by show w.heap.size ≤ g2; omega) (.int .i64 (u + s))).drew
    clear k00 k01 k02 hcv hf
    obtain ⟨W3, eW⟩ : ∃ W, W = (wc.setCell ⟨g2, j, none⟩ (.int .i64 (u + s))).drew := ⟨_, rfl⟩
    rw [← eW] at K2 Q3 O2' O1' B3 ⊢
    clear eW
    obtain ⟨k00, k01, k02⟩ := K2.out.c3
    obtain ⟨q0, q1, q2⟩ := Q3.out.c3
    have f0 := Q3.out.frozen 0
    have f1 := Q3.out.frozen 1
    have f2 := Q3.out.frozen 2
    go_wp2_with (fail)
    refine bodyPost_ret (v := .tuple #[.agg #[.int .i64 t, .slice A1 n1 c1, .slice (some ⟨g2, 0, none⟩) 3 c2], .bool true]) (by simp [results, Try.results21, go_sem, q0, q1, q2]) rfl ?_
    refine ⟨A1, n1, c1, some ⟨g2, 0, none⟩, 3, c2, by simp [tcT, HK.out], ?_, ?_, D.out, ?_⟩
    · simp only [tcK, HK.out, if_true]
      refine OW.base_le (base := w2.heap.size) ?_ (by omega)
      repeat (refine OW.setCell ?_ (by show w.heap.size + 1 < _; omega) _)
      exact O1'.out
    · simp only [tcU, HK.out, if_true]
      unfold addL
      rw [Int.toNat_natCast, show us.getD j 0 = u by rw [List.getD_eq_getElem?_getD, HU.out]; rfl]
      refine OW.base_le (base := w2.heap.size) ?_ (by omega)
      repeat (refine OW.setCell ?_ (by show w.heap.size + 1 < _; omega) _)
      exact O2'.out
    · repeat' (first | exact B3.out | refine Below.setCell ?_ ?_ _ | (show w.heap.size ≤ _; first | omega | (simp; done) | (simp; omega)))
set_option maxHeartbeats 2000000 in
theorem spec_TakeCredit_any {A A' : Option Addr} {n c n' c' : Nat} {ks us : List Int} (t cl s : Int) (w : World) (h : IS w A n c ks) (h' : IS w A' n' c' us) :
    Calls Try.prog 21 #[.agg #[.int .i64 t, .slice A n c, .slice A' n' c'], .int .i64 cl, .int .i64 s] w (GaveBudB 3 w (tcT t ks us cl s) (tcK t ks us cl s) (tcU t ks us cl s) (tcOK t ks us cl s)) := by
  have H := Lib.hid h
  have H' := Lib.hid h'
  clear h h'
  rcases hv : validB t ks us with _ | _
  · have HK : Hid (tcOK t ks us cl s = false) := Lib.hid (by simp [tcOK, hv])
    go_enter Try.func21, Try.ntmps21
    go_wp2_with (fail)
    refine (call_b (spec_validBudget_any t _ ((H.out.alloc _).alloc _) ((H'.out.alloc _).alloc _)) hv).mono ?_
    rintro e w1 ⟨rfl, hb⟩
    have B1 := Lib.hid (Below.trans (((Below.refl w.heap.size w).alloc (Nat.le_refl _) _).alloc (by simp) _) (hb.mono (by simp; try omega)))
    have P1 : Hid (Blk w1 w.heap.size 33 #[.int .i64 t, .slice A n c, .slice A' n' c']) := Lib.hid (((Blk.new w _ _).alloc _).on hb)
    have Q1 : Hid (Blk w1 (w.heap.size + 1) 33 #[.int .i64 0, .slice none 0 0, .slice none 0 0]) := Lib.hid ((by simpa using Blk.new (w.alloc (.cells #[.int .i64 t, .slice A n c, .slice A' n' c'] 33)) 33 #[.int .i64 0, .slice none 0 0, .slice none 0 0] : Blk _ (w.heap.size + 1) _ _).on hb)
    clear hb
    obtain ⟨p0, p1, p2⟩ := P1.out.c3
    obtain ⟨q0, q1, q2⟩ := Q1.out.c3
    have f0 := Q1.out.frozen 0
    have f1 := Q1.out.frozen 1
    have f2 := Q1.out.frozen 2
    go_wp2_with (fail)
    refine bodyPost_ret (v := .tuple #[.agg #[.int .i64 0, .slice none 0 0, .slice none 0 0], .bool false]) (by simp [results, Try.results21, go_sem, q0, q1, q2]) rfl ?_
    refine gaveBud_f (by simp [tcT, HK.out]) (by simp [tcK, HK.out]) (by simp [tcU, HK.out]) (by first | rfl | exact HK.out) ?_
    repeat' (first | exact B1.out | refine Below.setCell ?_ ?_ _ | (show w.heap.size ≤ _; first | omega | (simp; done) | (simp; omega)))
  rcases hc : inR cl 0 2 with _ | _
  · have HK : Hid (tcOK t ks us cl s = false) := Lib.hid (by simp [tcOK, hc])
    go_enter Try.func21, Try.ntmps21
    go_wp2_with (fail)
    refine (call_b (spec_validBudget_any t _ ((H.out.alloc _).alloc _) ((H'.out.alloc _).alloc _)) hv).mono ?_
    rintro e w1 ⟨rfl, hb⟩
    have B1 := Lib.hid (Below.trans (((Below.refl w.heap.size w).alloc (Nat.le_refl _) _).alloc (by simp) _) (hb.mono (by simp; try omega)))
    have P1 : Hid (Blk w1 w.heap.size 33 #[.int .i64 t, .slice A n c, .slice A' n' c']) := Lib.hid (((Blk.new w _ _).alloc _).on hb)
    have Q1 : Hid (Blk w1 (w.heap.size + 1) 33 #[.int .i64 0, .slice none 0 0, .slice none 0 0]) := Lib.hid ((by simpa using Blk.new (w.alloc (.cells #[.int .i64 t, .slice A n c, .slice A' n' c'] 33)) 33 #[.int .i64 0, .slice none 0 0, .slice none 0 0] : Blk _ (w.heap.size + 1) _ _).on hb)
    clear hb
    obtain ⟨p0, p1, p2⟩ := P1.out.c3
    obtain ⟨q0, q1, q2⟩ := Q1.out.c3
    have f0 := Q1.out.frozen 0
    have f1 := Q1.out.frozen 1
    have f2 := Q1.out.frozen 2
    go_wp2_with (go_at_call 41; refine (call_b (spec_inRange_any _ _ _ _) hc).mono ?_; rintro e w' ⟨rfl, rfl⟩)
    refine bodyPost_ret (v := .tuple #[.agg #[.int .i64 0, .slice none 0 0, .slice none 0 0], .bool false]) (by simp [results, Try.results21, go_sem, q0, q1, q2]) rfl ?_
    refine gaveBud_f (by simp [tcT, HK.out]) (by simp [tcK, HK.out]) (by simp [tcU, HK.out]) (by first | rfl | exact HK.out) ?_
    repeat' (first | exact B1.out | refine Below.setCell ?_ ?_ _ | (show w.heap.size ≤ _; first | omega | (simp; done) | (simp; omega)))
  rcases hs : inR s 0 200 with _ | _
  · have HK : Hid (tcOK t ks us cl s = false) := Lib.hid (by simp [tcOK, hs])
    go_enter Try.func21, Try.ntmps21
    go_wp2_with (fail)
    refine (call_b (spec_validBudget_any t _ ((H.out.alloc _).alloc _) ((H'.out.alloc _).alloc _)) hv).mono ?_
    rintro e w1 ⟨rfl, hb⟩
    have B1 := Lib.hid (Below.trans (((Below.refl w.heap.size w).alloc (Nat.le_refl _) _).alloc (by simp) _) (hb.mono (by simp; try omega)))
    have P1 : Hid (Blk w1 w.heap.size 33 #[.int .i64 t, .slice A n c, .slice A' n' c']) := Lib.hid (((Blk.new w _ _).alloc _).on hb)
    have Q1 : Hid (Blk w1 (w.heap.size + 1) 33 #[.int .i64 0, .slice none 0 0, .slice none 0 0]) := Lib.hid ((by simpa using Blk.new (w.alloc (.cells #[.int .i64 t, .slice A n c, .slice A' n' c'] 33)) 33 #[.int .i64 0, .slice none 0 0, .slice none 0 0] : Blk _ (w.heap.size + 1) _ _).on hb)
    clear hb
    obtain ⟨p0, p1, p2⟩ := P1.out.c3
    obtain ⟨q0, q1, q2⟩ := Q1.out.c3
    have f0 := Q1.out.frozen 0
    have f1 := Q1.out.frozen 1
    have f2 := Q1.out.frozen 2
    go_wp2_with (first | (go_at_call 41; ((with_reducible refine (call_b (spec_inRange_any cl 0 2 _) hc).mono ?_); rintro e w' ⟨rfl, rfl⟩)) | (go_at_call 41; ((with_reducible refine (call_b (spec_inRange_any s 0 200 _) hs).mono ?_); rintro e w' ⟨rfl, rfl⟩)))
    refine bodyPost_ret (v := .tuple #[.agg #[.int .i64 0, .slice none 0 0, .slice none 0 0], .bool false]) (by simp [results, Try.results21, go_sem, q0, q1, q2]) rfl ?_
    refine gaveBud_f (by simp [tcT, HK.out]) (by simp [tcK, HK.out]) (by simp [tcU, HK.out]) (by first | rfl | exact HK.out) ?_
    repeat' (first | exact B1.out | refine Below.setCell ?_ ?_ _ | (show w.heap.size ≤ _; first | omega | (simp; done) | (simp; omega)))
  obtain ⟨hc0, hc1⟩ := inR_iff.1 hc
  obtain ⟨hs0, hs1⟩ := inR_iff.1 hs
  obtain ⟨j, rfl⟩ := Int.eq_ofNat_of_zero_le hc0
  have hj : j < 3 := by omega
  obtain ⟨u, hu1, hu2, hu3, hu4⟩ := cnt_at (validB_iff.1 hv).2.2.1 hj
  rcases Int.lt_or_le (roomL t ks us (j : Int)) s with hr | hr
  · have HK : Hid (tcOK t ks us (j : Int) s = false) := Lib.hid (by
      rcases h : tcOK t ks us (j : Int) s with _ | _
      · rfl
      · have := (tcOK_iff.1 h).2.2.2; omega)
    obtain ⟨R, hR⟩ : ∃ R, roomL t ks us (j : Int) = R := ⟨_, rfl⟩
    rw [hR] at hr
    have HR := Lib.hid hR
    have hd : decide (R < s) = true := decide_eq_true hr
    have HV := Lib.hid hv
    have HC := Lib.hid hc
    have HS := Lib.hid hs
    clear hv hc hs hu1 hu2 hR
    go_enter Try.func21, Try.ntmps21
    go_wp2_with (fail)
    refine (call_b (spec_validBudget_any t _ ((H.out.alloc _).alloc _) ((H'.out.alloc _).alloc _)) HV.out).mono ?_
    rintro e w1 ⟨rfl, hb⟩
    have B1 := Lib.hid (Below.trans (((Below.refl w.heap.size w).alloc (Nat.le_refl _) _).alloc (by simp) _) (hb.mono (by simp; try omega)))
    have P1 : Hid (Blk w1 w.heap.size 33 #[.int .i64 t, .slice A n c, .slice A' n' c']) := Lib.hid (((Blk.new w _ _).alloc _).on hb)
    have Q1 : Hid (Blk w1 (w.heap.size + 1) 33 #[.int .i64 0, .slice none 0 0, .slice none 0 0]) := Lib.hid ((by simpa using Blk.new (w.alloc (.cells #[.int .i64 t, .slice A n c, .slice A' n' c'] 33)) 33 #[.int .i64 0, .slice none 0 0, .slice none 0 0] : Blk _ (w.heap.size + 1) _ _).on hb)
    clear hb
    obtain ⟨p0, p1, p2⟩ := P1.out.c3
    obtain ⟨q0, q1, q2⟩ := Q1.out.c3
    have f0 := Q1.out.frozen 0
    have f1 := Q1.out.frozen 1
    have f2 := Q1.out.frozen 2
    go_wp2_with (first | (go_at_call 41; ((with_reducible refine (call_b (spec_inRange_any (j : Int) 0 2 _) HC.out).mono ?_); rintro e w' ⟨rfl, rfl⟩)) | (go_at_call 41; ((with_reducible refine (call_b (spec_inRange_any s 0 200 _) HS.out).mono ?_); rintro e w' ⟨rfl, rfl⟩)) | (go_at_call 42; refine (call_int (spec_roomFor_any t (j : Int) _ (H.out.below B1.out (Nat.le_refl _)) (H'.out.below B1.out (Nat.le_refl _)) HV.out HC.out) HR.out).mono ?_; rintro e w2 ⟨rfl, hb⟩; have Q2 := Lib.hid (Q1.out.on hb); have B2 := Lib.hid (B1.out.trans (hb.mono B1.out.size)); clear hb p0 p1 p2 q0 q1 q2 f0 f1 f2; obtain ⟨q0, q1, q2⟩ := Q2.out.c3; have f0 := Q2.out.frozen 0; have f1 := Q2.out.frozen 1; have f2 := Q2.out.frozen 2))
    refine bodyPost_ret (v := .tuple #[.agg #[.int .i64 0, .slice none 0 0, .slice none 0 0], .bool false]) (by simp [results, Try.results21, go_sem, q0, q1, q2]) rfl ?_
    refine gaveBud_f (by simp [tcT, HK.out]) (by simp [tcK, HK.out]) (by simp [tcU, HK.out]) (by first | rfl | exact HK.out) ?_
    repeat' (first | exact B2.out | refine Below.setCell ?_ ?_ _ | (show w.heap.size ≤ _; first | omega | (simp; done) | (simp; omega)))
  · obtain rfl : n = 3 := H.out.len ▸ (validB_len hv).1
    obtain rfl : n' = 3 := H'.out.len ▸ (validB_len hv).2
    obtain ⟨b', off', y, rfl, _, _⟩ := H'.out.at_ hj
    exact spec_TakeCredit_main t s u j w H.out H'.out hj hu1 hu3 hu4 (tcOK_iff.2 ⟨hv, hc, ⟨hs0, hs1⟩, hr⟩)
end Go.Proofs.Ytcbphifadokfeaa
