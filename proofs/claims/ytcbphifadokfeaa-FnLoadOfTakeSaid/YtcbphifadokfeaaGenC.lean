/-
  Drawn budgets: someBudget.
-/
import Derived.Test.YtcbphifadokfeaaGenB
import Derived.Test.YtcbphifadokfeaaBudE
namespace Go.Proofs.Ytcbphifadokfeaa
open Go.RowKit
attribute [local go_sem ↓] Go.wp_at_zero Go.wp_at_succ

theorem Rd.drew {a w : World} {r : Nat} (h : Rd a w r) : Rd a w.drew r := ⟨h.os, h.tape, h.output, h.size, h.block⟩
theorem cell_rd {w W : World} {r : Nat} {a : Addr} {v : Value} (hg : Rd w W r) (hne : a.block ≠ r) (h : w.cell? a = some v) : W.cell? a = some v :=
  (World.cell?_of_block (hg.block a.block (World.block_lt_of_cell? w a h) (fun e => hne (by injection e)))).trans h
/-- A budget of the call's own in block x. -/
def BudAt (T I : TypeId) (wx : World) (base x : Nat) : Prop :=
  ∃ (t : Int) (ks us : List Int) (A : Option Addr) (n c : Nat) (A' : Option Addr) (n' c' : Nat), n ≤ 3 ∧ n' ≤ 3 ∧ Blk wx x I #[.int .i64 t, .slice A n c, .slice A' n' c'] ∧ OW wx T base A n c ks ∧ OW wx T base A' n' c' us ∧ Disj A A' ∧ Disj (some ⟨x, 0, none⟩) A ∧ Disj (some ⟨x, 0, none⟩) A'
theorem BudAt.rd {T I : TypeId} {w w' : World} {base x r : Nat} (h : BudAt T I w base x) (hg : Rd w w' r) (hr : r < base) (hx : x ≠ r) : BudAt T I w' base x := by
  obtain ⟨t, ks, us, A, n, c, A', n', c', h1, h2, hk, o1, o2, d, d1, d2⟩ := h
  exact ⟨t, ks, us, A, n, c, A', n', c', h1, h2, hk.rd hg hx, o1.rd hg hr, o2.rd hg hr, d, d1, d2⟩
/-- What stands at the head of each round of someBudget. -/
def StB (T I R : TypeId) (w wx : World) (r N x : Nat) : Prop :=
  BudAt T I wx (w.heap.size + 1) x ∧ Blk wx w.heap.size I #[.int .i64 0, .slice none 0 0, .slice none 0 0] ∧ RD wx R r N ∧ Rd w wx r ∧ w.heap.size < x
theorem StB.rd {T I R : TypeId} {w wx wy : World} {r N M x : Nat} (h : StB T I R w wx r N x) (hg : Rd wx wy r) (hr : r < w.heap.size) (hd : RD wy R r M) : StB T I R w wy r M x := by
  obtain ⟨h1, h2, h3, h4, h5⟩ := h
  exact ⟨h1.rd hg (by omega) (by omega), h2.rd hg (by omega), hd, h4.trans hg, h5⟩
/-- The next budget in a block of its own. -/
def NxB (T I R : TypeId) (wr wx : World) (r M g : Nat) : Prop := Rd wr wx r ∧ RD wx R r M ∧ wr.heap.size ≤ g ∧ BudAt T I wx wr.heap.size g
theorem nx_new {T I R : TypeId} {wr w3 : World} {r M : Nat} {t : Int} {ks us : List Int} {A1 A2 : Option Addr} {n1 c1 n2 c2 : Nat} (O1 : OW w3 T wr.heap.size A1 n1 c1 ks) (O2 : OW w3 T wr.heap.size A2 n2 c2 us) (D : Disj A1 A2) (hn1 : n1 ≤ 3) (hn2 : n2 ≤ 3)
    (hg : Rd wr w3 r) (hd : RD w3 R r M) : NxB T I R wr (w3.alloc (.cells #[.int .i64 t, .slice A1 n1 c1, .slice A2 n2 c2] I)) r M w3.heap.size :=
  ⟨hg.alloc _, hd.below ((below_new w3 _).mono hd.lt), hg.size, t, ks, us, A1, n1, c1, A2, n2, c2, hn1, hn2, Blk.new _ _ _, O1.alloc _, O2.alloc _, D, (Disj.mk O1.lt (fun p hp => by cases hp; exact Nat.le_refl _)).symm, (Disj.mk O2.lt (fun p hp => by cases hp; exact Nat.le_refl _)).symm⟩
theorem nx_set {T I R : TypeId} {wr w3 : World} {r M g B : Nat} {t : Int} {ks us : List Int} {A1 A2 : Option Addr} {n1 c1 n2 c2 : Nat} (G : Blk w3 g I #[.int .i64 0, .slice none 0 0, .slice none 0 0]) (O1 : OW w3 T B A1 n1 c1 ks) (O2 : OW w3 T B A2 n2 c2 us) (D : Disj A1 A2) (hn1 : n1 ≤ 3) (hn2 : n2 ≤ 3)
    (hgB : g < B) (hwg : wr.heap.size ≤ g) (hr : r < wr.heap.size) (hg : Rd wr w3 r) (hd : RD w3 R r M) :
    NxB T I R wr (((w3.setCell ⟨g, 0, none⟩ (.int .i64 t)).setCell ⟨g, 1, none⟩ (.slice A1 n1 c1)).setCell ⟨g, 2, none⟩ (.slice A2 n2 c2)) r M g :=
  ⟨((hg.setCell hwg _).setCell hwg _).setCell hwg _, hd.below ((((Below.refl _ _).setCell (by show r + 1 ≤ g; omega) _).setCell (by show r + 1 ≤ g; omega) _).setCell (by show r + 1 ≤ g; omega) _), hwg,
    t, ks, us, A1, n1, c1, A2, n2, c2, hn1, hn2, ((G.set_ 0 _).set_ 1 _).set_ 2 _, ((((O1.setCell hgB _).setCell hgB _).setCell hgB _)).base_le (by omega), ((((O2.setCell hgB _).setCell hgB _).setCell hgB _)).base_le (by omega), D, box_far hgB O1.ge, box_far hgB O2.ge⟩
/-- A drawn budget. -/
def DrewBud (T R : TypeId) (w : World) (r N : Nat) (e : Ending) (w' : World) : Prop :=
  ∃ t ks us A n c A' n' c', e = .returned (.agg #[.int .i64 t, .slice A n c, .slice A' n' c']) ∧ n ≤ 3 ∧ n' ≤ 3 ∧ OW w' T w.heap.size A n c ks ∧ OW w' T w.heap.size A' n' c' us ∧ Disj A A' ∧ RD w' R r N ∧ Rd w w' r
set_option maxHeartbeats 8000000 in
theorem someBudget_any (r N : Nat) (w : World) (h : RD w 62 r N) (hN : N ≤ 800000) :
    Calls Try.prog 50 #[.pointer (some ⟨r, 0, none⟩)] w (DrewBud 3 62 w r (N + 21)) := by
  have hr := h.lt
  have H := Lib.hid h
  clear h
  go_enter Try.func50, Try.ntmps50
  go_wp2_with (fail)
  refine (one_any (xs := [30, 50, 100, 200, 0]) (fun x => 0 ≤ x ∧ x ≤ 200) r N _ (H.out.below (((below_new w _).trans ((below_new _ _).mono (by simp))).mono (by omega))) (by omega) (by simpa using OW.lit (w.alloc (.cells #[.int .i64 0, .slice none 0 0, .slice none 0 0] 33)) 3 (r + 1) [30, 50, 100, 200, 0] (by simp; omega) (by simp)) (by omega) (by omega) (by simp)).mono ?_
  rintro e w1 ⟨t, rfl, ⟨ht0, ht1⟩, hr1, hw1⟩
  have R1 := Lib.hid hr1
  have W1 := Lib.hid ((Rd.of_below ((below_new w (.cells #[.int .i64 0, .slice none 0 0, .slice none 0 0] 33)).trans ((below_new _ (.cells #[.int .i64 30, .int .i64 50, .int .i64 100, .int .i64 200, .int .i64 0] 3)).mono (by simp)))).trans hw1)
  have Q1 := Lib.hid (((Blk.new w 33 #[.int .i64 0, .slice none 0 0, .slice none 0 0]).alloc (.cells #[.int .i64 30, .int .i64 50, .int .i64 100, .int .i64 200, .int .i64 0] 3)).rd hw1 (by omega))
  have hz1 := hw1.size
  simp at hz1
  have b3 : Hid (Below w1.heap.size w1 (((w1.alloc (.cells #[.int .i64 0, .int .i64 0, .int .i64 0] 3)).alloc (.cells #[.int .i64 0, .int .i64 0, .int .i64 0] 3)).alloc (.cells #[.int .i64 t, .slice (some ⟨w1.heap.size, 0, none⟩) 3 3, .slice (some ⟨w1.heap.size + 1, 0, none⟩) 3 3] 33))) :=
    Lib.hid ((((Below.refl _ _).alloc (Nat.le_refl _) _).alloc (by simp) _).alloc (by simp; try omega) _)
  have HI : Hid (StB 3 33 62 w (((w1.alloc (.cells #[.int .i64 0, .int .i64 0, .int .i64 0] 3)).alloc (.cells #[.int .i64 0, .int .i64 0, .int .i64 0] 3)).alloc (.cells #[.int .i64 t, .slice (some ⟨w1.heap.size, 0, none⟩) 3 3, .slice (some ⟨w1.heap.size + 1, 0, none⟩) 3 3] 33)) r (N + 1) (w1.heap.size + 1 + 1)) := Lib.hid (by
    refine ⟨⟨t, [0, 0, 0], [0, 0, 0], some ⟨w1.heap.size, 0, none⟩, 3, 3, some ⟨w1.heap.size + 1, 0, none⟩, 3, 3, Nat.le_refl _, Nat.le_refl _, ?_, ?_, ?_, ?_, ?_, ?_⟩, Q1.out.on b3.out, R1.out.below (b3.out.mono (by omega)), W1.out.trans (Rd.of_below b3.out), by omega⟩
    · have h := Blk.new ((w1.alloc (.cells #[.int .i64 0, .int .i64 0, .int .i64 0] 3)).alloc (.cells #[.int .i64 0, .int .i64 0, .int .i64 0] 3)) 33 #[.int .i64 t, .slice (some ⟨w1.heap.size, 0, none⟩) 3 3, .slice (some ⟨w1.heap.size + 1, 0, none⟩) 3 3]
      simpa using h
    · have h : OW (w1.alloc (.cells #[.int .i64 0, .int .i64 0, .int .i64 0] 3)) 3 (w.heap.size + 1) (some ⟨w1.heap.size, 0, none⟩) 3 3 [0, 0, 0] := by simpa using OW.lit w1 3 (w.heap.size + 1) [0, 0, 0] (by omega) (by simp)
      exact (h.alloc _).alloc _
    · have h : OW ((w1.alloc (.cells #[.int .i64 0, .int .i64 0, .int .i64 0] 3)).alloc (.cells #[.int .i64 0, .int .i64 0, .int .i64 0] 3)) 3 (w.heap.size + 1) (some ⟨w1.heap.size + 1, 0, none⟩) 3 3 [0, 0, 0] := by simpa using OW.lit (w1.alloc (.cells #[.int .i64 0, .int .i64 0, .int .i64 0] 3)) 3 (w.heap.size + 1) [0, 0, 0] (by simp; omega) (by simp)
      exact h.alloc _
    · exact fun p q hp hq => by cases hp; cases hq; simp
    · exact fun p q hp hq => by cases hp; cases hq; simp; omega
    · exact fun p q hp hq => by cases hp; cases hq; simp)
  clear hr1 hw1
  go_upto_if 15 with (fail)
  go_cut [] (fun wx => Hid (StB 3 33 62 w wx r (N + 4) (w1.heap.size + 1 + 1)))
  case first =>
    rcases Int.lt_or_le 0 t with ht | ht
    · obtain ⟨wx, eW⟩ : ∃ v : World, v = (((w1.alloc (.cells #[.int .i64 0, .int .i64 0, .int .i64 0] 3)).alloc (.cells #[.int .i64 0, .int .i64 0, .int .i64 0] 3)).alloc (.cells #[.int .i64 t, .slice (some ⟨w1.heap.size, 0, none⟩) 3 3, .slice (some ⟨w1.heap.size + 1, 0, none⟩) 3 3] 33)) := ⟨_, rfl⟩
      rw [← eW] at HI ⊢
      clear eW b3 R1 W1 Q1
      generalize w1.heap.size + 1 + 1 = x at *
      obtain ⟨⟨t0, ks, us, A, n, c, A', n', c', hn, hn', x0, o1, o2, d, d1, d2⟩, q0, r0, rw0, hx⟩ := HI.out
      have X0 := Lib.hid x0
      have O2 := Lib.hid o2
      have D2 := Lib.hid d2
      have Q0 := Lib.hid q0
      have R0 := Lib.hid r0
      have W0 := Lib.hid rw0
      have hrl := r0.lt
      have hxr : x ≠ r := by omega
      have hxl := x0.lt
      have hqx : w.heap.size ≠ r := by omega
      have hwl := q0.lt
      clear x0 o1 o2 d d1 d2 q0 r0 rw0 HI
      go_wp2_with (fail)
      refine (pick_any r _ 10 _ R0.out (by omega) (by omega)).mono ?_
      rintro e w2 ⟨k1, rfl, _, _, hr2, hw2⟩
      have R2 := Lib.hid hr2
      have W2 := Lib.hid hw2
      clear hr2 hw2
      go_wp2_with (fail)
      refine (pick_any r _ 6 _ R2.out (by omega) (by omega)).mono ?_
      rintro e w3 ⟨k2, rfl, _, _, hr3, hw3⟩
      have R3 := Lib.hid hr3
      have W3 := Lib.hid (W2.out.trans hw3)
      clear hr3 hw3
      go_wp2_with (fail)
      refine (pick_any r _ 4 _ R3.out (by omega) (by omega)).mono ?_
      rintro e w4 ⟨k3, rfl, _, _, hr4, hw4⟩
      have R4 := Lib.hid hr4
      have W4 := Lib.hid (W3.out.trans hw4)
      have hz4 := W4.out.size
      have X4 := Lib.hid (X0.out.rd W4.out hxr)
      have O4 := Lib.hid (O2.out.rd W4.out (by omega))
      clear hr4 hw4
      obtain ⟨x4a, x4b, x4c⟩ := X4.out.c3
      have f1 := X4.out.frozen 1
      have hxx : x + 1 ≤ w4.heap.size := by omega
      have hxl4 : x < w4.heap.size := by omega
      have hxn4 : ¬ x = w4.heap.size := by omega
      go_wp2_with (fail)
      go_meet
      refine Lib.hid ⟨⟨t0, [k1, k2, k3], us, some ⟨w4.heap.size, 0, none⟩, 3, 3, A', n', c', Nat.le_refl _, hn', (X4.out.set_ 1 _).alloc _, ?_, (O4.out.setCell2 (p := ⟨x, 1, none⟩) (.inr D2.out) _).alloc _, ?_, ?_, D2.out⟩, ?_, ?_, ?_, hx⟩
      · have h := OW.lit (w4.setCell ⟨x, 1, none⟩ (.slice (some ⟨w4.heap.size, 0, none⟩) 3 3)) 3 (w.heap.size + 1) [k1, k2, k3] (by simp [World.setCell]; omega) (by simp)
        simpa [World.setCell] using h
      · exact (Disj.mk O4.out.lt (fun p hp => by cases hp; exact Nat.le_refl _)).symm
      · exact fun p q hp hq => by cases hp; cases hq; simp; omega
      · exact ((Q0.out.rd W4.out hqx).far (p := ⟨x, 1, none⟩) (by show w.heap.size ≠ x; omega) _).alloc _
      · exact (R4.out.below (((Below.refl _ _).setCell (p := ⟨x, 1, none⟩) (by show r + 1 ≤ x; omega) _).alloc (by simp [World.setCell]; omega) _)).mono (by omega)
      · exact ((W0.out.trans W4.out).setCell (p := ⟨x, 1, none⟩) (by show w.heap.size ≤ x; omega) _).alloc _
    · have ht' : ¬ 0 < t := by omega
      go_wp2_with (fail)
      go_meet
      exact Lib.hid (by obtain ⟨h1, h2, h3, h4, h5⟩ := HI.out; exact ⟨h1, h2, h3.mono (by omega), h4, h5⟩)
  case rest =>
    have HS := Lib.hid hcut.out
    have hxx : w.heap.size < w1.heap.size + 1 + 1 := by omega
    generalize hX : w1.heap.size + 1 + 1 = x at *
    clear hX HI b3 Q1 R1 W1 hcut
    have RC := Lib.hid HS.out.2.2.1
    have hrc : r < wc.heap.size := RC.out.lt
    go_wp2_with (fail)
    refine (one_any (xs := [4, 6, 2, 0, 8]) (fun x => 0 ≤ x ∧ x ≤ 8) r _ _ (RC.out.below ((below_new wc _).mono (by omega))) (by omega) (by simpa using OW.lit wc 3 (r + 1) [4, 6, 2, 0, 8] (by omega) (by simp)) (by omega) (by omega) (by simp)).mono ?_
    rintro e w4 ⟨j0, rfl, ⟨hj0, hj8⟩, hr4, hw4⟩
    obtain ⟨j, rfl⟩ := Int.eq_ofNat_of_zero_le hj0
    have HS4 := Lib.hid (HS.out.rd ((Rd.of_below (below_new wc _)).trans hw4) hr hr4)
    clear hr4 hw4 HS RC hrc
    go_wp2_with (fail)
    go_loopw [4] (fun i wr => ∃ j : Nat, i = .int .i64 j ∧ j ≤ 8 ∧ Hid (StB 3 33 62 w wr r (N + 21 - 2 * j) x)) (fun i _ => (intOf i).toNat)
    case atStart => exact ⟨j, rfl, by omega, Lib.hid (by obtain ⟨h1, h2, h3, h4, h5⟩ := HS4.out; exact ⟨h1, h2, h3.mono (by omega), h4, h5⟩)⟩
    case round =>
      obtain ⟨j', rfl, hj', HS⟩ := hrel
      clear HS4
      obtain ⟨⟨t0, ks, us, A, n, c, A', n', c', hn, hn', x0, o1, o2, d, d1, d2⟩, q0, r0, rw0, hx⟩ := HS.out
      have HX := Lib.hid x0
      have O1 := Lib.hid o1
      have O2 := Lib.hid o2
      have HQ := Lib.hid q0
      have HR := Lib.hid r0
      have HW := Lib.hid rw0
      have D := Lib.hid d
      have hrl := r0.lt
      have hxr : x ≠ r := by omega
      have hxl := x0.lt
      have hqx : w.heap.size ≠ r := by omega
      have hwl := q0.lt
      clear x0 o1 o2 q0 r0 rw0 d d1 d2
      obtain ⟨ka, kb, kc⟩ := HX.out.c3
      by_cases hlt : 0 < j'
      · go_upto_region 7 with (fail)
        go_cut [5, 6] (fun s5 s6 wx => ∃ (g : Nat) (ok : Bool), s5 = .pointer (some ⟨g, 0, none⟩) ∧ s6 = .bool ok ∧ Hid (NxB 3 33 62 wr wx r (N + 21 - 2 * j' + 2) g))
        case first =>
          go_region_held3 (fun w' => w'.cell? ⟨x, 0, none⟩ = some (.int .i64 t0) ∧ w'.cell? ⟨x, 1, none⟩ = some (.slice A n c) ∧ w'.cell? ⟨x, 2, none⟩ = some (.slice A' n' c'))
            (refine And.intro (cell_rd (w := wr) ?_ hxr ka) (And.intro (cell_rd (w := wr) ?_ hxr kb) (cell_rd (w := wr) ?_ hxr kc)) <;> (repeat' (first | exact W3.out | exact W2.out | exact W1.out | exact Rd.refl _ _ | refine Rd.drew ?_ | refine Rd.alloc ?_ _ | refine Rd.setCell ?_ ?_ _ | omega | (simp; done) | (simp; omega))))
            (first
             | (go_at_call 49; ((with_reducible refine (pick_any r _ 3 _ (HR.out.below (by repeat (first | exact Below.refl _ _ | refine Below.drew ?_ | refine Below.alloc ?_ (by first | omega | (simp; done) | (simp; omega)) _))) (by omega) (by omega)).mono ?_); rintro e w1' ⟨k1, rfl, _, _, hr1, hw1⟩; have R1 := Lib.hid hr1; have W1 := Lib.hid ((Rd.of_below (a := wr) (by repeat (first | exact Below.refl _ _ | refine Below.drew ?_ | refine Below.alloc ?_ (by first | omega | (simp; done) | (simp; omega)) _))).trans hw1); have z1 := W1.out.size; (try (have G1 := Lib.hid ((Blk.new wr 33 #[.int .i64 0, .slice none 0 0, .slice none 0 0]).rd hw1 (by omega)))); (try (have G1 := Lib.hid ((Blk.new wr 33 #[.int .i64 0, .slice none 0 0, .slice none 0 0]).drew.rd hw1 (by omega)))); clear hr1 hw1))
             | (go_at_call 49; ((with_reducible refine (pick_any r _ 20 _ (R1.out.below (by repeat (first | exact Below.refl _ _ | refine Below.drew ?_ | refine Below.alloc ?_ (by first | omega | (simp; done) | (simp; omega)) _))) (by omega) (by omega)).mono ?_); rintro e w2' ⟨k2, rfl, _, _, hr2, hw2⟩; have R2 := Lib.hid hr2; have z1r := R1.out.lt; have W2 := Lib.hid (W1.out.trans ((Rd.of_below (a := w1') (by repeat (first | exact Below.refl _ _ | refine Below.drew ?_ | refine Below.alloc ?_ (by first | omega | (simp; done) | (simp; omega)) _))).trans hw2)); have z2 := W2.out.size; have z21 := hw2.size; (try simp at z21); (try (have G2 := Lib.hid ((Blk.new w1' 33 #[.int .i64 0, .slice none 0 0, .slice none 0 0]).rd hw2 (by omega)))); (try (have G2 := Lib.hid (G1.out.rd hw2 (by omega)))); clear hr2 hw2))
             | (go_at_call 21; go_must (refine (spec_TakeCredit_any t0 k1 k2 _ ((O1.out.rd W2.out (by omega)).is.below (by repeat (first | exact Below.refl _ _ | refine Below.drew ?_ | refine Below.alloc ?_ (by first | omega | (simp; done) | (simp; omega)) _)) (Nat.le_refl _)) ((O2.out.rd W2.out (by omega)).is.below (by repeat (first | exact Below.refl _ _ | refine Below.drew ?_ | refine Below.alloc ?_ (by first | omega | (simp; done) | (simp; omega)) _)) (Nat.le_refl _))).mono ?_; rintro e w3' ⟨B1, m1, e1, B2, m2, e2, rfl, ho1, ho2, hd, hb⟩; have P1 := Lib.hid ho1; have P2 := Lib.hid ho2; have DB := Lib.hid hd; have z2r := R2.out.lt; have R3 := Lib.hid ((R2.out.below (by repeat (first | exact Below.refl _ _ | refine Below.drew ?_ | refine Below.alloc ?_ (by first | omega | (simp; done) | (simp; omega)) _))).below (hb.mono (by first | omega | (simp; done) | (simp; omega)))); have W3 := Lib.hid ((W2.out.trans (Rd.of_below (a := w2') (by repeat (first | exact Below.refl _ _ | refine Below.drew ?_ | refine Below.alloc ?_ (by first | omega | (simp; done) | (simp; omega)) _)))).trans (Rd.of_below hb)); have z3 := W3.out.size; have z32 := hb.size; (try simp at z32); (try (have G3 := Lib.hid ((Blk.new w2' 33 #[.int .i64 0, .slice none 0 0, .slice none 0 0]).on hb))); (try (have G3 := Lib.hid (G2.out.on hb))); have hm1 : m1 ≤ 3 := (by have h1 := ho1.len; have h2 := tcK_le t0 ks us k1 k2; omega); have hm2 : m2 ≤ 3 := (by have h1 := ho2.len; have h2 := tcU_le t0 ks us k1 k2; omega); (try obtain ⟨g30, g31, g32⟩ := G3.out.c3); (try have g33 := G3.out.frozen 0); (try have g34 := G3.out.frozen 1); (try have g35 := G3.out.frozen 2); clear ho1 ho2 hd hb)))
          all_goals (go_wp2_with (fail); go_meet)
          all_goals (first
            | exact ⟨_, _, rfl, rfl, Lib.hid (nx_new (P1.out.base_le (by first | exact z2 | (simp; omega))) (P2.out.base_le (by first | exact z2 | (simp; omega))) DB.out hm1 hm2 W3.out (R3.out.mono (by omega)))⟩
            | exact ⟨_, _, rfl, rfl, Lib.hid (nx_set G3.out P1.out P2.out DB.out hm1 hm2 (by first | exact G2.out.lt | (simp; done) | (simp; omega) | omega) (by first | exact Nat.le_refl _ | exact z1 | exact z2) hrl W3.out (R3.out.mono (by omega)))⟩)
        case rest =>
          obtain ⟨g, ok, rfl, rfl, HN⟩ := hcut
          obtain ⟨hg, hd, hwg, t1, ks1, us1, B1, m1, e1, B2, m2, e2, hm1, hm2, k0, p1, p2, db, db1, db2⟩ := HN.out
          have HG := Lib.hid hg
          have HD := Lib.hid hd
          have K0 := Lib.hid k0
          have P1 := Lib.hid p1
          have P2 := Lib.hid p2
          have DB := Lib.hid db
          have XC := Lib.hid (HX.out.rd hg hxr)
          obtain ⟨i, rfl⟩ : ∃ i, j' = i + 1 := ⟨j' - 1, by omega⟩
          clear hg hd k0 p1 p2 db db1 db2 ka kb kc HN
          obtain ⟨k00, k01, k02⟩ := K0.out.c3
          obtain ⟨ka, kb, kc⟩ := XC.out.c3
          have f0 := XC.out.frozen 0
          have f1 := XC.out.frozen 1
          have f2 := XC.out.frozen 2
          rcases ok with _ | _
          · go_wp2_with (fail)
            go_roundw
            case rel => exact ⟨i, by go_num, by omega, Lib.hid (HS.out.rd HG.out hr (HD.out.mono (by omega)))⟩
            case measure => simp [intOf]
          · go_wp2_with (fail)
            go_roundw
            case rel =>
              refine ⟨i, by go_num, by omega, Lib.hid ⟨⟨t1, ks1, us1, B1, m1, e1, B2, m2, e2, hm1, hm2, ((XC.out.set_ 0 _).set_ 1 _).set_ 2 _, ?_, ?_, DB.out, box_far hxl P1.out.ge, box_far hxl P2.out.ge⟩, ?_, ?_, ?_, hx⟩⟩
              · exact (((P1.out.setCell hxl _).setCell hxl _).setCell hxl _).base_le (by omega)
              · exact (((P2.out.setCell hxl _).setCell hxl _).setCell hxl _).base_le (by omega)
              · exact ((((HQ.out.rd HG.out hqx).far (show w.heap.size ≠ x by omega) _).far (show w.heap.size ≠ x by omega) _).far (show w.heap.size ≠ x by omega) _)
              · exact (HD.out.below ((((Below.refl _ _).setCell (show r + 1 ≤ x by omega) _).setCell (show r + 1 ≤ x by omega) _).setCell (show r + 1 ≤ x by omega) _)).mono (by omega)
              · exact (((HW.out.trans HG.out).setCell (show w.heap.size ≤ x by omega) _).setCell (show w.heap.size ≤ x by omega) _).setCell (show w.heap.size ≤ x by omega) _
            case measure => simp [intOf]
      · have ej : j' = 0 := by omega
        subst ej
        obtain ⟨qa, qb, qc⟩ := HQ.out.c3
        have f0 := HQ.out.frozen 0
        have f1 := HQ.out.frozen 1
        have f2 := HQ.out.frozen 2
        go_wp2_with (fail)
        refine bodyPost_ret (v := .agg #[.int .i64 t0, .slice A n c, .slice A' n' c']) (by simp [results, Try.results50, go_sem, qa, qb, qc]) rfl ?_
        refine ⟨t0, ks, us, A, n, c, A', n', c', rfl, hn, hn', ?_, ?_, D.out, ?_, ?_⟩
        · refine OW.base_le ?_ (Nat.le_succ w.heap.size)
          repeat' (first | exact O1.out | refine OW.setCell ?_ ?_ _ | exact Nat.lt_succ_self _)
        · refine OW.base_le ?_ (Nat.le_succ w.heap.size)
          repeat' (first | exact O2.out | refine OW.setCell ?_ ?_ _ | exact Nat.lt_succ_self _)
        · refine HR.out.below ?_
          repeat' (first | exact Below.refl _ _ | refine Below.setCell ?_ ?_ _ | exact hr)
        · repeat' (first | exact HW.out | refine Rd.setCell ?_ ?_ _ | exact Nat.le_refl _)
end Go.Proofs.Ytcbphifadokfeaa
