/-
  Drawn windows that may be spoilt.
-/
import Derived.Test.YtpfeadjmmefbgaaGenB
import Derived.Test.YtpfeadjmmefbgaaWiT
import Derived.Test.YtpfeadjmmefbgaaWiU
import Derived.Deep.RegionHeld3
import Derived.Deep.RegionLaw
import Derived.Deep.DeepMust
namespace Go.Proofs.Ytpfeadjmmefbgaa
open Go.RowKit

/-- A drawn window that may be spoilt. -/
def DrewWin (R : TypeId) (w : World) (r N : Nat) (e : Ending) (w' : World) : Prop :=
  ∃ b nx xs A n c, e = .returned (.agg #[.int .i64 b, .int .i64 nx, .slice A n c]) ∧ (-1 ≤ b ∧ b ≤ 1001) ∧ (-1 ≤ nx ∧ nx ≤ 1100) ∧ n ≤ 9 ∧ IS w' A n c xs ∧ Ge A (w.heap.size + 1) ∧ RD w' R r N ∧ Rd w w' r
theorem snOK_f {b nx : Int} {xs : List Int} (h : snOK b nx xs = true) : snB b nx xs = b ∧ snN b nx xs = nx + 1 ∧ snX b nx xs = xs ∧ nx < b + 8 := by
  simp only [snB, snN, snX, h, if_true, true_and]
  simp only [snOK, Bool.and_eq_true, decide_eq_true_eq] at h
  exact h.2
theorem akOK_f {b nx m : Int} {xs : List Int} (h : akOK b nx xs m = true) : b ≤ akB b nx xs m ∧ akB b nx xs m ≤ 1000 ∧ akB b nx xs m ≤ nx ∧ akN b nx xs m = nx ∧ nx ≤ b + 8 := by
  simp only [akB, akN, h, if_true]
  simp only [akOK, Bool.and_eq_true, decide_eq_true_eq] at h
  have h1 := upR_bd (ackP xs m) b (akK b nx)
  obtain ⟨_, _, h2, h3, _⟩ := winV_facts h.1
  simp only [akK] at *
  refine ⟨by omega, by omega, by omega, trivial, by omega⟩
theorem ge_disj {g B : Nat} {A : Option Addr} (h : g < B) (k : Ge A B) : Disj (some ⟨g, 0, none⟩) A := fun p q hp hq e => by
  cases hp
  have := k q hq
  simp at e
  omega
/-- The next window of a loop, in a box of its own. -/
def NxW (TB TR : TypeId) (wr wx : World) (r N g : Nat) (ok : Bool) : Prop :=
  Rd wr wx r ∧ RD wx TR r N ∧ wr.heap.size ≤ g ∧ ∃ b nx ys B m e, (ok = true → (0 ≤ b ∧ b ≤ 1000) ∧ b ≤ nx ∧ nx ≤ b + 8) ∧ m ≤ 8 ∧ Blk wx g TB #[.int .i64 b, .int .i64 nx, .slice B m e] ∧ IS wx B m e ys ∧ Ge B wr.heap.size
theorem nxw_new {TI TB TR : TypeId} {wr w5 : World} {r N b5 m e : Nat} {b nx : Int} {ys : List Int} {B : Option Addr} {ok : Bool} (ho : OW w5 TI b5 B m e ys) (hb : wr.heap.size ≤ b5) (hm : m ≤ 8) (hk : ok = true → (0 ≤ b ∧ b ≤ 1000) ∧ b ≤ nx ∧ nx ≤ b + 8) (hw : Rd wr w5 r) (hr : RD w5 TR r N) :
    NxW TB TR wr (w5.alloc (.cells #[.int .i64 b, .int .i64 nx, .slice B m e] TB)) r N w5.heap.size ok :=
  ⟨hw.alloc _, hr.below ((below_new w5 _).mono hr.lt), hw.size, b, nx, ys, B, m, e, hk, hm, Blk.new _ _ _, ho.is.alloc _, ho.ge.mono hb⟩
theorem nxw_set {TI TB TR : TypeId} {wr w5 : World} {r N b5 m e g : Nat} {z0 z1 z2 : Value} {b nx : Int} {ys : List Int} {B : Option Addr} {ok : Bool} (hg : Blk w5 g TB #[z0, z1, z2]) (ho : OW w5 TI b5 B m e ys) (hb : g < b5) (hgr : wr.heap.size ≤ g) (hrl : r < wr.heap.size) (hm : m ≤ 8) (hk : ok = true → (0 ≤ b ∧ b ≤ 1000) ∧ b ≤ nx ∧ nx ≤ b + 8) (hw : Rd wr w5 r) (hr : RD w5 TR r N) :
    NxW TB TR wr (((w5.setCell ⟨g, 0, none⟩ (.int .i64 b)).setCell ⟨g, 1, none⟩ (.int .i64 nx)).setCell ⟨g, 2, none⟩ (.slice B m e)) r N g ok :=
  ⟨((hw.setCell hgr _).setCell hgr _).setCell hgr _, hr.below ((((Below.refl _ _).setCell (show r + 1 ≤ g by omega) _).setCell (show r + 1 ≤ g by omega) _).setCell (show r + 1 ≤ g by omega) _), hgr, b, nx, ys, B, m, e, hk, hm, by simpa using ((hg.set_ 0 (.int .i64 b)).set_ 1 (.int .i64 nx)).set_ 2 (.slice B m e), ((((ho.setCell hb _).setCell hb _).setCell hb _).is), ho.ge.mono (by omega)⟩
theorem Rd.drew {w w' : World} {r : Nat} (h : Rd w w' r) : Rd w w'.drew r := ⟨h.os, h.tape, h.output, h.size, h.block⟩
theorem cell_rd {w w' : World} {r : Nat} {a : Addr} {v : Value} (hg : Rd w w' r) (hr : a.block ≠ r) (h : w.cell? a = some v) : w'.cell? a = some v :=
  (World.cell?_of_block (hg.block a.block (World.block_lt_of_cell? w a h) (fun e => hr (by injection e)))).trans h
set_option maxHeartbeats 4000000 in
theorem someWindow_any (r N : Nat) (w : World) (h : RD w 50 r N) (hN : N ≤ 700000) :
    Calls Try.prog 17 #[.pointer (some ⟨r, 0, none⟩)] w (DrewWin 50 w r (N + 12)) := by
  have hr := h.lt
  have H := Lib.hid h
  clear h
  go_enter Try.func17, Try.ntmps17
  go_wp2_with (fail)
  refine (one_any (xs := [0, 5, 100, 995]) (fun x => 0 ≤ x ∧ x ≤ 995) r N _ (H.out.below (((below_new w _).trans ((below_new _ _).mono (by simp))).mono (by omega))) (by omega) (by simpa using OW.lit (w.alloc (.cells #[.int .i64 0, .int .i64 0, .slice none 0 0] 25)) 3 (r + 1) [0, 5, 100, 995] (by simp; omega) (by simp)) (by omega) (by omega) (by simp)).mono ?_
  rintro e w1 ⟨b0, rfl, ⟨hb0, hb1⟩, hr1, hw1⟩
  have R1 := Lib.hid hr1
  have W1 := Lib.hid ((Rd.of_below ((below_new w (.cells #[.int .i64 0, .int .i64 0, .slice none 0 0] 25)).trans ((below_new _ (.cells #[.int .i64 0, .int .i64 5, .int .i64 100, .int .i64 995] 3)).mono (by simp)))).trans hw1)
  have Q1 := Lib.hid (((Blk.new w 25 #[.int .i64 0, .int .i64 0, .slice none 0 0]).alloc (.cells #[.int .i64 0, .int .i64 5, .int .i64 100, .int .i64 995] 3)).rd hw1 (by omega))
  have hz1 : w.heap.size + 1 + 1 ≤ w1.heap.size := by have := hw1.size; simp at this; omega
  clear hr1 hw1
  go_wp2_with (fail)
  refine (one_any (xs := [5, 8, 3, 1, 0]) (fun x => 0 ≤ x ∧ x ≤ 8) r (N + 1) _ (R1.out.below ((((below_new w1 (.cells #[] 3)).alloc (by simp) (.cells #[.int .i64 b0, .int .i64 b0, .slice (some ⟨w1.heap.size, 0, none⟩) 0 0] 25)).alloc (by simp; omega) (.cells #[.int .i64 5, .int .i64 8, .int .i64 3, .int .i64 1, .int .i64 0] 3)).mono (by omega))) (by omega) (by simpa using OW.lit ((w1.alloc (.cells #[] 3)).alloc (.cells #[.int .i64 b0, .int .i64 b0, .slice (some ⟨w1.heap.size, 0, none⟩) 0 0] 25)) 3 (r + 1) [5, 8, 3, 1, 0] (by simp; omega) (by simp)) (by omega) (by omega) (by simp)).mono ?_
  rintro e w2 ⟨k0, rfl, ⟨hk0, hk1⟩, hr2, hw2⟩
  obtain ⟨m, rfl⟩ := Int.eq_ofNat_of_zero_le hk0
  have R2 := Lib.hid hr2
  have W2 := Lib.hid ((((W1.out.alloc (.cells #[] 3)).alloc (.cells #[.int .i64 b0, .int .i64 b0, .slice (some ⟨w1.heap.size, 0, none⟩) 0 0] 25)).alloc (.cells #[.int .i64 5, .int .i64 8, .int .i64 3, .int .i64 1, .int .i64 0] 3)).trans hw2)
  have Q2 := Lib.hid ((((Q1.out.alloc (.cells #[] 3)).alloc (.cells #[.int .i64 b0, .int .i64 b0, .slice (some ⟨w1.heap.size, 0, none⟩) 0 0] 25)).alloc (.cells #[.int .i64 5, .int .i64 8, .int .i64 3, .int .i64 1, .int .i64 0] 3)).rd hw2 (by omega))
  have X2 : Hid (Blk w2 (w1.heap.size + 1) 25 #[.int .i64 b0, .int .i64 b0, .slice (some ⟨w1.heap.size, 0, none⟩) 0 0]) := Lib.hid (((by simpa using Blk.new (w1.alloc (.cells #[] 3)) 25 #[.int .i64 b0, .int .i64 b0, .slice (some ⟨w1.heap.size, 0, none⟩) 0 0] : Blk _ (w1.heap.size + 1) _ _).alloc (.cells #[.int .i64 5, .int .i64 8, .int .i64 3, .int .i64 1, .int .i64 0] 3)).rd hw2 (by omega))
  have hz2 : w1.heap.size + 1 + 1 + 1 ≤ w2.heap.size := by have := hw2.size; simp at this; omega
  have I2 : Hid (IS w2 (some ⟨w1.heap.size, 0, none⟩) 0 0 []) := Lib.hid (IS.empty _ _ (by simp [maxLen]) (fun h => by cases h))
  clear hr2 hw2
  obtain ⟨g, eg⟩ : ∃ g, w1.heap.size + 1 = g := ⟨_, rfl⟩
  have hrg : r < g := by omega
  have hqg : w.heap.size < g := by omega
  have hzg : g < w2.heap.size := by omega
  have GE2 : Hid (Ge (some ⟨w1.heap.size, 0, none⟩) (w.heap.size + 1)) := Lib.hid (fun p hp => by cases hp; show w.heap.size + 1 ≤ w1.heap.size; omega)
  have DJ2 : Hid (Disj (some ⟨g, 0, none⟩) (some ⟨w1.heap.size, 0, none⟩)) := Lib.hid (fun p q hp hq => by cases hp; cases hq; show g ≠ w1.heap.size; omega)
  rw [eg] at X2
  clear R1 W1 Q1
  go_wp2_with (fail)
  try rw [eg]
  obtain ⟨A2, eA⟩ : ∃ A2 : Option Addr, (some ⟨w1.heap.size, 0, none⟩ : Option Addr) = A2 := ⟨_, rfl⟩
  rw [eA] at X2 I2 GE2 DJ2
  try rw [eA]
  clear eA eg hz1 hz2
  go_loopw [4] (fun i wr => ∃ (j n c : Nat) (b nx : Int) (xs : List Int) (A : Option Addr), j ≤ 8 ∧ (0 ≤ b ∧ b ≤ 1000) ∧ (b ≤ nx ∧ nx ≤ b + 8) ∧ n ≤ 8 ∧ i = .int .i64 (j : Int) ∧ Hid (Blk wr w.heap.size 25 #[.int .i64 0, .int .i64 0, .slice none 0 0]) ∧ Hid (Blk wr g 25 #[.int .i64 b, .int .i64 nx, .slice A n c]) ∧ Hid (IS wr A n c xs) ∧ Hid (Ge A (w.heap.size + 1)) ∧ Hid (Disj (some ⟨g, 0, none⟩) A) ∧ Hid (RD wr 50 r (N + 2)) ∧ Hid (Rd w wr r)) (fun i _ => (intOf i).toNat)
  case atStart => exact ⟨m, 0, 0, b0, b0, [], A2, by omega, by omega, by omega, by omega, rfl, Q2, X2, I2, GE2, DJ2, R2, W2⟩
  case round =>
    obtain ⟨j, n, c, b, nx, xs, A, hj, hb, hx, hn, rfl, Q, X, I, GE, DJ, R, V⟩ := hrel
    clear Q2 X2 I2 GE2 DJ2 R2 W2
    have hzr := X.out.lt
    obtain ⟨xa, xb, xc⟩ := X.out.c3
    by_cases h0 : 0 < j
    · have h0' : (0 : Int) < (j : Int) := by omega
      have hw1 : IntKind.i64.wrap ((j : Int) - 1) = ((j - 1 : Nat) : Int) := by rw [IntKind.wrap_i64]; omega
      have hle := snX_le b nx xs
      go_wp2_with (fail)
      clear xa xb xc
      refine (spec_SendNext_any b nx wr I.out).mono ?_
      rintro e w3 ⟨E3, n3, c3, rfl, ho, hb3⟩
      have hn3 : n3 ≤ 8 := by have := ho.len; omega
      have HB3 := Lib.hid hb3
      have O3 := Lib.hid ho
      have X3 := Lib.hid (X.out.on hb3)
      have Q3 := Lib.hid (Q.out.on hb3)
      have hz3 := hb3.size
      clear ho hb3 hle
      obtain ⟨u1, eu1⟩ : ∃ u, snB b nx xs = u := ⟨_, rfl⟩
      obtain ⟨u2, eu2⟩ : ∃ u, snN b nx xs = u := ⟨_, rfl⟩
      obtain ⟨ys, eys⟩ : ∃ u, snX b nx xs = u := ⟨_, rfl⟩
      rcases hk : snOK b nx xs with _ | _
      · rw [eu1, eu2]
        have X4 := Lib.hid (X3.out.alloc (.cells #[.int .i64 u1, .int .i64 u2, .slice E3 n3 c3] 25))
        have Q4 := Lib.hid (Q3.out.alloc (.cells #[.int .i64 u1, .int .i64 u2, .slice E3 n3 c3] 25))
        clear eu1 eu2 eys hk
        go_wp2_with (fail)
        go_roundw
        case rel => exact ⟨j - 1, n, c, b, nx, xs, A, by omega, hb, hx, hn, by first | rfl | go_num, Q4, X4, Lib.hid ((I.out.below HB3.out (Nat.le_refl _)).alloc _), GE, DJ, Lib.hid (R.out.below ((HB3.out.alloc HB3.out.size _).mono (by omega))), Lib.hid ((V.out.trans (Rd.of_below HB3.out)).alloc _)⟩
        case measure => simp [intOf]; omega
      · obtain ⟨s1, s2, s3, s4⟩ := snOK_f hk
        obtain rfl : u1 = b := by rw [← eu1]; exact s1
        obtain rfl : u2 = nx + 1 := by rw [← eu2]; exact s2
        rw [s1, s2]
        rw [eys] at O3
        clear eu1 eu2 eys hk s1 s2 s3
        have X4 := Lib.hid (X3.out.alloc (.cells #[.int .i64 u1, .int .i64 (nx + 1), .slice E3 n3 c3] 25))
        have Q4 := Lib.hid (Q3.out.alloc (.cells #[.int .i64 u1, .int .i64 (nx + 1), .slice E3 n3 c3] 25))
        have Y4 := Lib.hid (Blk.new w3 25 #[.int .i64 u1, .int .i64 (nx + 1), .slice E3 n3 c3])
        have DN : Hid (Disj (some ⟨g, 0, none⟩) E3) := Lib.hid (ge_disj hzr O3.out.ge)
        have I4 := Lib.hid ((O3.out.alloc (.cells #[.int .i64 u1, .int .i64 (nx + 1), .slice E3 n3 c3] 25)).is)
        obtain ⟨xa, xb, xc⟩ := X4.out.c3
        obtain ⟨ya, yb, yc⟩ := Y4.out.c3
        have f0 := X4.out.frozen 0
        have f1 := X4.out.frozen 1
        have f2 := X4.out.frozen 2
        go_wp2_with (fail)
        go_roundw
        case rel =>
          have hVR : Rd wr w3 r := Rd.of_below HB3.out
          have hws := V.out.size
          refine ⟨j - 1, n3, c3, u1, nx + 1, ys, E3, by omega, hb, by omega, hn3, by first | rfl | go_num, Lib.hid ?_, Lib.hid ?_, Lib.hid ?_, Lib.hid (O3.out.ge.mono (by omega)), DN, Lib.hid ?_, Lib.hid ?_⟩
          · repeat (refine Blk.far ?_ (by show w.heap.size ≠ g; omega) _)
            exact Q4.out
          · simpa using ((X4.out.set_ 0 (.int .i64 u1)).set_ 1 (.int .i64 (nx + 1))).set_ 2 (.slice E3 n3 c3)
          · repeat (refine IS.setCell ?_ DN.out _)
            exact I4.out
          · refine R.out.below ?_
            repeat (refine Below.setCell ?_ (by show r + 1 ≤ g; omega) _)
            exact (HB3.out.alloc HB3.out.size _).mono (by omega)
          · repeat (refine Rd.setCell ?_ (by show w.heap.size ≤ g; omega) _)
            exact (V.out.trans hVR).alloc _
        case measure => simp [intOf]; omega
    · have h0' : ¬ (0 : Int) < (j : Int) := by omega
      go_wp2_with (fail)
      clear xa xb xc
      refine (pick_any r _ 5 _ R.out (by omega) (by omega)).mono ?_
      rintro e w4 ⟨k, rfl, hk0, hk1, hr4, hw4⟩
      have hk2 := hk1 (by omega)
      obtain ⟨m2, rfl⟩ := Int.eq_ofNat_of_zero_le hk0
      have R4 := Lib.hid hr4
      have V4 := Lib.hid (V.out.trans hw4)
      have Q4 := Lib.hid (Q.out.rd hw4 (by omega))
      have X4 := Lib.hid (X.out.rd hw4 (by omega))
      have I4 := Lib.hid (I.out.rd hw4 (GE.out.mono (by omega)))
      clear hr4 hw4 hk1 Q X I R V
      go_wp2_with (fail)
      go_loopw [8] (fun i wr => ∃ (j n c : Nat) (b nx : Int) (xs : List Int) (A : Option Addr), j ≤ 5 ∧ (0 ≤ b ∧ b ≤ 1000) ∧ (b ≤ nx ∧ nx ≤ b + 8) ∧ n ≤ 8 ∧ i = .int .i64 (j : Int) ∧ Hid (Blk wr w.heap.size 25 #[.int .i64 0, .int .i64 0, .slice none 0 0]) ∧ Hid (Blk wr g 25 #[.int .i64 b, .int .i64 nx, .slice A n c]) ∧ Hid (IS wr A n c xs) ∧ Hid (Ge A (w.heap.size + 1)) ∧ Hid (Disj (some ⟨g, 0, none⟩) A) ∧ Hid (RD wr 50 r (N + 3 + (5 - j))) ∧ Hid (Rd w wr r)) (fun i _ => (intOf i).toNat)
      case atStart => exact ⟨m2, n, c, b, nx, xs, A, by omega, hb, hx, hn, rfl, Q4, X4, I4, GE, DJ, Lib.hid (R4.out.mono (by omega)), V4⟩
      case round =>
        clear Q4 X4 I4 GE DJ R4 V4
        obtain ⟨j, n, c, b, nx, xs, A, hj, hb, hx, hn, rfl, Q, X, I, GE, DJ, R, V⟩ := hrel
        have hzr := X.out.lt
        by_cases h0 : 0 < j
        · have h0' : (0 : Int) < (j : Int) := by omega
          have hw1 : IntKind.i64.wrap ((j : Int) - 1) = ((j - 1 : Nat) : Int) := by rw [IntKind.wrap_i64]; omega
          have hwb : IntKind.i64.wrap (b + 1) = b + 1 := by rw [IntKind.wrap_i64]; omega
          obtain ⟨xa, xb, xc⟩ := X.out.c3
          have hxr : g ≠ r := by omega
          have hrl := R.out.lt
          go_upto_region 12 with (fail)
          go_cut [9, 10] (fun s5 s6 wx => ∃ (g' : Nat) (ok : Bool), s5 = .pointer (some ⟨g', 0, none⟩) ∧ s6 = .bool ok ∧ Hid (NxW 25 50 wr wx r (N + 3 + (5 - j) + 1) g' ok))
          case first =>
            go_region_held3 (fun w' => w'.cell? ⟨g, 0, none⟩ = some (.int .i64 b) ∧ w'.cell? ⟨g, 1, none⟩ = some (.int .i64 nx) ∧ w'.cell? ⟨g, 2, none⟩ = some (.slice A n c))
              (refine And.intro (cell_rd (w := wr) ?_ hxr xa) (And.intro (cell_rd (w := wr) ?_ hxr xb) (cell_rd (w := wr) ?_ hxr xc)) <;> (repeat' (first | exact W3.out | exact W1.out | exact Rd.refl _ _ | with_reducible refine Rd.drew ?_ | with_reducible refine Rd.alloc ?_ _ | with_reducible refine Rd.setCell ?_ ?_ _ | omega | (simp; done) | (simp; omega))))
              (first
               | (go_at_call 29; ((with_reducible refine (pick_any r _ 7 _ (R.out.below (by repeat (first | exact Below.refl _ _ | with_reducible refine Below.drew ?_ | with_reducible refine Below.alloc ?_ (by first | omega | (simp; done) | (simp; omega)) _))) (by omega) (by omega)).mono ?_); rintro e w1' ⟨k, rfl, hk0, hk1, hr1, hw1⟩; have hk2 := hk1 (by omega); have R1 := Lib.hid hr1; have W1 := Lib.hid ((Rd.of_below (a := wr) (by repeat (first | exact Below.refl _ _ | with_reducible refine Below.drew ?_ | with_reducible refine Below.alloc ?_ (by first | omega | (simp; done) | (simp; omega)) _))).trans hw1); have z1 := W1.out.size; have hwk : IntKind.i64.wrap (b + 1 + k) = b + 1 + k := (by rw [IntKind.wrap_i64]; omega); (try (have G1 := Lib.hid ((Blk.new wr 25 #[.int .i64 0, .int .i64 0, .slice none 0 0]).rd hw1 (by omega)))); (try (have G1 := Lib.hid ((Blk.new wr 25 #[.int .i64 0, .int .i64 0, .slice none 0 0]).drew.rd hw1 (by omega)))); clear hr1 hw1 hk1))
               | (go_at_call 30; go_must (refine (spec_AckBatch_any b nx (b + 1 + k) _ ((I.out.rd W1.out (GE.out.mono (by omega))).below (by repeat (first | exact Below.refl _ _ | with_reducible refine Below.drew ?_ | with_reducible refine Below.alloc ?_ (by first | omega | (simp; done) | (simp; omega)) _)) (Nat.le_refl _))).mono ?_; rintro e w3' ⟨B1, m1, e1, rfl, ho1, hb⟩; have P1 := Lib.hid ho1; have z1r := R1.out.lt; have R3 := Lib.hid ((R1.out.below (by repeat (first | exact Below.refl _ _ | with_reducible refine Below.drew ?_ | with_reducible refine Below.alloc ?_ (by first | omega | (simp; done) | (simp; omega)) _))).below (hb.mono (by first | omega | (simp; done) | (simp; omega)))); have W3 := Lib.hid ((W1.out.trans (Rd.of_below (a := w1') (by repeat (first | exact Below.refl _ _ | with_reducible refine Below.drew ?_ | with_reducible refine Below.alloc ?_ (by first | omega | (simp; done) | (simp; omega)) _)))).trans (Rd.of_below hb)); have z3 := W3.out.size; have z31 := hb.size; (try simp at z31); (try (have G3 := Lib.hid ((Blk.new w1' 25 #[.int .i64 0, .int .i64 0, .slice none 0 0]).on hb))); (try (have G3 := Lib.hid (G1.out.on hb))); have hm1 : m1 ≤ 8 := (by have h1 := ho1.len; have h2 := akX_le b nx xs (b + 1 + k); omega); (try obtain ⟨g30, g31, g32⟩ := G3.out.c3); (try have g33 := G3.out.frozen 0); (try have g34 := G3.out.frozen 1); (try have g35 := G3.out.frozen 2); clear ho1 hb)))
            all_goals (go_wp2_with (fail); go_meet)
            all_goals (first
              | exact ⟨_, _, rfl, rfl, Lib.hid (nxw_new P1.out (by first | exact z1 | (simp; omega)) hm1 (fun h => by obtain ⟨a1, a2, a3, a4, a5⟩ := akOK_f h; rw [a4]; omega) W3.out (R3.out.mono (by omega)))⟩
              | exact ⟨_, _, rfl, rfl, Lib.hid (nxw_set G3.out P1.out (by first | exact G1.out.lt | (simp; done) | (simp; omega) | omega) (by first | exact Nat.le_refl _ | exact z1) hrl hm1 (fun h => by obtain ⟨a1, a2, a3, a4, a5⟩ := akOK_f h; rw [a4]; omega) W3.out (R3.out.mono (by omega)))⟩)
          case rest =>
            obtain ⟨g', ok, rfl, rfl, HN⟩ := hcut
            obtain ⟨hg, hd, hgg, b', nx', ys, B, m, e, hkk, hm, k0, p1, p2⟩ := HN.out
            have HG := Lib.hid hg
            have HD := Lib.hid hd
            have K0 := Lib.hid k0
            have P1 := Lib.hid p1
            have P2 := Lib.hid p2
            have XC := Lib.hid (X.out.rd hg hxr)
            have QC := Lib.hid (Q.out.rd hg (by omega))
            have hws := V.out.size
            clear hg hd k0 p1 p2 xa xb xc HN
            obtain ⟨k00, k01, k02⟩ := K0.out.c3
            obtain ⟨xa, xb, xc⟩ := XC.out.c3
            have f0 := XC.out.frozen 0
            have f1 := XC.out.frozen 1
            have f2 := XC.out.frozen 2
            have hgx : ¬ g' = g := by omega
            rcases ok with _ | _
            · go_wp2_with (fail)
              go_roundw
              case rel => exact ⟨j - 1, n, c, b, nx, xs, A, by omega, hb, hx, hn, by first | rfl | go_num, QC, XC, Lib.hid (I.out.rd HG.out (GE.out.mono (by omega))), GE, DJ, Lib.hid (HD.out.mono (by omega)), Lib.hid (V.out.trans HG.out)⟩
              case measure => simp [intOf]; omega
            · obtain ⟨hk1, hk2, hk3⟩ := hkk rfl
              have DN : Hid (Disj (some ⟨g, 0, none⟩) B) := Lib.hid (ge_disj hzr P2.out)
              go_wp2_with (fail)
              go_roundw
              case rel =>
                refine ⟨j - 1, m, e, b', nx', ys, B, by omega, hk1, ⟨hk2, hk3⟩, hm, by first | rfl | go_num, Lib.hid ?_, Lib.hid ?_, Lib.hid ?_, Lib.hid (P2.out.mono (by omega)), DN, Lib.hid ?_, Lib.hid ?_⟩
                · repeat (refine Blk.far ?_ (by show w.heap.size ≠ g; omega) _)
                  exact QC.out
                · simpa using ((XC.out.set_ 0 (.int .i64 b')).set_ 1 (.int .i64 nx')).set_ 2 (.slice B m e)
                · repeat (refine IS.setCell ?_ DN.out _)
                  exact P1.out
                · refine RD.mono (RD.below HD.out ?_) (show _ ≤ N + 3 + (5 - (j - 1)) by omega)
                  repeat (refine Below.setCell ?_ (by show r + 1 ≤ g; omega) _)
                  exact Below.refl _ _
                · repeat (refine Rd.setCell ?_ (by show w.heap.size ≤ g; omega) _)
                  exact V.out.trans HG.out
              case measure => simp [intOf]; omega
        · have h0' : ¬ (0 : Int) < (j : Int) := by omega
          go_wp2_with (fail)
          refine (pick_any r _ 20 _ R.out (by omega) (by omega)).mono ?_
          rintro e w5 ⟨k, rfl, hk0, hk1, hr5, hw5⟩
          have R5 := Lib.hid hr5
          have V5 := Lib.hid (V.out.trans hw5)
          have Q5 := Lib.hid (Q.out.rd hw5 (by omega))
          have X5 := Lib.hid (X.out.rd hw5 (by omega))
          have I5 := Lib.hid (I.out.rd hw5 (GE.out.mono (by omega)))
          have hz5 := hw5.size
          have hwq : w.heap.size < w5.heap.size := by have := Q5.out.lt; exact this
          have hgl : g < w5.heap.size := X5.out.lt
          clear hr5 hw5 hk1 Q X I R V
          have hxr : g ≠ r := by omega
          have hqx : ¬ w.heap.size = g := by omega
          obtain ⟨xa, xb, xc⟩ := X5.out.c3
          obtain ⟨qa, qb, qc⟩ := Q5.out.c3
          have f0 := Q5.out.frozen 0
          have f1 := Q5.out.frozen 1
          have f2 := Q5.out.frozen 2
          have g0 := X5.out.frozen 0
          have g1 := X5.out.frozen 1
          have g2 := X5.out.frozen 2
          by_cases c0 : k = 0
          · subst c0
            obtain ⟨wa, eWa⟩ : ∃ v : World, v = w5.alloc (.cells #[.int .i64 (-1), .int .i64 9, .int .i64 0] 3) := ⟨_, rfl⟩
            go_wp2_with (fail)
            go_region_law (go_simp; go_at_call 28; go_must (refine (one_any (n := 3) (c := 3) (xs := [-1, 9, 0]) (fun x => -1 ≤ x ∧ x ≤ 9) r _ _ (R5.out.below (by repeat (first | exact Below.refl _ _ | with_reducible refine Below.drew ?_ | with_reducible refine Below.alloc ?_ (by first | omega | (simp; done) | (simp; omega)) _))) (by omega) (by first | exact (OW.lit w5 3 (r + 1) [-1, 9, 0] (by omega) (by decide)).drew | exact OW.lit w5.drew 3 (r + 1) [-1, 9, 0] (by show r + 1 ≤ w5.heap.size; omega) (by decide)) (by omega) (by omega) (by simp)).mono ?_; rintro e w6 ⟨v, rfl, ⟨hv0, hv1⟩, hr6, hw6⟩; have R6 := Lib.hid hr6; have HW6 : Hid (Rd w5 w6 r) := Lib.hid ((Rd.of_below (a := w5) (by repeat (first | exact Below.refl _ _ | with_reducible refine Below.drew ?_ | with_reducible refine Below.alloc ?_ (by first | omega | (simp; done) | (simp; omega)) _))).trans hw6); have hwv : IntKind.i64.wrap (b + v) = b + v := (by rw [IntKind.wrap_i64]; omega); have V6 := Lib.hid (V5.out.trans HW6.out); have X6 := Lib.hid (X5.out.rd HW6.out (by omega)); have Q6 := Lib.hid (Q5.out.rd HW6.out (by omega)); have I6 := Lib.hid (I5.out.rd HW6.out (GE.out.mono (by omega))); clear hr6 hw6 xa xb xc qa qb qc f0 f1 f2 g0 g1 g2; obtain ⟨xa, xb, xc⟩ := X6.out.c3; obtain ⟨qa, qb, qc⟩ := Q6.out.c3; have f0 := Q6.out.frozen 0; have f1 := Q6.out.frozen 1; have f2 := Q6.out.frozen 2; have g0 := X6.out.frozen 0; have g1 := X6.out.frozen 1; have g2 := X6.out.frozen 2))
            all_goals (
              go_wp2_with (fail)
              refine bodyPost_ret (v := .agg #[.int .i64 b, .int .i64 (b + v), .slice A n c]) (by simp [results, Try.results17, go_sem, qa, qb, qc]) rfl ?_
              refine ⟨b, (b + v), xs, A, n, c, rfl, by omega, by omega, by omega, ?_, GE.out, ?_, ?_⟩
              · have DQ := ge_disj (Nat.lt_succ_self w.heap.size) (GE.out)
                repeat' (first | with_reducible exact I6.out | with_reducible refine IS.setCell ?_ ?_ _ | exact DJ.out | exact DQ)
              · refine RD.mono (RD.below R6.out ?_) (show N + 3 + (5 - j) + 1 + 1 ≤ N + 12 by omega)
                repeat' (first | exact Below.refl _ _ | with_reducible refine Below.drew ?_ | with_reducible refine Below.setCell ?_ ?_ _ | (show r + 1 ≤ g; omega) | exact hr)
              · repeat' (first | with_reducible exact V6.out | with_reducible refine Rd.drew ?_ | with_reducible refine Rd.setCell ?_ ?_ _ | (show w.heap.size ≤ g; omega) | exact Nat.le_refl _))
          have d0 : (k == 0) = false := by simpa using c0
          by_cases c1 : k = 1
          · subst c1
            have d1 : ((1 : Int) == 0) = false := rfl
            go_wp2_with (fail)
            go_region_law (first
              | (refine step_append_is rfl (.tmp 68) (.tmp 71) 23 rfl w5.heap.size 3 infoInt Try.underlying23 E6 n6 c6 xs (by simp [Act.eval]) (by first | exact (O6.out.alloc _).drew | exact O6.out.drew | exact (O6.out.alloc _) | exact O6.out) (some ⟨w6.heap.size, 0, none⟩) 1 1 [b] (by simp [Act.eval]) (by first | exact (by simpa using (OW.lit w6 3 0 [b] (by simp) (by simp)).is : IS (w6.alloc (.cells #[.int .i64 b] 3)) (some ⟨w6.heap.size, 0, none⟩) 1 1 [b]) | exact (by simpa using (OW.lit w6 3 0 [b] (by simp) (by simp)).is : IS (w6.alloc (.cells #[.int .i64 b] 3)) (some ⟨w6.heap.size, 0, none⟩) 1 1 [b]).drew) (by omega) (by first | omega | (simp; omega) | (show w5.heap.size ≤ (w6.alloc _).heap.size; simp; omega)) ?_; intro A8 c8 w8 ho hg hnr; have O8 := Lib.hid ho; have DE : Hid (Disj (some ⟨g, 0, none⟩) E6) := Lib.hid (ge_disj hgl O6.out.ge); have DEQ : Hid (Disj (some ⟨w.heap.size, 0, none⟩) E6) := Lib.hid (ge_disj hwq O6.out.ge); have X8 : Hid (Blk w8 g 25 #[.int .i64 b, .int .i64 nx, .slice A n c]) := Lib.hid (Blk.away (by first | exact (X6.out.alloc _).drew | exact X6.out.drew | exact (X6.out.alloc _) | exact X6.out) hg DE.out); have Q8 : Hid (Blk w8 w.heap.size 25 #[.int .i64 0, .int .i64 0, .slice none 0 0]) := Lib.hid (Blk.away (by first | exact (Q6.out.alloc _).drew | exact Q6.out.drew | exact (Q6.out.alloc _) | exact Q6.out) hg DEQ.out); have R8 : Hid (RD w8 50 r _) := Lib.hid (RD.row (by first | exact R6.out.below ((below_new w6 (.cells #[.int .i64 b] 3)).mono (by omega)) | exact R6.out.below ((((below_new w6 (.cells #[.int .i64 b] 3)).drew).mono (by omega))) | exact R6.out.below ((Below.refl _ _).drew) | exact R6.out) hg (O6.out.ge.mono (by omega))); have V8 : Hid (Rd w w8 r) := Lib.hid (Rd.row (by first | exact (V6.out.alloc _).drew | exact V6.out.drew | exact (V6.out.alloc _) | exact V6.out) hg (O6.out.ge.mono (by omega))); have D8 : Hid (Disj (some ⟨g, 0, none⟩) A8) := Lib.hid (hnr.disj DE.out.symm (fun q hq => by cases hq; first | (show g < w6.heap.size; omega) | (show g < (w6.alloc _).heap.size; simp; omega))).symm; clear ho hg hnr xa xb xc; obtain ⟨xa, xb, xc⟩ := X8.out.c3; obtain ⟨qa, qb, qc⟩ := Q8.out.c3; have f0 := Q8.out.frozen 0; have f1 := Q8.out.frozen 1; have f2 := Q8.out.frozen 2; have g2 := X8.out.frozen 2)
              | (refine step_append_is rfl (.tmp 68) (.tmp 71) 23 rfl w5.heap.size 3 infoInt Try.underlying23 E6 n6 c6 xs (by simp [Act.eval]) (by first | exact (O6.out.alloc _).drew | exact O6.out.drew | exact (O6.out.alloc _) | exact O6.out) (some ⟨w5.heap.size, 0, none⟩) 1 1 [b] (by simp [Act.eval]) (by first | exact L6.out | exact L6.out.drew) (by omega) (by first | omega | (simp; omega) | (show w5.heap.size ≤ w6.heap.size; omega)) ?_; intro A8 c8 w8 ho hg hnr; have O8 := Lib.hid ho; have DE : Hid (Disj (some ⟨g, 0, none⟩) E6) := Lib.hid (ge_disj hgl O6.out.ge); have DEQ : Hid (Disj (some ⟨w.heap.size, 0, none⟩) E6) := Lib.hid (ge_disj hwq O6.out.ge); have X8 : Hid (Blk w8 g 25 #[.int .i64 b, .int .i64 nx, .slice A n c]) := Lib.hid (Blk.away (by first | exact (X6.out.alloc _).drew | exact X6.out.drew | exact (X6.out.alloc _) | exact X6.out) hg DE.out); have Q8 : Hid (Blk w8 w.heap.size 25 #[.int .i64 0, .int .i64 0, .slice none 0 0]) := Lib.hid (Blk.away (by first | exact (Q6.out.alloc _).drew | exact Q6.out.drew | exact (Q6.out.alloc _) | exact Q6.out) hg DEQ.out); have R8 : Hid (RD w8 50 r _) := Lib.hid (RD.row (by first | exact R6.out.below ((below_new w6 (.cells #[.int .i64 b] 3)).mono (by omega)) | exact R6.out.below ((((below_new w6 (.cells #[.int .i64 b] 3)).drew).mono (by omega))) | exact R6.out.below ((Below.refl _ _).drew) | exact R6.out) hg (O6.out.ge.mono (by omega))); have V8 : Hid (Rd w w8 r) := Lib.hid (Rd.row (by first | exact (V6.out.alloc _).drew | exact V6.out.drew | exact (V6.out.alloc _) | exact V6.out) hg (O6.out.ge.mono (by omega))); have D8 : Hid (Disj (some ⟨g, 0, none⟩) A8) := Lib.hid (hnr.disj DE.out.symm (fun q hq => by cases hq; first | (show g < w6.heap.size; omega) | (show g < (w6.alloc _).heap.size; simp; omega))).symm; clear ho hg hnr xa xb xc; obtain ⟨xa, xb, xc⟩ := X8.out.c3; obtain ⟨qa, qb, qc⟩ := Q8.out.c3; have f0 := Q8.out.frozen 0; have f1 := Q8.out.frozen 1; have f2 := Q8.out.frozen 2; have g2 := X8.out.frozen 2)
              | (go_simp; go_at_call 22; go_must (refine (spec_copyInts_any _ (I5.out.below (by repeat (first | exact Below.refl _ _ | with_reducible refine Below.drew ?_ | with_reducible refine Below.alloc ?_ (by first | omega | (simp; done) | (simp; omega)) _)) (Nat.le_refl _)) (by omega)).mono ?_; rintro e w6 ⟨E6, n6, c6, rfl, ho, hb⟩; have HW6 : Hid (Below w5.heap.size w5 w6) := Lib.hid (below_then (a := w5) (by repeat (first | exact Below.refl _ _ | with_reducible refine Below.drew ?_ | with_reducible refine Below.alloc ?_ (by first | omega | (simp; done) | (simp; omega)) _)) hb); have hz6 := HW6.out.size; have hb6 := hb.size; (try simp at hb6); have O6 := Lib.hid (ho.base_le (base' := w5.heap.size) (by first | exact Nat.le_refl _ | (simp; done) | (simp; omega))); have hn6 : n6 ≤ 8 := (by have h1 := ho.len; have h2 := I5.out.len; omega); (try (have L6 : Hid (IS w6 (some ⟨w5.heap.size, 0, none⟩) 1 1 [b]) := Lib.hid (IS.below (by first | exact (by simpa using (OW.lit w5 3 0 [b] (by simp) (by simp)).is : IS (w5.alloc (.cells #[.int .i64 b] 3)) (some ⟨w5.heap.size, 0, none⟩) 1 1 [b]) | exact (by simpa using (OW.lit w5 3 0 [b] (by simp) (by simp)).is : IS (w5.alloc (.cells #[.int .i64 b] 3)) (some ⟨w5.heap.size, 0, none⟩) 1 1 [b]).drew) hb (Nat.le_refl _)))); have V6 := Lib.hid (V5.out.trans (Rd.of_below HW6.out)); have R6 := Lib.hid (R5.out.below (HW6.out.mono (by omega))); have X6 := Lib.hid (X5.out.on HW6.out); have Q6 := Lib.hid (Q5.out.on HW6.out); clear ho hb xa xb xc qa qb qc f0 f1 f2 g0 g1 g2; obtain ⟨xa, xb, xc⟩ := X6.out.c3)))
            all_goals (
              go_wp2_with (fail)
              refine bodyPost_ret (v := .agg #[.int .i64 b, .int .i64 nx, .slice A8 (n6 + 1) c8]) (by simp [results, Try.results17, go_sem, qa, qb, qc]) rfl ?_
              refine ⟨b, nx, (xs ++ [b]), A8, (n6 + 1), c8, rfl, by omega, by omega, by omega, ?_, O8.out.ge.mono (by omega), ?_, ?_⟩
              · have DQ := ge_disj (Nat.lt_succ_self w.heap.size) (O8.out.ge.mono (by omega))
                repeat' (first | exact O8.out.is | with_reducible refine IS.setCell ?_ ?_ _ | exact D8.out | exact DQ)
              · refine RD.mono (RD.below R8.out ?_) (show N + 3 + (5 - j) + 1 ≤ N + 12 by omega)
                repeat' (first | exact Below.refl _ _ | with_reducible refine Below.drew ?_ | with_reducible refine Below.setCell ?_ ?_ _ | (show r + 1 ≤ g; omega) | exact hr)
              · repeat' (first | with_reducible exact V8.out | with_reducible refine Rd.drew ?_ | with_reducible refine Rd.setCell ?_ ?_ _ | (show w.heap.size ≤ g; omega) | exact Nat.le_refl _))
          have d1 : (k == 1) = false := by simpa using c1
          by_cases c2 : k = 2
          · subst c2
            go_wp2_with (fail)
            refine (one_any (xs := [-1, 1001]) (fun x => -1 ≤ x ∧ x ≤ 1001) r _ _ (R5.out.below ((below_new w5 _).mono (by omega))) (by omega) (by simpa using OW.lit w5 3 (r + 1) [-1, 1001] (by omega) (by simp)) (by omega) (by omega) (by simp)).mono ?_
            clear xa xb xc qa qb qc f0 f1 f2 g0 g1 g2
            rintro e w6 ⟨v, rfl, ⟨hv0, hv1⟩, hr6, hw6⟩
            have R6 := Lib.hid hr6
            have HW6 : Hid (Rd w5 w6 r) := Lib.hid ((Rd.of_below (a := w5) (below_new _ _)).trans hw6)
            have V6 := Lib.hid (V5.out.trans HW6.out)
            have X6 := Lib.hid (X5.out.rd HW6.out (by omega))
            have Q6 := Lib.hid (Q5.out.rd HW6.out (by omega))
            have I6 := Lib.hid (I5.out.rd HW6.out (GE.out.mono (by omega)))
            clear hr6 hw6
            obtain ⟨xa, xb, xc⟩ := X6.out.c3
            obtain ⟨qa, qb, qc⟩ := Q6.out.c3
            have f0 := Q6.out.frozen 0
            have f1 := Q6.out.frozen 1
            have f2 := Q6.out.frozen 2
            have g0 := X6.out.frozen 0
            have g1 := X6.out.frozen 1
            have g2 := X6.out.frozen 2
            go_wp2_with (fail)
            refine bodyPost_ret (v := .agg #[.int .i64 v, .int .i64 nx, .slice A n c]) (by simp [results, Try.results17, go_sem, qa, qb, qc]) rfl ?_
            refine ⟨v, nx, xs, A, n, c, rfl, by omega, by omega, by omega, ?_, GE.out, ?_, ?_⟩
            · have DQ := ge_disj (Nat.lt_succ_self w.heap.size) (GE.out)
              repeat' (first | with_reducible exact I6.out | with_reducible refine IS.setCell ?_ ?_ _ | exact DJ.out | exact DQ)
            · refine RD.mono (RD.below R6.out ?_) (show N + 3 + (5 - j) + 1 + 1 ≤ N + 12 by omega)
              repeat' (first | exact Below.refl _ _ | with_reducible refine Below.drew ?_ | with_reducible refine Below.setCell ?_ ?_ _ | (show r + 1 ≤ g; omega) | exact hr)
            · repeat' (first | with_reducible exact V6.out | with_reducible refine Rd.drew ?_ | with_reducible refine Rd.setCell ?_ ?_ _ | (show w.heap.size ≤ g; omega) | exact Nat.le_refl _)
          have d2 : (k == 2) = false := by simpa using c2
          go_wp2_with (fail)
          refine bodyPost_ret (v := .agg #[.int .i64 b, .int .i64 nx, .slice A n c]) (by simp [results, Try.results17, go_sem, qa, qb, qc]) rfl ?_
          refine ⟨b, nx, xs, A, n, c, rfl, by omega, by omega, by omega, ?_, GE.out, ?_, ?_⟩
          · have DQ := ge_disj (Nat.lt_succ_self w.heap.size) (GE.out)
            repeat' (first | with_reducible exact I5.out | with_reducible refine IS.setCell ?_ ?_ _ | exact DJ.out | exact DQ)
          · refine RD.mono (RD.below R5.out ?_) (show N + 3 + (5 - j) + 1 ≤ N + 12 by omega)
            repeat' (first | exact Below.refl _ _ | with_reducible refine Below.drew ?_ | with_reducible refine Below.setCell ?_ ?_ _ | (show r + 1 ≤ g; omega) | exact hr)
          · repeat' (first | with_reducible exact V5.out | with_reducible refine Rd.drew ?_ | with_reducible refine Rd.setCell ?_ ?_ _ | (show w.heap.size ≤ g; omega) | exact Nat.le_refl _)
end Go.Proofs.Ytpfeadjmmefbgaa
