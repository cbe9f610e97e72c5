/-
  Drawn arenas: someArena. (Its words were written by a program of my own.)
-/
import Derived.Test.YtleoncjdhlomaaaGenB
import Derived.Test.YtleoncjdhlomaaaArQ
import Derived.Test.YtleoncjdhlomaaaHeldUp
import Derived.Deep.RegionHeld3
import Derived.Deep.RegionLaw
import Derived.Deep.DeepMust
import Derived.Deep.DeepCutAuto
namespace Go.Proofs.Ytleoncjdhlomaaa
open Go.RowKit

/-- A drawn arena. -/
def DrewAr (R : TypeId) (w : World) (r N m : Nat) (e : Ending) (w' : World) : Prop :=
  ∃ s xs A n c, e = .returned (.agg #[.int .i64 s, .slice A n c]) ∧ n ≤ m ∧ TS w' A n c xs ∧ Ge A w.heap.size ∧ Lt A w'.heap.size ∧ RD w' R r N ∧ Rd w w' r
theorem OT.rd {w w' : World} {T base r : Nat} {A : Option Addr} {n c : Nat} {xs : List Tr} (h : OT w T base A n c xs) (hg : Rd w w' r) (hr : r < base) : OT w' T base A n c xs :=
  h.kept fun g e hlt => hg.block g hlt (fun e2 => by
    injection e2 with e2
    have h1 := h.ge _ e
    simp at h1
    omega)
theorem TS.rd {w w' : World} {r : Nat} {A : Option Addr} {n c : Nat} {xs : List Tr} (h : TS w A n c xs) (hg : Rd w w' r) (hr : Ge A (r + 1)) : TS w' A n c xs :=
  h.kept fun p hp hlt => hg.block p.block hlt (fun e => by injection e with e; have := hr p hp; omega)
theorem ge_disj {g B : Nat} {A : Option Addr} (h : g < B) (k : Ge A B) : Disj (some ⟨g, 0, none⟩) A := fun p q hp hq e => by
  cases hp
  have := k q hq
  simp at e
  omega
theorem Rd.drew {w w' : World} {r : Nat} (h : Rd w w' r) : Rd w w'.drew r := ⟨h.os, h.tape, h.output, h.size, h.block⟩
theorem cell_rd {w w' : World} {r : Nat} {a : Addr} {v : Value} (hg : Rd w w' r) (hr : a.block ≠ r) (h : w.cell? a = some v) : w'.cell? a = some v :=
  (World.cell?_of_block (hg.block a.block (World.block_lt_of_cell? w a h) (fun e => hr (by injection e)))).trans h
/-- The next arena of a loop, in a box of its own. -/
def NxA (TB TR : TypeId) (wr wx : World) (r N g : Nat) : Prop :=
  Rd wr wx r ∧ RD wx TR r N ∧ wr.heap.size ≤ g ∧ ∃ s ys B m e, m ≤ 10 ∧ Blk wx g TB #[.int .i64 s, .slice B m e] ∧ TS wx B m e ys ∧ Ge B wr.heap.size ∧ Lt B wx.heap.size
theorem nxa_new {TI TB TR : TypeId} {wr w5 : World} {r N b5 m e : Nat} {s : Int} {ys : List Tr} {B : Option Addr} (ho : OT w5 TI b5 B m e ys) (hb : wr.heap.size ≤ b5) (hm : m ≤ 10) (hw : Rd wr w5 r) (hr : RD w5 TR r N) :
    NxA TB TR wr (w5.alloc (.cells #[.int .i64 s, .slice B m e] TB)) r N w5.heap.size :=
  ⟨hw.alloc _, hr.below ((below_new w5 _).mono hr.lt), hw.size, s, ys, B, m, e, hm, Blk.new _ _ _, ho.ts.alloc _, ho.ge.mono hb, fun p hp => by have := ho.lt p hp; simp; omega⟩
theorem nxa_set {TI TB TR : TypeId} {wr w5 : World} {r N b5 m e g : Nat} {z0 z1 : Value} {s : Int} {ys : List Tr} {B : Option Addr} (hg : Blk w5 g TB #[z0, z1]) (ho : OT w5 TI b5 B m e ys) (hb : g < b5) (hgr : wr.heap.size ≤ g) (hrl : r < wr.heap.size) (hm : m ≤ 10) (hw : Rd wr w5 r) (hr : RD w5 TR r N) :
    NxA TB TR wr ((w5.setCell ⟨g, 0, none⟩ (.int .i64 s)).setCell ⟨g, 1, none⟩ (.slice B m e)) r N g :=
  ⟨(hw.setCell hgr _).setCell hgr _, hr.below (((Below.refl _ _).setCell (show r + 1 ≤ g by omega) _).setCell (show r + 1 ≤ g by omega) _), hgr, s, ys, B, m, e, hm, by simpa using (hg.set_ 0 (.int .i64 s)).set_ 1 (.slice B m e), ((ho.setCell hb _).setCell hb _).ts, ho.ge.mono (by omega), fun p hp => by have := ho.lt p hp; simpa [World.setCell] using this⟩
/-- The arena of a loop. -/
def LoopA (TB TR : TypeId) (w wr : World) (r N g : Nat) : Prop :=
  ∃ s xs A n c, n ≤ 10 ∧ Blk wr w.heap.size TB #[.int .i64 0, .slice none 0 0] ∧ Blk wr g TB #[.int .i64 s, .slice A n c] ∧ TS wr A n c xs ∧ Ge A (w.heap.size + 1) ∧ Disj (some ⟨g, 0, none⟩) A ∧ Lt A wr.heap.size ∧ RD wr TR r N ∧ Rd w wr r
/-- The loop's arena stays. -/
theorem LoopA.stay {TB TR : TypeId} {w wr wx : World} {r N M g : Nat} (h : LoopA TB TR w wr r N g) (hr : r < w.heap.size) (hwg : w.heap.size < g) (hw : Rd wr wx r) (hd : RD wx TR r M) : LoopA TB TR w wx r M g := by
  obtain ⟨s, xs, A, n, c, hn, q, x, t, ge, dj, lt, _, rd⟩ := h
  exact ⟨s, xs, A, n, c, hn, q.rd hw (by omega), x.rd hw (by omega), t.rd hw (ge.mono (by omega)), ge, dj, fun p hp => Nat.lt_of_lt_of_le (lt p hp) hw.size, hd, rd.trans hw⟩
/-- The loop's arena is the next one. -/
theorem LoopA.next {TB TR : TypeId} {w wr wx : World} {r N M g m e : Nat} {s : Int} {ys : List Tr} {B : Option Addr} (h : LoopA TB TR w wr r N g) (hr : r < w.heap.size) (hwg : w.heap.size < g) (hw : Rd wr wx r) (hd : RD wx TR r M)
    (hm : m ≤ 10) (hy : TS wx B m e ys) (hb : Ge B wr.heap.size) (hlt : Lt B wx.heap.size) : LoopA TB TR w ((wx.setCell ⟨g, 0, none⟩ (.int .i64 s)).setCell ⟨g, 1, none⟩ (.slice B m e)) r M g := by
  obtain ⟨s0, xs, A, n, c, hn, q, x, t, ge, dj, _, _, rd⟩ := h
  have hgl := x.lt
  have hws := rd.size
  have DN : Disj (some ⟨g, 0, none⟩) B := ge_disj hgl hb
  refine ⟨s, ys, B, m, e, hm, ?_, ?_, ?_, hb.mono (by omega), DN, fun p hp => by have := hlt p hp; simpa [World.setCell] using this, ?_, ?_⟩
  · exact ((q.rd hw (by omega)).far (show w.heap.size ≠ g by omega) _).far (show w.heap.size ≠ g by omega) _
  · simpa using ((x.rd hw (by omega)).set_ 0 (.int .i64 s)).set_ 1 (.slice B m e)
  · exact (hy.setCell DN _).setCell DN _
  · exact hd.below (((Below.refl _ _).setCell (show r + 1 ≤ g by omega) _).setCell (show r + 1 ≤ g by omega) _)
  · exact ((rd.trans hw).setCell (show w.heap.size ≤ g by omega) _).setCell (show w.heap.size ≤ g by omega) _
set_option maxHeartbeats 4000000 in
theorem someArena_any (r N : Nat) (w : World) (h : RD w 69 r N) (hN : N ≤ 700000) :
    Calls Try.prog 56 #[.pointer (some ⟨r, 0, none⟩)] w (DrewAr 69 w r (N + 50) 10) := by
  have hr := h.lt
  have H := Lib.hid h
  clear h
  go_enter Try.func56, Try.ntmps56
  go_wp2_with (fail)
  refine (one_any (xs := [32, 64, 20, 10, 0]) (fun _ => True) r N _ (H.out.below (((below_new w _).trans ((below_new _ _).mono (by simp))).mono (by omega))) (by omega) (by simpa using OW.lit (w.alloc (.cells #[.int .i64 0, .slice none 0 0] 25)) 3 (r + 1) [32, 64, 20, 10, 0] (by simp; omega) (by simp)) (by omega) (by omega) (by simp)).mono ?_
  rintro e w1 ⟨s0, rfl, _, hr1, hw1⟩
  have R1 := Lib.hid hr1
  have W1 := Lib.hid ((Rd.of_below ((below_new w (.cells #[.int .i64 0, .slice none 0 0] 25)).trans ((below_new _ (.cells #[.int .i64 32, .int .i64 64, .int .i64 20, .int .i64 10, .int .i64 0] 3)).mono (by simp)))).trans hw1)
  have Q1 := Lib.hid (((Blk.new w 25 #[.int .i64 0, .slice none 0 0]).alloc (.cells #[.int .i64 32, .int .i64 64, .int .i64 20, .int .i64 10, .int .i64 0] 3)).rd hw1 (by omega))
  have hz1 : w.heap.size + 1 + 1 ≤ w1.heap.size := by have := hw1.size; simp at this; omega
  clear hr1 hw1
  go_wp2_with (fail)
  refine (one_any (xs := [5, 8, 3, 12, 0]) (fun x => 0 ≤ x ∧ x ≤ 12) r (N + 1) _ (R1.out.below ((((below_new w1 (.cells #[] 39)).alloc (by simp) (.cells #[.int .i64 s0, .slice (some ⟨w1.heap.size, 0, none⟩) 0 0] 25)).alloc (by simp; omega) (.cells #[.int .i64 5, .int .i64 8, .int .i64 3, .int .i64 12, .int .i64 0] 3)).mono (by omega))) (by omega) (by simpa using OW.lit ((w1.alloc (.cells #[] 39)).alloc (.cells #[.int .i64 s0, .slice (some ⟨w1.heap.size, 0, none⟩) 0 0] 25)) 3 (r + 1) [5, 8, 3, 12, 0] (by simp; omega) (by simp)) (by omega) (by omega) (by simp)).mono ?_
  rintro e w2 ⟨k0, rfl, ⟨hk0, hk1⟩, hr2, hw2⟩
  obtain ⟨m, rfl⟩ := Int.eq_ofNat_of_zero_le hk0
  have R2 := Lib.hid hr2
  have W2 := Lib.hid ((((W1.out.alloc (.cells #[] 39)).alloc (.cells #[.int .i64 s0, .slice (some ⟨w1.heap.size, 0, none⟩) 0 0] 25)).alloc (.cells #[.int .i64 5, .int .i64 8, .int .i64 3, .int .i64 12, .int .i64 0] 3)).trans hw2)
  have Q2 := Lib.hid ((((Q1.out.alloc (.cells #[] 39)).alloc (.cells #[.int .i64 s0, .slice (some ⟨w1.heap.size, 0, none⟩) 0 0] 25)).alloc (.cells #[.int .i64 5, .int .i64 8, .int .i64 3, .int .i64 12, .int .i64 0] 3)).rd hw2 (by omega))
  have X2 : Hid (Blk w2 (w1.heap.size + 1) 25 #[.int .i64 s0, .slice (some ⟨w1.heap.size, 0, none⟩) 0 0]) := Lib.hid (((by simpa using Blk.new (w1.alloc (.cells #[] 39)) 25 #[.int .i64 s0, .slice (some ⟨w1.heap.size, 0, none⟩) 0 0] : Blk _ (w1.heap.size + 1) _ _).alloc (.cells #[.int .i64 5, .int .i64 8, .int .i64 3, .int .i64 12, .int .i64 0] 3)).rd hw2 (by omega))
  have I2 : Hid (TS w2 (some ⟨w1.heap.size, 0, none⟩) 0 0 []) := Lib.hid (TS.empty _ _ (by simp [maxLen]) (fun h => by cases h))
  clear hr2 hw2
  obtain ⟨g, eg⟩ : ∃ g, w1.heap.size + 1 = g := ⟨_, rfl⟩
  have hqg : w.heap.size < g := by omega
  have GE2 : Hid (Ge (some ⟨w1.heap.size, 0, none⟩) (w.heap.size + 1)) := Lib.hid (fun p hp => by cases hp; show w.heap.size + 1 ≤ w1.heap.size; omega)
  have DJ2 : Hid (Disj (some ⟨g, 0, none⟩) (some ⟨w1.heap.size, 0, none⟩)) := Lib.hid (fun p q hp hq => by cases hp; cases hq; show g ≠ w1.heap.size; omega)
  have LT2 : Hid (Lt (some ⟨w1.heap.size, 0, none⟩) w2.heap.size) := Lib.hid (fun p hp => by cases hp; have := X2.out.lt; show w1.heap.size < w2.heap.size; omega)
  rw [eg] at X2
  have L2 : Hid (LoopA 25 69 w w2 r (N + 2) g) := Lib.hid ⟨s0, [], _, 0, 0, by omega, Q2.out, X2.out, I2.out, GE2.out, DJ2.out, LT2.out, R2.out, W2.out⟩
  clear R1 W1 Q1 Q2 X2 I2 GE2 DJ2 LT2 R2 W2
  go_wp2_with (fail)
  try rw [eg]
  clear eg hz1
  go_loopw [4] (fun i wr => ∃ j : Nat, j ≤ 12 ∧ i = .int .i64 (j : Int) ∧ Hid (LoopA 25 69 w wr r (N + 2 + 4 * (12 - j)) g)) (fun i _ => (intOf i).toNat)
  case atStart => exact ⟨m, by omega, rfl, Lib.hid (by obtain ⟨s, xs, A, n, c, a1, a2, a3, a4, a5, a6, al, a7, a8⟩ := L2.out; exact ⟨s, xs, A, n, c, a1, a2, a3, a4, a5, a6, al, a7.mono (by omega), a8⟩)⟩
  case round =>
    obtain ⟨j, hj, rfl, L⟩ := hrel
    clear L2
    by_cases h0 : 0 < j
    · have h0' : (0 : Int) < (j : Int) := by omega
      have hw1 : IntKind.i64.wrap ((j : Int) - 1) = ((j - 1 : Nat) : Int) := by rw [IntKind.wrap_i64]; omega
      obtain ⟨s, xs, A, n, c, hn, q, x, t, ge, dj, lt, rd, rv⟩ := L.out
      obtain ⟨x0, x1⟩ := x.c2
      go_upto_region 5 with (fail)
      go_cut [4, 29] (fun s4 s29 wx => s4 = .int .i64 (j : Int) ∧ ∃ ok : Bool, s29 = .bool ok ∧ (ok = true → 0 < n) ∧ Hid (Rd wr wx r ∧ RD wx 69 r (N + 2 + 4 * (12 - j) + 1)))
      case first =>
        go_wp2_with (fail)
        refine (pick_any r _ 4 wr rd (by omega) (by omega)).mono ?_
        rintro e w2 ⟨k, rfl, hk0, hk1, hr2, hw2⟩
        obtain ⟨y0, y1⟩ := (x.rd hw2 (show g ≠ r by omega)).c2
        have HH := Lib.hid (And.intro hw2 hr2)
        clear x0 x1 q x t ge dj lt rd rv hr2 hw2 hk1 L
        by_cases hk2 : k = 0
        · subst hk2
          by_cases hn0 : 0 < n
          · have hn0' : (0 : Int) < (n : Int) := by omega
            go_wp2_with (fail)
            go_meet
            exact ⟨rfl, true, rfl, fun _ => hn0, HH⟩
          · obtain rfl : n = 0 := by omega
            go_wp2_with (fail)
            go_meet
            exact ⟨rfl, false, rfl, (fun h => by cases h), HH⟩
        · have d0 : (k == 0) = false := by simpa using hk2
          go_wp2_with (fail)
          go_meet
          exact ⟨rfl, false, rfl, (fun h => by cases h), HH⟩
      case rest =>
      obtain ⟨rfl, ok, rfl, hok, HH⟩ := hcut
      obtain ⟨w2, eW2⟩ : ∃ v : World, v = wc := ⟨_, rfl⟩
      rw [← eW2] at HH ⊢
      clear eW2 x0 x1
      obtain ⟨hw2, hr2⟩ := HH.out
      have L3 : Hid (LoopA 25 69 w w2 r (N + 2 + 4 * (12 - j) + 1) g) := Lib.hid (L.out.stay hr hqg hw2 hr2)
      have X3 := Lib.hid (x.rd hw2 (show g ≠ r by omega))
      have T3 := Lib.hid (t.rd hw2 (ge.mono (by omega)))
      have GE := Lib.hid ge
      have R3 := Lib.hid hr2
      have hz2 : w.heap.size ≤ w2.heap.size := Nat.le_trans rv.size hw2.size
      clear q x t ge dj lt rd rv hr2 hw2 L HH
      obtain ⟨x0, x1⟩ := X3.out.c2
      have hxr : g ≠ r := by omega
      have hrl : r < w2.heap.size := R3.out.lt
      go_upto_if 29 with (fail)
      go_cut [4] (fun s4 wx => s4 = .int .i64 (j : Int) ∧ Hid (LoopA 25 69 w wx r (N + 2 + 4 * (12 - j) + 2) g))
      case first =>
        rcases ok with _ | _
        case true =>
          have hn0 := hok rfl
          obtain ⟨b, off, _, rfl, _⟩ := T3.out.at_ hn0
          have hn0' : (0 : Int) < (n : Int) := by omega
          have hbr : b ≠ r := by have := GE.out _ rfl; simp at this; omega
          go_upto_region 6 with (fail)
          go_cut [5, 6] (fun s5 s6 wx => ∃ (g' : Nat) (ok : Bool), s5 = .pointer (some ⟨g', 0, none⟩) ∧ s6 = .bool ok ∧ Hid (NxA 25 69 w2 wx r (N + 2 + 4 * (12 - j) + 2) g'))
          case first =>
            go_region_held3 (fun w' => w'.cell? ⟨g, 0, none⟩ = some (.int .i64 s) ∧ w'.cell? ⟨g, 1, none⟩ = some (.slice (some ⟨b, off, none⟩) n c))
              ((repeat' apply And.intro) <;> first | (refine cell_rd (w := w2) ?_ hxr x0 <;> (repeat' (first | exact W3.out | exact W2.out | exact W1.out | exact Rd.refl _ _ | with_reducible refine Rd.drew ?_ | with_reducible refine Rd.alloc ?_ _ | with_reducible refine Rd.setCell ?_ ?_ _ | omega | (simp; done) | (simp; omega)))) | (refine cell_rd (w := w2) ?_ hxr x1 <;> (repeat' (first | exact W3.out | exact W2.out | exact W1.out | exact Rd.refl _ _ | with_reducible refine Rd.drew ?_ | with_reducible refine Rd.alloc ?_ _ | with_reducible refine Rd.setCell ?_ ?_ _ | omega | (simp; done) | (simp; omega)))) | (refine cell_rd (w := w2) ?_ hbr y0 <;> (repeat' (first | exact W3.out | exact W2.out | exact W1.out | exact Rd.refl _ _ | with_reducible refine Rd.drew ?_ | with_reducible refine Rd.alloc ?_ _ | with_reducible refine Rd.setCell ?_ ?_ _ | omega | (simp; done) | (simp; omega)))))
              (first
               | (go_at_call 41; refine shut_copy (by assumption) (fun hk => ?_); ((with_reducible refine (pick_any r _ (n : Int) _ (R3.out.below (by repeat (first | exact Below.refl _ _ | with_reducible refine Below.drew ?_ | with_reducible refine Below.alloc ?_ (by first | omega | (simp; done) | (simp; omega)) _))) (by omega) (by omega)).mono ?_); rintro e w1' ⟨k2, rfl, hk20, hk21, hr1, hw1'⟩; have hk22 := hk21 (by omega); obtain ⟨j2, rfl⟩ := Int.eq_ofNat_of_zero_le hk20; have hj2 : j2 < n := (by omega); have R1 := Lib.hid hr1; have W1 := Lib.hid ((Rd.of_below (a := w2) (by repeat (first | exact Below.refl _ _ | with_reducible refine Below.drew ?_ | with_reducible refine Below.alloc ?_ (by first | omega | (simp; done) | (simp; omega)) _))).trans hw1'); obtain ⟨_, _, y, ey, hy, y0, _, _⟩ := T3.out.at_ hj2; simp only [Option.some.injEq, Addr.mk.injEq, and_true] at ey; obtain ⟨rfl, rfl⟩ := ey; have z1 := W1.out.size; (try (have G1 := Lib.hid ((Blk.new w2 25 #[.int .i64 0, .slice none 0 0]).rd hw1' (by omega)))); (try (have G1 := Lib.hid ((Blk.new w2 25 #[.int .i64 0, .slice none 0 0]).drew.rd hw1' (by omega)))); clear hr1 hw1' hk21 hy; have hyc : w1'.cell? ⟨b, off + j2 * 3, none⟩ = some (.int .i64 y.a) := cell_rd W1.out hbr y0; rw [shut_eq (fun w' => w'.cell? ⟨b, off + j2 * 3, none⟩ = some (.int .i64 y.a)) hk] at *; clear hk))
               | (go_at_call 25; go_must (refine (spec_FreeBlock_any s y.a _ ((T3.out.rd W1.out (GE.out.mono (by omega))).below (by repeat (first | exact Below.refl _ _ | with_reducible refine Below.drew ?_ | with_reducible refine Below.alloc ?_ (by first | omega | (simp; done) | (simp; omega)) _)) (Nat.le_refl _))).mono ?_; rintro e w3' ⟨B1, m1, e1, rfl, ho1, hb⟩; have P1 := Lib.hid ho1; have z1r := R1.out.lt; have R4 := Lib.hid ((R1.out.below (by repeat (first | exact Below.refl _ _ | with_reducible refine Below.drew ?_ | with_reducible refine Below.alloc ?_ (by first | omega | (simp; done) | (simp; omega)) _))).below (hb.mono (by first | omega | (simp; done) | (simp; omega)))); have W3 := Lib.hid ((W1.out.trans (Rd.of_below (a := w1') (by repeat (first | exact Below.refl _ _ | with_reducible refine Below.drew ?_ | with_reducible refine Below.alloc ?_ (by first | omega | (simp; done) | (simp; omega)) _)))).trans (Rd.of_below hb)); have z3 := W3.out.size; have z31 := hb.size; (try simp at z31); (try (have G3 := Lib.hid ((Blk.new w1' 25 #[.int .i64 0, .slice none 0 0]).on hb))); (try (have G3 := Lib.hid (G1.out.on hb))); have hm1 : m1 ≤ 10 := (by have h1 := ho1.len; have h2 := frX_le s xs y.a; omega); (try obtain ⟨g30, g31⟩ := G3.out.c2); (try have g33 := G3.out.frozen 0); (try have g34 := G3.out.frozen 1); clear ho1 hb)))
            all_goals (go_wp2_with (fail); go_meet)
            all_goals (first
              | exact ⟨_, _, rfl, rfl, Lib.hid (nxa_new P1.out (by first | exact z1 | (simp; omega)) hm1 W3.out (R4.out.mono (by omega)))⟩
              | exact ⟨_, _, rfl, rfl, Lib.hid (nxa_set G3.out P1.out (by first | exact G1.out.lt | (simp; done) | (simp; omega) | omega) (by first | exact Nat.le_refl _ | exact z1) hrl hm1 W3.out (R4.out.mono (by omega)))⟩)
          case rest =>
            obtain ⟨g', ok, rfl, rfl, HN⟩ := hcut
            obtain ⟨hg, hd, hgg, s', ys, B, m, e, hm, k0, p1, p2, p3⟩ := HN.out
            have HG := Lib.hid hg
            have HD := Lib.hid hd
            have K0 := Lib.hid k0
            have P1 := Lib.hid p1
            have P2 := Lib.hid p2
            have P3 := Lib.hid p3
            have XC := Lib.hid (X3.out.rd hg hxr)
            have hgl : g < w2.heap.size := X3.out.lt
            clear hg hd k0 p1 p2 p3 x0 x1 HN
            obtain ⟨k00, k01⟩ := K0.out.c2
            have f0 := XC.out.frozen 0
            have f1 := XC.out.frozen 1
            obtain ⟨x0, x1⟩ := XC.out.c2
            have hgx : ¬ g' = g := by omega
            rcases ok with _ | _
            · go_wp2_with (fail)
              go_meet
              exact ⟨rfl, Lib.hid (L3.out.stay hr hqg HG.out HD.out)⟩
            · go_wp2_with (fail)
              go_meet
              exact ⟨rfl, Lib.hid (L3.out.next hr hqg HG.out HD.out hm P1.out P2.out P3.out)⟩
        case false =>
          have L4 : Hid (LoopA 25 69 w w2 r (N + 2 + 4 * (12 - j) + 2) g) := Lib.hid (by obtain ⟨s, xs, A, n, c, a1, a2, a3, a4, a5, a6, al, a7, a8⟩ := L3.out; exact ⟨s, xs, A, n, c, a1, a2, a3, a4, a5, a6, al, a7.mono (by omega), a8⟩)
          go_wp2_with (fail)
          go_meet
          exact ⟨rfl, L4⟩
      case rest =>
        obtain ⟨rfl, L5⟩ := hcut
        obtain ⟨w5, e5⟩ : ∃ v : World, v = wc := ⟨_, rfl⟩
        rw [← e5] at L5 ⊢
        clear e5
        clear x0 x1 X3 T3 GE R3 L3 hz2 hrl hok
        obtain ⟨s, xs, A, n, c, hn, q, x, t, ge, dj, lt, rd, rv⟩ := L5.out
        have X5 := Lib.hid x
        have T5 := Lib.hid t
        have GE5 := Lib.hid ge
        have R5 := Lib.hid rd
        have hrl : r < w5.heap.size := rd.lt
        clear q x t ge dj lt rd rv
        obtain ⟨x0, x1⟩ := X5.out.c2
        go_upto_region 9 with (fail)
        go_cut [4, 7, 8] (fun s4 s7 s8 wx => s4 = .int .i64 (j : Int) ∧ ∃ (g' : Nat) (ok : Bool), s7 = .pointer (some ⟨g', 0, none⟩) ∧ s8 = .bool ok ∧ Hid (NxA 25 69 w5 wx r (N + 2 + 4 * (12 - (j - 1))) g'))
        case first =>
          go_region_held3 (fun w' => w'.cell? ⟨g, 0, none⟩ = some (.int .i64 s) ∧ w'.cell? ⟨g, 1, none⟩ = some (.slice A n c))
            ((repeat' apply And.intro) <;> first | (refine cell_rd (w := w5) ?_ hxr x0 <;> (repeat' (first | exact W3.out | exact W2.out | exact W1.out | exact Rd.refl _ _ | with_reducible refine Rd.drew ?_ | with_reducible refine Rd.alloc ?_ _ | with_reducible refine Rd.setCell ?_ ?_ _ | omega | (simp; done) | (simp; omega)))) | (refine cell_rd (w := w5) ?_ hxr x1 <;> (repeat' (first | exact W3.out | exact W2.out | exact W1.out | exact Rd.refl _ _ | with_reducible refine Rd.drew ?_ | with_reducible refine Rd.alloc ?_ _ | with_reducible refine Rd.setCell ?_ ?_ _ | omega | (simp; done) | (simp; omega)))))
            (first
             | (go_at_call 41; ((with_reducible refine (pick_any r _ 12 _ (R5.out.below (by repeat (first | exact Below.refl _ _ | with_reducible refine Below.drew ?_ | with_reducible refine Below.alloc ?_ (by first | omega | (simp; done) | (simp; omega)) _))) (by omega) (by omega)).mono ?_); rintro e w1' ⟨k1, rfl, _, _, hr1, hw1'⟩; have R1 := Lib.hid hr1; have W1 := Lib.hid ((Rd.of_below (a := w5) (by repeat (first | exact Below.refl _ _ | with_reducible refine Below.drew ?_ | with_reducible refine Below.alloc ?_ (by first | omega | (simp; done) | (simp; omega)) _))).trans hw1'); have z1 := W1.out.size; (try (have G1 := Lib.hid ((Blk.new w5 25 #[.int .i64 0, .slice none 0 0]).rd hw1' (by omega)))); (try (have G1 := Lib.hid ((Blk.new w5 25 #[.int .i64 0, .slice none 0 0]).drew.rd hw1' (by omega)))); clear hr1 hw1'))
             | (go_at_call 41; ((with_reducible refine (pick_any r _ 9 _ (R1.out.below (by repeat (first | exact Below.refl _ _ | with_reducible refine Below.drew ?_ | with_reducible refine Below.alloc ?_ (by first | omega | (simp; done) | (simp; omega)) _))) (by omega) (by omega)).mono ?_); rintro e w2' ⟨k2, rfl, k20, k21, hr2, hw2⟩; have k22 := k21 (by omega); have hwk : IntKind.i64.wrap (1 + k2) = 1 + k2 := (by rw [IntKind.wrap_i64]; omega); have R2 := Lib.hid hr2; have z1r := R1.out.lt; have W2 := Lib.hid (W1.out.trans ((Rd.of_below (a := w1') (by repeat (first | exact Below.refl _ _ | with_reducible refine Below.drew ?_ | with_reducible refine Below.alloc ?_ (by first | omega | (simp; done) | (simp; omega)) _))).trans hw2)); have z2 := W2.out.size; have z21 := hw2.size; (try simp at z21); (try (have G2 := Lib.hid ((Blk.new w1' 25 #[.int .i64 0, .slice none 0 0]).rd hw2 (by omega)))); (try (have G2 := Lib.hid (G1.out.rd hw2 (by omega)))); clear hr2 hw2 k21))
             | (go_at_call 19; go_must (refine (spec_AllocBlock_any s k1 (1 + k2) _ ((T5.out.rd W2.out (GE5.out.mono (by omega))).below (by repeat (first | exact Below.refl _ _ | with_reducible refine Below.drew ?_ | with_reducible refine Below.alloc ?_ (by first | omega | (simp; done) | (simp; omega)) _)) (Nat.le_refl _))).mono ?_; rintro e w3' ⟨B1, m1, e1, rfl, ho1, hb⟩; have P1 := Lib.hid ho1; have z2r := R2.out.lt; have R3 := Lib.hid ((R2.out.below (by repeat (first | exact Below.refl _ _ | with_reducible refine Below.drew ?_ | with_reducible refine Below.alloc ?_ (by first | omega | (simp; done) | (simp; omega)) _))).below (hb.mono (by first | omega | (simp; done) | (simp; omega)))); have W3 := Lib.hid ((W2.out.trans (Rd.of_below (a := w2') (by repeat (first | exact Below.refl _ _ | with_reducible refine Below.drew ?_ | with_reducible refine Below.alloc ?_ (by first | omega | (simp; done) | (simp; omega)) _)))).trans (Rd.of_below hb)); have z3 := W3.out.size; have z32 := hb.size; (try simp at z32); (try (have G3 := Lib.hid ((Blk.new w2' 25 #[.int .i64 0, .slice none 0 0]).on hb))); (try (have G3 := Lib.hid (G2.out.on hb))); have hm1 : m1 ≤ 10 := (by have h1 := ho1.len; have h2 := alX_le s xs k1 (1 + k2); omega); (try obtain ⟨g30, g31⟩ := G3.out.c2); (try have g33 := G3.out.frozen 0); (try have g34 := G3.out.frozen 1); clear ho1 hb)))
          all_goals (go_wp2_with (fail); go_meet)
          all_goals (first
            | exact ⟨rfl, _, _, rfl, rfl, Lib.hid (nxa_new P1.out (by first | exact z2 | (simp; omega)) hm1 W3.out (R3.out.mono (by omega)))⟩
            | exact ⟨rfl, _, _, rfl, rfl, Lib.hid (nxa_set G3.out P1.out (by first | exact G2.out.lt | (simp; done) | (simp; omega) | omega) (by first | exact Nat.le_refl _ | exact z1 | exact z2) hrl hm1 W3.out (R3.out.mono (by omega)))⟩)
        case rest =>
          obtain ⟨rfl, g', ok, rfl, rfl, HN⟩ := hcut
          obtain ⟨hg, hd, hgg, s', ys, B, m, e, hm, k0, p1, p2, p3⟩ := HN.out
          have HG := Lib.hid hg
          have HD := Lib.hid hd
          have K0 := Lib.hid k0
          have P1 := Lib.hid p1
          have P2 := Lib.hid p2
          have P3 := Lib.hid p3
          have XC := Lib.hid (X5.out.rd hg hxr)
          have hgl : g < w5.heap.size := X5.out.lt
          clear hg hd k0 p1 p2 p3 x0 x1 HN
          obtain ⟨k00, k01⟩ := K0.out.c2
          have f0 := XC.out.frozen 0
          have f1 := XC.out.frozen 1
          obtain ⟨x0, x1⟩ := XC.out.c2
          have hgx : ¬ g' = g := by omega
          rcases ok with _ | _
          · go_wp2_with (fail)
            go_roundw
            case rel => exact ⟨j - 1, by omega, by first | rfl | go_num, Lib.hid (L5.out.stay hr hqg HG.out HD.out)⟩
            case measure => simp [intOf]; omega
          · go_wp2_with (fail)
            go_roundw
            case rel => exact ⟨j - 1, by omega, by first | rfl | go_num, Lib.hid (L5.out.next hr hqg HG.out HD.out hm P1.out P2.out P3.out)⟩
            case measure => simp [intOf]; omega
    · obtain rfl : j = 0 := by omega
      obtain ⟨s, xs, A, n, c, hn, q, x, t, ge, dj, lt, rd, rv⟩ := L.out
      have T5 := Lib.hid t
      have R5 := Lib.hid rd
      have V5 := Lib.hid rv
      have GE5 := Lib.hid ge
      have Q5 := Lib.hid q
      have X5 := Lib.hid x
      have LT5 := Lib.hid lt
      clear q x t ge dj lt rd rv
      obtain ⟨x0, x1⟩ := X5.out.c2
      obtain ⟨qa, qb⟩ := Q5.out.c2
      have f0 := Q5.out.frozen 0
      have f1 := Q5.out.frozen 1
      go_wp2_with (fail)
      refine bodyPost_ret (v := .agg #[.int .i64 s, .slice A n c]) (by simp [results, Try.results56, go_sem, qa, qb]) rfl ?_
      refine ⟨s, xs, A, n, c, rfl, hn, ?_, GE5.out.mono (by omega), (fun p hp => by have := LT5.out p hp; simpa [World.setCell] using this), ?_, ?_⟩
      · have DQ := ge_disj (Nat.lt_succ_self w.heap.size) GE5.out
        repeat' (first | with_reducible exact T5.out | with_reducible refine TS.setCell ?_ ?_ _ | exact DQ)
      · refine RD.mono (RD.below R5.out ?_) (show N + 2 + 4 * (12 - 0) ≤ N + 50 by omega)
        repeat' (first | exact Below.refl _ _ | with_reducible refine Below.drew ?_ | with_reducible refine Below.setCell ?_ ?_ _ | exact hr)
      · repeat' (first | with_reducible exact V5.out | with_reducible refine Rd.drew ?_ | with_reducible refine Rd.setCell ?_ ?_ _ | exact Nat.le_refl _)
end Go.Proofs.Ytleoncjdhlomaaa
