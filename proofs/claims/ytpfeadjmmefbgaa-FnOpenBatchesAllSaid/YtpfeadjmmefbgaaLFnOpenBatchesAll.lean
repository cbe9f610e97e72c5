/-
  The walk of FnOpenBatchesAll. (Its words were written by a program of my own.)
-/
import Derived.Test.YtpfeadjmmefbgaaWiO
import Derived.Test.YtpfeadjmmefbgaaLawW
import Derived.Test.YtpfeadjmmefbgaaDrawW
import Derived.Test.YtpfeadjmmefbgaaWiT
import Derived.Test.YtpfeadjmmefbgaaWiU
import Derived.Deep.RegionHeld3
import Derived.Deep.DeepMust
import Derived.Deep.DeepCutAuto
namespace Go.Proofs.Ytpfeadjmmefbgaa
open Go.RowKit
-- CALL: W s0
set_option maxHeartbeats 2000000 in
theorem walk_FnOpenBatchesAll {A : Option Addr} {n c : Nat} {zs : List Int} (w : World) (h : BS w A n c zs) :
    Calls Try.prog 5 #[.slice A n c] w fun e w' => e = .returned (.bool true) ∧ Below w.heap.size w w' := by
  have H := Lib.hid h
  clear h
  rcases Nat.lt_or_ge 1048576 n with h1 | h1
  · have h1' : (1048576 : Int) < (n : Int) := by omega
    go_enter Try.func5, Try.ntmps5
    go_wp2_with (fail)
    go_ret
    exact ⟨rfl, Below.refl _ _⟩
  have h1' : ¬ (1048576 : Int) < (n : Int) := by omega
  go_enter Try.func5, Try.ntmps5
  go_wp2_with (fail)
  refine (spec_DrawOpenBatches_any w H.out h1).mono ?_
  rintro e w1 ⟨b, nx, xs, A1, n1, c1, rfl, ⟨hb0, hb1⟩, ⟨hx0, hx1⟩, hn1, hI1, hb⟩
  have I1 := Lib.hid hI1
  have B1 := Lib.hid hb
  have hz1 := B1.out.size
  clear hb hI1
  replace I1 := Lib.hid (I1.out.alloc (.cells #[.int .i64 b, .int .i64 nx, .slice A1 n1 c1] 25))
  replace B1 := Lib.hid (B1.out.alloc B1.out.size (.cells #[.int .i64 b, .int .i64 nx, .slice A1 n1 c1] 25))
  have X := Lib.hid (Blk.new w1 25 #[.int .i64 b, .int .i64 nx, .slice A1 n1 c1])
  obtain ⟨os, eo⟩ : ∃ v, openL b nx xs = v := ⟨_, rfl⟩
  have HO := Lib.hid eo
  have hle := openL_le b nx xs
  rw [eo] at hle
  clear eo
  go_wp2_with (fail)
  refine (ints_at (impl_OpenBatches_any b nx _ I1.out) HO.out).mono ?_
  rintro e w2 ⟨A2, n2, c2, rfl, ho, hb⟩
  have HL := Lib.hid ho.len
  have hn2 : n2 ≤ 8 := by have := HL.out; omega
  replace I1 := Lib.hid (I1.out.below hb (Nat.le_refl _))
  replace X := Lib.hid (X.out.on hb)
  replace B1 := Lib.hid (B1.out.trans (hb.mono B1.out.size))
  clear hb
  have I2 := Lib.hid ho.is
  clear ho hle
  rcases Nat.eq_zero_or_pos n2 with h0 | h0
  · skip
    subst h0
    obtain ⟨x0, x1, x2⟩ := X.out.c3
    go_wp2_with (fail)
    refine (ints_at (spec_OpenBatches_any b nx _ I1.out) HO.out).mono ?_
    clear x0 x1 x2
    rintro e w3 ⟨A3, n3, c3, rfl, ho, hb⟩
    replace I1 := Lib.hid (I1.out.below hb (Nat.le_refl _))
    replace I2 := Lib.hid (I2.out.below hb (Nat.le_refl _))
    replace X := Lib.hid (X.out.on hb)
    replace B1 := Lib.hid (B1.out.trans (hb.mono B1.out.size))
    clear hb
    have I3 := Lib.hid ho.is
    obtain ⟨x0, x1, x2⟩ := X.out.c3
    go_wp2_with (fail)
    refine (equalInts_same _ I2.out I3.out).mono ?_
    clear x0 x1 x2
    rintro e w4 ⟨rfl, hb⟩
    replace I1 := Lib.hid (I1.out.below hb (Nat.le_refl _))
    replace I2 := Lib.hid (I2.out.below hb (Nat.le_refl _))
    replace I3 := Lib.hid (I3.out.below hb (Nat.le_refl _))
    replace X := Lib.hid (X.out.on hb)
    replace B1 := Lib.hid (B1.out.trans (hb.mono B1.out.size))
    clear hb
    clear I3
    clear ho
    obtain ⟨x0, x1, x2⟩ := X.out.c3
    go_wp2_with (fail)
    refine (ints_at (spec_OpenBatches_any b nx _ I1.out) HO.out).mono ?_
    clear x0 x1 x2
    rintro e w5 ⟨A3, n3, c3, rfl, ho, hb⟩
    replace I1 := Lib.hid (I1.out.below hb (Nat.le_refl _))
    replace I2 := Lib.hid (I2.out.below hb (Nat.le_refl _))
    replace X := Lib.hid (X.out.on hb)
    replace B1 := Lib.hid (B1.out.trans (hb.mono B1.out.size))
    clear hb
    have I3 := Lib.hid ho.is
    obtain ⟨x0, x1, x2⟩ := X.out.c3
    go_wp2_with (fail)
    refine (equalInts_same _ I2.out I3.out).mono ?_
    clear x0 x1 x2
    rintro e w6 ⟨rfl, hb⟩
    replace I1 := Lib.hid (I1.out.below hb (Nat.le_refl _))
    replace I2 := Lib.hid (I2.out.below hb (Nat.le_refl _))
    replace I3 := Lib.hid (I3.out.below hb (Nat.le_refl _))
    replace X := Lib.hid (X.out.on hb)
    replace B1 := Lib.hid (B1.out.trans (hb.mono B1.out.size))
    clear hb
    clear I3
    clear ho
    go_wp2_with (fail)
    go_ret
    exact ⟨ret_bool (by first | rfl | (simp; done) | (simp; omega)), B1.out⟩
  have g1 : ((n2 : Int) == 0) = false := by simp; omega
  rcases Int.lt_or_le 1000 nx with hx | hx
  · skip
    obtain ⟨x0, x1, x2⟩ := X.out.c3
    go_wp2_with (fail)
    refine (ints_at (spec_OpenBatches_any b nx _ I1.out) HO.out).mono ?_
    clear x0 x1 x2
    rintro e w3 ⟨A3, n3, c3, rfl, ho, hb⟩
    replace I1 := Lib.hid (I1.out.below hb (Nat.le_refl _))
    replace I2 := Lib.hid (I2.out.below hb (Nat.le_refl _))
    replace X := Lib.hid (X.out.on hb)
    replace B1 := Lib.hid (B1.out.trans (hb.mono B1.out.size))
    clear hb
    have I3 := Lib.hid ho.is
    obtain ⟨x0, x1, x2⟩ := X.out.c3
    go_wp2_with (fail)
    refine (equalInts_same _ I2.out I3.out).mono ?_
    clear x0 x1 x2
    rintro e w4 ⟨rfl, hb⟩
    replace I1 := Lib.hid (I1.out.below hb (Nat.le_refl _))
    replace I2 := Lib.hid (I2.out.below hb (Nat.le_refl _))
    replace I3 := Lib.hid (I3.out.below hb (Nat.le_refl _))
    replace X := Lib.hid (X.out.on hb)
    replace B1 := Lib.hid (B1.out.trans (hb.mono B1.out.size))
    clear hb
    clear I3
    clear ho
    obtain ⟨x0, x1, x2⟩ := X.out.c3
    go_wp2_with (fail)
    refine (ints_at (spec_OpenBatches_any b nx _ I1.out) HO.out).mono ?_
    clear x0 x1 x2
    rintro e w5 ⟨A3, n3, c3, rfl, ho, hb⟩
    replace I1 := Lib.hid (I1.out.below hb (Nat.le_refl _))
    replace I2 := Lib.hid (I2.out.below hb (Nat.le_refl _))
    replace X := Lib.hid (X.out.on hb)
    replace B1 := Lib.hid (B1.out.trans (hb.mono B1.out.size))
    clear hb
    have I3 := Lib.hid ho.is
    obtain ⟨x0, x1, x2⟩ := X.out.c3
    go_wp2_with (fail)
    refine (equalInts_same _ I2.out I3.out).mono ?_
    clear x0 x1 x2
    rintro e w6 ⟨rfl, hb⟩
    replace I1 := Lib.hid (I1.out.below hb (Nat.le_refl _))
    replace I2 := Lib.hid (I2.out.below hb (Nat.le_refl _))
    replace I3 := Lib.hid (I3.out.below hb (Nat.le_refl _))
    replace X := Lib.hid (X.out.on hb)
    replace B1 := Lib.hid (B1.out.trans (hb.mono B1.out.size))
    clear hb
    clear I3
    clear ho
    go_wp2_with (fail)
    go_ret
    exact ⟨ret_bool (by first | rfl | (simp; done) | (simp; omega)), B1.out⟩
  have g2 : ¬ 1000 < nx := by omega
  have hw : winV b nx xs = true := by
    rcases h : winV b nx xs with _ | _
    · have h1 := HO.out
      rw [openL_f h] at h1
      have := HL.out
      rw [← h1] at this
      simp at this
      omega
    · rfl
  have HW := Lib.hid hw
  clear hw
  obtain ⟨x0, x1, x2⟩ := X.out.c3
  go_wp2_with (fail)
  refine (ints_at (spec_OpenBatches_any b nx _ I1.out) HO.out).mono ?_
  clear x0 x1 x2
  rintro e w3 ⟨A3, n3, c3, rfl, ho, hb⟩
  replace I1 := Lib.hid (I1.out.below hb (Nat.le_refl _))
  replace I2 := Lib.hid (I2.out.below hb (Nat.le_refl _))
  replace X := Lib.hid (X.out.on hb)
  replace B1 := Lib.hid (B1.out.trans (hb.mono B1.out.size))
  clear hb
  have I3 := Lib.hid ho.is
  obtain ⟨x0, x1, x2⟩ := X.out.c3
  go_wp2_with (fail)
  refine (equalInts_same _ I2.out I3.out).mono ?_
  clear x0 x1 x2
  rintro e w4 ⟨rfl, hb⟩
  replace I1 := Lib.hid (I1.out.below hb (Nat.le_refl _))
  replace I2 := Lib.hid (I2.out.below hb (Nat.le_refl _))
  replace I3 := Lib.hid (I3.out.below hb (Nat.le_refl _))
  replace X := Lib.hid (X.out.on hb)
  replace B1 := Lib.hid (B1.out.trans (hb.mono B1.out.size))
  clear hb
  clear I3
  clear ho
  have gX := X.out.lt
  obtain ⟨g, off, v0, rfl, _, cg⟩ := I2.out.at_ (k := 0) h0
  have gG : g < w4.heap.size := World.block_lt_of_cell? w4 _ cg
  clear cg
  obtain ⟨x0, x1, x2⟩ := X.out.c3
  replace I1 := Lib.hid (I1.out.alloc (.cells #[.int .i64 b, .int .i64 nx, .slice A1 n1 c1] 25))
  replace I2 := Lib.hid (I2.out.alloc (.cells #[.int .i64 b, .int .i64 nx, .slice A1 n1 c1] 25))
  replace X := Lib.hid (X.out.alloc (.cells #[.int .i64 b, .int .i64 nx, .slice A1 n1 c1] 25))
  replace B1 := Lib.hid (B1.out.alloc B1.out.size (.cells #[.int .i64 b, .int .i64 nx, .slice A1 n1 c1] 25))
  have M := Lib.hid (Blk.new w4 25 #[.int .i64 b, .int .i64 nx, .slice A1 n1 c1])
  have HAS : Hid (os.Pairwise (· < ·)) := Lib.hid (by rw [← HO.out]; exact open_asc b nx xs)
  have HDJ : Hid (Disj (some ⟨w4.heap.size, 0, none⟩) (some ⟨g, off, none⟩)) := Lib.hid (fun p q hp hq => by cases hp; cases hq; show w4.heap.size ≠ g; omega)
  have wp : IntKind.i64.wrap ((n2 : Int) - 1) = (n2 : Int) - 1 := by rw [IntKind.wrap_i64]; omega
  go_wp2_with (fail)
  clear x0 x1 x2
  go_loopw [6] (fun i wr => ∃ (k c m : Nat) (u : Int) (ys : List Int) (A : Option Addr), k ≤ n2 ∧ i = .int .i64 ((k : Int) - 1) ∧ Hid (winV u nx ys = true) ∧ Hid (openL u nx ys = os.take k) ∧ Hid (Blk wr w4.heap.size 25 #[.int .i64 u, .int .i64 nx, .slice A m c]) ∧ Hid (IS wr A m c ys) ∧ Hid (Blk wr w1.heap.size 25 #[.int .i64 b, .int .i64 nx, .slice A1 n1 c1]) ∧ Hid (IS wr (some ⟨g, off, none⟩) n2 c2 os) ∧ Hid (Below w.heap.size w wr)) (fun i _ => (intOf i + 1).toNat)
  case atStart => exact ⟨n2, c1, n1, b, xs, A1, Nat.le_refl _, by first | rfl | go_num, HW, Lib.hid (by rw [HO.out, List.take_of_length_le (by rw [HL.out]; exact Nat.le_refl _)]), M, I1, X, I2, B1⟩
  case round =>
    obtain ⟨k, c', m, u, ys, A', hk, rfl, hw, ho, Mr, Ir, Xr, Jr, Br⟩ := hrel
    clear M I1 X I2 B1
    by_cases hlt : 1 ≤ k
    · obtain ⟨j, rfl⟩ : ∃ j, k = j + 1 := ⟨k - 1, by omega⟩
      have ej : ((j + 1 : Nat) : Int) - 1 = (j : Int) := by omega
      rw [ej]
      have z0 : (0 : Int) ≤ (j : Int) := by omega
      have z1 : (j : Int) < (n2 : Int) := by omega
      have wj : IntKind.i64.wrap ((j : Int) - 1) = (j : Int) - 1 := by rw [IntKind.wrap_i64]; omega
      obtain ⟨_, _, v, e, hx, hc⟩ := Jr.out.at_ (k := j) (by omega)
      simp only [Option.some.injEq, Addr.mk.injEq, and_true] at e
      obtain ⟨rfl, rfl⟩ := e
      obtain ⟨ha1, ha2, ha3⟩ := all_ack hw.out (by omega) ho.out hx HAS.out
      obtain ⟨u2, eu⟩ : ∃ z, akU u nx ys v = z := ⟨_, rfl⟩
      obtain ⟨zs, ez⟩ : ∃ z, akL u nx ys v = z := ⟨_, rfl⟩
      rw [eu, ez] at ha2 ha3
      have HK := Lib.hid ha1
      have HU := Lib.hid eu
      have HZ := Lib.hid ez
      have HW2 := Lib.hid ha2
      have HO2 := Lib.hid ha3
      clear ha1 ha2 ha3 eu ez hx
      obtain ⟨m0, m1, m2⟩ := Mr.out.c3
      have ml := Mr.out.lt
      go_wp2_with (fail)
      go_region_held3 (fun w' => w'.cell? ⟨w4.heap.size, 0, none⟩ = some (.int .i64 u) ∧ w'.cell? ⟨w4.heap.size, 1, none⟩ = some (.int .i64 nx) ∧ w'.cell? ⟨w4.heap.size, 2, none⟩ = some (.slice A' m c') ∧ w'.cell? ⟨g, off + j, none⟩ = some (.int .i64 v))
        (refine And.intro ?_ (And.intro ?_ (And.intro ?_ ?_)) <;> ((first | with_reducible refine cell_up (w := wr) ?_ m0 | with_reducible refine cell_up (w := wr) ?_ m1 | with_reducible refine cell_up (w := wr) ?_ m2 | with_reducible refine cell_up (w := wr) ?_ hc); (repeat' (first | with_reducible exact HB.out | with_reducible exact Below.refl _ _ | with_reducible refine Below.drew ?_ | with_reducible refine Below.setCell ?_ (by first | omega | (simp; done) | (simp; omega)) _ | with_reducible refine Below.alloc ?_ (by first | omega | (simp; done) | (simp; omega)) _))))
        (first
          | (go_at_call 16; go_must (refine (ak_yes (impl_AckBatch_any u nx v _ (by first | exact Ir.out | exact Ir.out.drew | exact (Ir.out.alloc (.cells #[.int .i64 0, .int .i64 0, .slice none 0 0] 25)) | exact (Ir.out.alloc (.cells #[.int .i64 0, .int .i64 0, .slice none 0 0] 25)).drew)) HK.out HU.out HZ.out).mono ?_; rintro e w6 ⟨A6, n6, c6, rfl, o6, hb⟩; have HB : Hid (Below wr.heap.size wr w6) := Lib.hid (by first | exact hb | exact (Below.refl wr.heap.size wr).drew.trans hb | exact below_then (below_new wr (.cells #[.int .i64 0, .int .i64 0, .slice none 0 0] 25)) hb | exact below_then (Below.drew (below_new wr (.cells #[.int .i64 0, .int .i64 0, .slice none 0 0] 25))) hb); (try (have N0 : Hid (Blk w6 wr.heap.size 25 #[.int .i64 0, .int .i64 0, .slice none 0 0]) := Lib.hid (Blk.on (by first | exact Blk.new wr _ _ | exact (Blk.new wr _ _).drew) hb); have n0 := N0.out.frozen 0; have n1' := N0.out.frozen 1; have n2' := N0.out.frozen 2; obtain ⟨k0, k1, k2⟩ := N0.out.c3)); have O6 := Lib.hid o6; have zs6 := HB.out.size; clear o6 hb)))
      · skip
        have BV : Hid (Below wr.heap.size wr (w6.alloc (.cells #[.int .i64 u2, .int .i64 nx, .slice A6 n6 c6] 25))) := Lib.hid (HB.out.alloc HB.out.size _)
        have N := Lib.hid (Blk.new w6 25 #[.int .i64 u2, .int .i64 nx, .slice A6 n6 c6])
        have OV := Lib.hid (O6.out.alloc (.cells #[.int .i64 u2, .int .i64 nx, .slice A6 n6 c6] 25))
        have Mv := Lib.hid (Mr.out.on BV.out)
        have Xv := Lib.hid (Xr.out.on BV.out)
        have Jv := Lib.hid (Jr.out.below BV.out (Nat.le_refl _))
        have Bv := Lib.hid (Br.out.trans (BV.out.mono Br.out.size))
        obtain ⟨q0, q1, q2⟩ := N.out.c3
        have f0 := Mv.out.frozen 0
        have f1 := Mv.out.frozen 1
        have f2 := Mv.out.frozen 2
        obtain ⟨r0, r1, r2⟩ := Mv.out.c3
        clear m0 m1 m2 hc
        go_wp2_with (fail)
        go_roundw
        case rel =>
          refine ⟨j, c6, n6, u2, zs, A6, by omega, by first | rfl | go_num, HW2, HO2, ?_, ?_, ?_, ?_, ?_⟩
          · exact Lib.hid (((Mv.out.set_ 0 _).set_ 1 _).set_ 2 _)
          · exact Lib.hid (((OV.out.setCell (p := ⟨w4.heap.size, 0, none⟩) (by show w4.heap.size < wr.heap.size; exact ml) _).setCell (p := ⟨w4.heap.size, 1, none⟩) (by show w4.heap.size < wr.heap.size; exact ml) _).setCell (p := ⟨w4.heap.size, 2, none⟩) (by show w4.heap.size < wr.heap.size; exact ml) _).is
          · exact Lib.hid (((Xv.out.far (p := ⟨w4.heap.size, 0, none⟩) (by show w1.heap.size ≠ w4.heap.size; omega) _).far (p := ⟨w4.heap.size, 1, none⟩) (by show w1.heap.size ≠ w4.heap.size; omega) _).far (p := ⟨w4.heap.size, 2, none⟩) (by show w1.heap.size ≠ w4.heap.size; omega) _)
          · exact Lib.hid (((Jv.out.setCell (p := ⟨w4.heap.size, 0, none⟩) HDJ.out _).setCell (p := ⟨w4.heap.size, 1, none⟩) HDJ.out _).setCell (p := ⟨w4.heap.size, 2, none⟩) HDJ.out _)
          · exact Lib.hid (((Bv.out.setCell (by show w.heap.size ≤ w4.heap.size; omega) _).setCell (by show w.heap.size ≤ w4.heap.size; omega) _).setCell (by show w.heap.size ≤ w4.heap.size; omega) _)
        case measure => first | (simp [intOf]; done) | (simp [intOf]; omega)
      · skip
        have hbs : wr.heap.size < (wr.alloc (.cells #[.int .i64 0, .int .i64 0, .slice none 0 0] 25)).drew.heap.size := by show wr.heap.size < (wr.alloc (.cells #[.int .i64 0, .int .i64 0, .slice none 0 0] 25)).heap.size; simp
        have BV : Hid (Below wr.heap.size wr (((w6.setCell ⟨wr.heap.size, 0, none⟩ (.int .i64 u2)).setCell ⟨wr.heap.size, 1, none⟩ (.int .i64 nx)).setCell ⟨wr.heap.size, 2, none⟩ (.slice A6 n6 c6))) := Lib.hid (((HB.out.setCell (Nat.le_refl _) _).setCell (Nat.le_refl _) _).setCell (Nat.le_refl _) _)
        have N : Hid (Blk (((w6.setCell ⟨wr.heap.size, 0, none⟩ (.int .i64 u2)).setCell ⟨wr.heap.size, 1, none⟩ (.int .i64 nx)).setCell ⟨wr.heap.size, 2, none⟩ (.slice A6 n6 c6)) wr.heap.size 25 #[.int .i64 u2, .int .i64 nx, .slice A6 n6 c6]) := Lib.hid (((N0.out.set_ 0 _).set_ 1 _).set_ 2 _)
        have OV := Lib.hid (((O6.out.setCell (p := ⟨wr.heap.size, 0, none⟩) hbs (.int .i64 u2)).setCell (p := ⟨wr.heap.size, 1, none⟩) hbs (.int .i64 nx)).setCell (p := ⟨wr.heap.size, 2, none⟩) hbs (.slice A6 n6 c6))
        clear n0 n1' n2' k0 k1 k2
        have Mv := Lib.hid (Mr.out.on BV.out)
        have Xv := Lib.hid (Xr.out.on BV.out)
        have Jv := Lib.hid (Jr.out.below BV.out (Nat.le_refl _))
        have Bv := Lib.hid (Br.out.trans (BV.out.mono Br.out.size))
        obtain ⟨q0, q1, q2⟩ := N.out.c3
        have f0 := Mv.out.frozen 0
        have f1 := Mv.out.frozen 1
        have f2 := Mv.out.frozen 2
        obtain ⟨r0, r1, r2⟩ := Mv.out.c3
        clear m0 m1 m2 hc
        go_wp2_with (fail)
        go_roundw
        case rel =>
          refine ⟨j, c6, n6, u2, zs, A6, by omega, by first | rfl | go_num, HW2, HO2, ?_, ?_, ?_, ?_, ?_⟩
          · exact Lib.hid (((Mv.out.set_ 0 _).set_ 1 _).set_ 2 _)
          · exact Lib.hid (((OV.out.setCell (p := ⟨w4.heap.size, 0, none⟩) (by show w4.heap.size < (wr.alloc (.cells #[.int .i64 0, .int .i64 0, .slice none 0 0] 25)).heap.size; simp; omega) _).setCell (p := ⟨w4.heap.size, 1, none⟩) (by show w4.heap.size < (wr.alloc (.cells #[.int .i64 0, .int .i64 0, .slice none 0 0] 25)).heap.size; simp; omega) _).setCell (p := ⟨w4.heap.size, 2, none⟩) (by show w4.heap.size < (wr.alloc (.cells #[.int .i64 0, .int .i64 0, .slice none 0 0] 25)).heap.size; simp; omega) _).is
          · exact Lib.hid (((Xv.out.far (p := ⟨w4.heap.size, 0, none⟩) (by show w1.heap.size ≠ w4.heap.size; omega) _).far (p := ⟨w4.heap.size, 1, none⟩) (by show w1.heap.size ≠ w4.heap.size; omega) _).far (p := ⟨w4.heap.size, 2, none⟩) (by show w1.heap.size ≠ w4.heap.size; omega) _)
          · exact Lib.hid (((Jv.out.setCell (p := ⟨w4.heap.size, 0, none⟩) HDJ.out _).setCell (p := ⟨w4.heap.size, 1, none⟩) HDJ.out _).setCell (p := ⟨w4.heap.size, 2, none⟩) HDJ.out _)
          · exact Lib.hid (((Bv.out.setCell (by show w.heap.size ≤ w4.heap.size; omega) _).setCell (by show w.heap.size ≤ w4.heap.size; omega) _).setCell (by show w.heap.size ≤ w4.heap.size; omega) _)
        case measure => first | (simp [intOf]; done) | (simp [intOf]; omega)
    · obtain rfl : k = 0 := by omega
      have hge : ¬ (0 : Int) ≤ ((0 : Nat) : Int) - 1 := by omega
      have ho0 : openL u nx ys = [] := by rw [ho.out]; rfl
      have hun := all_end hw.out ho0
      subst hun
      have HO0 := Lib.hid ho0
      have huu : (u == u) = true := by simp
      clear ho0
      obtain ⟨m0, m1, m2⟩ := Mr.out.c3
      go_wp2_with (fail)
      refine (ints_at (impl_OpenBatches_any u u _ Ir.out) HO0.out).mono ?_
      clear m0 m1 m2
      rintro e w6 ⟨A6, n6, c6, rfl, o6, hb⟩
      obtain rfl : n6 = 0 := by simpa using o6.len.symm
      have Mv := Lib.hid (Mr.out.on hb)
      have Xv := Lib.hid (Xr.out.on hb)
      have Bv := Lib.hid (Br.out.trans (hb.mono Br.out.size))
      clear o6 hb
      obtain ⟨m0, m1, m2⟩ := Mv.out.c3
      obtain ⟨x0, x1, x2⟩ := Xv.out.c3
      go_wp2_with (fail)
      go_ret
      exact ⟨ret_bool (by first | rfl | (simp; done)), Bv.out⟩
end Go.Proofs.Ytpfeadjmmefbgaa
