/-
  The walk of FnQueueBytesPop. (Its words were written by a program of my own.)
-/
import Derived.Test.YthemfejahohbeaaPoN
import Derived.Test.YthemfejahohbeaaQuT
import Derived.Test.YthemfejahohbeaaArF0
import Derived.Deep.RegionHeld3
import Derived.Deep.DeepMust
import Derived.Deep.DeepCutAuto
namespace Go.Proofs.Ythemfejahohbeaa
open Go.RowKit
-- CALL: W s0
set_option maxHeartbeats 4000000 in
theorem walk_FnQueueBytesPop {A : Option Addr} {n c : Nat} {zs : List Int} (w : World) (h : BS w A n c zs) :
    Calls Try.prog 7 #[.slice A n c] w fun e w' => e = .returned (.bool true) ∧ Below w.heap.size w w' := by
  have H := Lib.hid h
  clear h
  rcases Nat.lt_or_ge 1048576 n with h1 | h1
  · have h1' : (1048576 : Int) < (n : Int) := by omega
    go_enter Try.func7, Try.ntmps7
    go_wp2_with (fail)
    go_ret
    exact ⟨rfl, Below.refl _ _⟩
  have h1' : ¬ (1048576 : Int) < (n : Int) := by omega
  go_enter Try.func7, Try.ntmps7
  go_wp2_with (fail)
  refine (spec_DrawPopEntry_any w H.out h1).mono ?_
  rintro e w1 ⟨xs, sh, db, t, A1, n1, c1, A2, n2, c2, A3, n3, c3, rfl, hn1, hn2, hn3, ⟨ht0, ht1⟩, i1, i2, i3, hb⟩
  have T1 := Lib.hid i1
  have S2 := Lib.hid i2
  have S3 := Lib.hid i3
  have B1 := Lib.hid hb
  have hz1 := B1.out.size
  clear hb i1 i2 i3
  replace T1 := Lib.hid (T1.out.alloc (.cells #[.slice A1 n1 c1, .slice A2 n2 c2, .slice A3 n3 c3, .int .i64 t] 26))
  replace S2 := Lib.hid (S2.out.alloc (.cells #[.slice A1 n1 c1, .slice A2 n2 c2, .slice A3 n3 c3, .int .i64 t] 26))
  replace S3 := Lib.hid (S3.out.alloc (.cells #[.slice A1 n1 c1, .slice A2 n2 c2, .slice A3 n3 c3, .int .i64 t] 26))
  replace B1 := Lib.hid (B1.out.alloc B1.out.size (.cells #[.slice A1 n1 c1, .slice A2 n2 c2, .slice A3 n3 c3, .int .i64 t] 26))
  have X := Lib.hid (Blk.new w1 26 #[.slice A1 n1 c1, .slice A2 n2 c2, .slice A3 n3 c3, .int .i64 t])
  obtain ⟨y, e1⟩ : ∃ v, popX xs sh db t = v := ⟨_, rfl⟩
  obtain ⟨ys, e2⟩ : ∃ v, popL xs sh db t = v := ⟨_, rfl⟩
  obtain ⟨sh2, e3⟩ : ∃ v, popH xs sh db t = v := ⟨_, rfl⟩
  obtain ⟨db2, e4⟩ : ∃ v, popD xs sh db t = v := ⟨_, rfl⟩
  obtain ⟨t2, e5⟩ : ∃ v, popT xs sh db t = v := ⟨_, rfl⟩
  obtain ⟨ok, e6⟩ : ∃ v, popOK xs sh db t = v := ⟨_, rfl⟩
  have E1 := Lib.hid e1
  have E2 := Lib.hid e2
  have E3 := Lib.hid e3
  have E4 := Lib.hid e4
  have E5 := Lib.hid e5
  have E6 := Lib.hid e6
  have HXL := Lib.hid T1.out.len
  clear e1 e2 e3 e4 e5 e6
  go_wp2_with (fail)
  refine (pop_at (impl_PopEntry_any t _ T1.out S2.out S3.out) E1.out E2.out E3.out E4.out E5.out E6.out).mono ?_
  rintro e w2 ⟨A5, n5, c5, A6, n6, c6, A7, n7, c7, rfl, o5, o6, o7, _, _, _, hb⟩
  have L5 := Lib.hid o5.len
  have L6 := Lib.hid o6.len
  have L7 := Lib.hid o7.len
  replace T1 := Lib.hid (T1.out.below hb (Nat.le_refl _))
  replace S2 := Lib.hid (S2.out.below hb (Nat.le_refl _))
  replace S3 := Lib.hid (S3.out.below hb (Nat.le_refl _))
  replace X := Lib.hid (X.out.on hb)
  replace B1 := Lib.hid (B1.out.trans (hb.mono B1.out.size))
  clear hb
  have P5 := Lib.hid o5.ts
  have P6 := Lib.hid o6.is
  have P7 := Lib.hid o7.is
  clear o5 o6 o7
  replace T1 := Lib.hid (T1.out.alloc (.cells #[.int .i64 y.a, .int .i64 y.b, .int .i64 y.c] 29))
  replace S2 := Lib.hid (S2.out.alloc (.cells #[.int .i64 y.a, .int .i64 y.b, .int .i64 y.c] 29))
  replace S3 := Lib.hid (S3.out.alloc (.cells #[.int .i64 y.a, .int .i64 y.b, .int .i64 y.c] 29))
  replace P5 := Lib.hid (P5.out.alloc (.cells #[.int .i64 y.a, .int .i64 y.b, .int .i64 y.c] 29))
  replace P6 := Lib.hid (P6.out.alloc (.cells #[.int .i64 y.a, .int .i64 y.b, .int .i64 y.c] 29))
  replace P7 := Lib.hid (P7.out.alloc (.cells #[.int .i64 y.a, .int .i64 y.b, .int .i64 y.c] 29))
  replace X := Lib.hid (X.out.alloc (.cells #[.int .i64 y.a, .int .i64 y.b, .int .i64 y.c] 29))
  replace B1 := Lib.hid (B1.out.alloc B1.out.size (.cells #[.int .i64 y.a, .int .i64 y.b, .int .i64 y.c] 29))
  have Y := Lib.hid (Blk.new w2 29 #[.int .i64 y.a, .int .i64 y.b, .int .i64 y.c])
  replace T1 := Lib.hid (T1.out.alloc (.cells #[.slice A5 n5 c5, .slice A6 n6 c6, .slice A7 n7 c7, .int .i64 t2] 26))
  replace S2 := Lib.hid (S2.out.alloc (.cells #[.slice A5 n5 c5, .slice A6 n6 c6, .slice A7 n7 c7, .int .i64 t2] 26))
  replace S3 := Lib.hid (S3.out.alloc (.cells #[.slice A5 n5 c5, .slice A6 n6 c6, .slice A7 n7 c7, .int .i64 t2] 26))
  replace P5 := Lib.hid (P5.out.alloc (.cells #[.slice A5 n5 c5, .slice A6 n6 c6, .slice A7 n7 c7, .int .i64 t2] 26))
  replace P6 := Lib.hid (P6.out.alloc (.cells #[.slice A5 n5 c5, .slice A6 n6 c6, .slice A7 n7 c7, .int .i64 t2] 26))
  replace P7 := Lib.hid (P7.out.alloc (.cells #[.slice A5 n5 c5, .slice A6 n6 c6, .slice A7 n7 c7, .int .i64 t2] 26))
  replace X := Lib.hid (X.out.alloc (.cells #[.slice A5 n5 c5, .slice A6 n6 c6, .slice A7 n7 c7, .int .i64 t2] 26))
  replace Y := Lib.hid (Y.out.alloc (.cells #[.slice A5 n5 c5, .slice A6 n6 c6, .slice A7 n7 c7, .int .i64 t2] 26))
  replace B1 := Lib.hid (B1.out.alloc B1.out.size (.cells #[.slice A5 n5 c5, .slice A6 n6 c6, .slice A7 n7 c7, .int .i64 t2] 26))
  have Z : Hid (Blk ((w2.alloc (.cells #[.int .i64 y.a, .int .i64 y.b, .int .i64 y.c] 29)).alloc (.cells #[.slice A5 n5 c5, .slice A6 n6 c6, .slice A7 n7 c7, .int .i64 t2] 26)) (w2.heap.size + 1) 26 #[.slice A5 n5 c5, .slice A6 n6 c6, .slice A7 n7 c7, .int .i64 t2]) := Lib.hid (by simpa using Blk.new (w2.alloc (.cells #[.int .i64 y.a, .int .i64 y.b, .int .i64 y.c] 29)) 26 #[.slice A5 n5 c5, .slice A6 n6 c6, .slice A7 n7 c7, .int .i64 t2])
  obtain ⟨x0, x1, x2, x3⟩ := X.out.c4
  go_wp2_with (fail)
  refine (pop_at (spec_PopEntry_any t _ T1.out S2.out S3.out) E1.out E2.out E3.out E4.out E5.out E6.out).mono ?_
  clear x0 x1 x2 x3
  rintro e w3 ⟨A8, n8, c8, A9, n9, c9, A10, n10, c10, rfl, o8, o9, o10, _, _, _, hb⟩
  obtain rfl : n5 = n8 := by have := o8.len; have := L5.out; omega
  obtain rfl : n6 = n9 := by have := o9.len; have := L6.out; omega
  obtain rfl : n7 = n10 := by have := o10.len; have := L7.out; omega
  replace T1 := Lib.hid (T1.out.below hb (Nat.le_refl _))
  replace S2 := Lib.hid (S2.out.below hb (Nat.le_refl _))
  replace S3 := Lib.hid (S3.out.below hb (Nat.le_refl _))
  replace P5 := Lib.hid (P5.out.below hb (Nat.le_refl _))
  replace P6 := Lib.hid (P6.out.below hb (Nat.le_refl _))
  replace P7 := Lib.hid (P7.out.below hb (Nat.le_refl _))
  replace X := Lib.hid (X.out.on hb)
  replace Y := Lib.hid (Y.out.on hb)
  replace Z := Lib.hid (Z.out.on hb)
  replace B1 := Lib.hid (B1.out.trans (hb.mono B1.out.size))
  clear hb
  have K5 := Lib.hid o8.ts
  have K6 := Lib.hid o9.is
  have K7 := Lib.hid o10.is
  clear o8 o9 o10
  replace T1 := Lib.hid (T1.out.alloc (.cells #[.int .i64 y.a, .int .i64 y.b, .int .i64 y.c] 29))
  replace S2 := Lib.hid (S2.out.alloc (.cells #[.int .i64 y.a, .int .i64 y.b, .int .i64 y.c] 29))
  replace S3 := Lib.hid (S3.out.alloc (.cells #[.int .i64 y.a, .int .i64 y.b, .int .i64 y.c] 29))
  replace P5 := Lib.hid (P5.out.alloc (.cells #[.int .i64 y.a, .int .i64 y.b, .int .i64 y.c] 29))
  replace P6 := Lib.hid (P6.out.alloc (.cells #[.int .i64 y.a, .int .i64 y.b, .int .i64 y.c] 29))
  replace P7 := Lib.hid (P7.out.alloc (.cells #[.int .i64 y.a, .int .i64 y.b, .int .i64 y.c] 29))
  replace K5 := Lib.hid (K5.out.alloc (.cells #[.int .i64 y.a, .int .i64 y.b, .int .i64 y.c] 29))
  replace K6 := Lib.hid (K6.out.alloc (.cells #[.int .i64 y.a, .int .i64 y.b, .int .i64 y.c] 29))
  replace K7 := Lib.hid (K7.out.alloc (.cells #[.int .i64 y.a, .int .i64 y.b, .int .i64 y.c] 29))
  replace X := Lib.hid (X.out.alloc (.cells #[.int .i64 y.a, .int .i64 y.b, .int .i64 y.c] 29))
  replace Y := Lib.hid (Y.out.alloc (.cells #[.int .i64 y.a, .int .i64 y.b, .int .i64 y.c] 29))
  replace Z := Lib.hid (Z.out.alloc (.cells #[.int .i64 y.a, .int .i64 y.b, .int .i64 y.c] 29))
  replace B1 := Lib.hid (B1.out.alloc B1.out.size (.cells #[.int .i64 y.a, .int .i64 y.b, .int .i64 y.c] 29))
  have V := Lib.hid (Blk.new w3 29 #[.int .i64 y.a, .int .i64 y.b, .int .i64 y.c])
  replace T1 := Lib.hid (T1.out.alloc (.cells #[.slice A8 n5 c8, .slice A9 n6 c9, .slice A10 n7 c10, .int .i64 t2] 26))
  replace S2 := Lib.hid (S2.out.alloc (.cells #[.slice A8 n5 c8, .slice A9 n6 c9, .slice A10 n7 c10, .int .i64 t2] 26))
  replace S3 := Lib.hid (S3.out.alloc (.cells #[.slice A8 n5 c8, .slice A9 n6 c9, .slice A10 n7 c10, .int .i64 t2] 26))
  replace P5 := Lib.hid (P5.out.alloc (.cells #[.slice A8 n5 c8, .slice A9 n6 c9, .slice A10 n7 c10, .int .i64 t2] 26))
  replace P6 := Lib.hid (P6.out.alloc (.cells #[.slice A8 n5 c8, .slice A9 n6 c9, .slice A10 n7 c10, .int .i64 t2] 26))
  replace P7 := Lib.hid (P7.out.alloc (.cells #[.slice A8 n5 c8, .slice A9 n6 c9, .slice A10 n7 c10, .int .i64 t2] 26))
  replace K5 := Lib.hid (K5.out.alloc (.cells #[.slice A8 n5 c8, .slice A9 n6 c9, .slice A10 n7 c10, .int .i64 t2] 26))
  replace K6 := Lib.hid (K6.out.alloc (.cells #[.slice A8 n5 c8, .slice A9 n6 c9, .slice A10 n7 c10, .int .i64 t2] 26))
  replace K7 := Lib.hid (K7.out.alloc (.cells #[.slice A8 n5 c8, .slice A9 n6 c9, .slice A10 n7 c10, .int .i64 t2] 26))
  replace X := Lib.hid (X.out.alloc (.cells #[.slice A8 n5 c8, .slice A9 n6 c9, .slice A10 n7 c10, .int .i64 t2] 26))
  replace Y := Lib.hid (Y.out.alloc (.cells #[.slice A8 n5 c8, .slice A9 n6 c9, .slice A10 n7 c10, .int .i64 t2] 26))
  replace Z := Lib.hid (Z.out.alloc (.cells #[.slice A8 n5 c8, .slice A9 n6 c9, .slice A10 n7 c10, .int .i64 t2] 26))
  replace V := Lib.hid (V.out.alloc (.cells #[.slice A8 n5 c8, .slice A9 n6 c9, .slice A10 n7 c10, .int .i64 t2] 26))
  replace B1 := Lib.hid (B1.out.alloc B1.out.size (.cells #[.slice A8 n5 c8, .slice A9 n6 c9, .slice A10 n7 c10, .int .i64 t2] 26))
  have U : Hid (Blk ((w3.alloc (.cells #[.int .i64 y.a, .int .i64 y.b, .int .i64 y.c] 29)).alloc (.cells #[.slice A8 n5 c8, .slice A9 n6 c9, .slice A10 n7 c10, .int .i64 t2] 26)) (w3.heap.size + 1) 26 #[.slice A8 n5 c8, .slice A9 n6 c9, .slice A10 n7 c10, .int .i64 t2]) := Lib.hid (by simpa using Blk.new (w3.alloc (.cells #[.int .i64 y.a, .int .i64 y.b, .int .i64 y.c] 29)) 26 #[.slice A8 n5 c8, .slice A9 n6 c9, .slice A10 n7 c10, .int .i64 t2])
  have ya : (y.a == y.a) = true := by simp
  have yb : (y.b == y.b) = true := by simp
  have yc : (y.c == y.c) = true := by simp
  rcases ok with _ | _
  · skip
    obtain ⟨y0, y1, y2⟩ := Y.out.c3
    obtain ⟨v0, v1, v2⟩ := V.out.c3
    obtain ⟨z0, z1, z2, z3⟩ := Z.out.c4
    obtain ⟨u0, u1, u2, u3⟩ := U.out.c4
    go_wp2_with (fail)
    refine (laws_equalQueue_same t2 _ P5.out P6.out P7.out K5.out K6.out K7.out).mono ?_
    clear y0 y1 y2 v0 v1 v2 z0 z1 z2 z3 u0 u1 u2 u3
    rintro e w4 ⟨rfl, hb⟩
    replace T1 := Lib.hid (T1.out.below hb (Nat.le_refl _))
    replace S2 := Lib.hid (S2.out.below hb (Nat.le_refl _))
    replace S3 := Lib.hid (S3.out.below hb (Nat.le_refl _))
    replace P5 := Lib.hid (P5.out.below hb (Nat.le_refl _))
    replace P6 := Lib.hid (P6.out.below hb (Nat.le_refl _))
    replace P7 := Lib.hid (P7.out.below hb (Nat.le_refl _))
    replace K5 := Lib.hid (K5.out.below hb (Nat.le_refl _))
    replace K6 := Lib.hid (K6.out.below hb (Nat.le_refl _))
    replace K7 := Lib.hid (K7.out.below hb (Nat.le_refl _))
    replace X := Lib.hid (X.out.on hb)
    replace Y := Lib.hid (Y.out.on hb)
    replace Z := Lib.hid (Z.out.on hb)
    replace V := Lib.hid (V.out.on hb)
    replace U := Lib.hid (U.out.on hb)
    replace B1 := Lib.hid (B1.out.trans (hb.mono B1.out.size))
    clear hb
    obtain ⟨y0, y1, y2⟩ := Y.out.c3
    obtain ⟨v0, v1, v2⟩ := V.out.c3
    obtain ⟨z0, z1, z2, z3⟩ := Z.out.c4
    obtain ⟨u0, u1, u2, u3⟩ := U.out.c4
    go_wp2_with (fail)
    refine (laws_equalQueue_same t2 _ P5.out P6.out P7.out K5.out K6.out K7.out).mono ?_
    clear y0 y1 y2 v0 v1 v2 z0 z1 z2 z3 u0 u1 u2 u3
    rintro e w5 ⟨rfl, hb⟩
    replace T1 := Lib.hid (T1.out.below hb (Nat.le_refl _))
    replace S2 := Lib.hid (S2.out.below hb (Nat.le_refl _))
    replace S3 := Lib.hid (S3.out.below hb (Nat.le_refl _))
    replace P5 := Lib.hid (P5.out.below hb (Nat.le_refl _))
    replace P6 := Lib.hid (P6.out.below hb (Nat.le_refl _))
    replace P7 := Lib.hid (P7.out.below hb (Nat.le_refl _))
    replace K5 := Lib.hid (K5.out.below hb (Nat.le_refl _))
    replace K6 := Lib.hid (K6.out.below hb (Nat.le_refl _))
    replace K7 := Lib.hid (K7.out.below hb (Nat.le_refl _))
    replace X := Lib.hid (X.out.on hb)
    replace Y := Lib.hid (Y.out.on hb)
    replace Z := Lib.hid (Z.out.on hb)
    replace V := Lib.hid (V.out.on hb)
    replace U := Lib.hid (U.out.on hb)
    replace B1 := Lib.hid (B1.out.trans (hb.mono B1.out.size))
    clear hb
    go_wp2_with (fail)
    go_ret
    exact ⟨ret_bool (by first | rfl | (simp; done) | (simp; omega)), B1.out⟩
  obtain ⟨y0, y1, y2⟩ := Y.out.c3
  obtain ⟨v0, v1, v2⟩ := V.out.c3
  obtain ⟨z0, z1, z2, z3⟩ := Z.out.c4
  obtain ⟨u0, u1, u2, u3⟩ := U.out.c4
  go_wp2_with (fail)
  refine (laws_equalQueue_same t2 _ P5.out P6.out P7.out K5.out K6.out K7.out).mono ?_
  clear y0 y1 y2 v0 v1 v2 z0 z1 z2 z3 u0 u1 u2 u3
  rintro e w4 ⟨rfl, hb⟩
  replace T1 := Lib.hid (T1.out.below hb (Nat.le_refl _))
  replace S2 := Lib.hid (S2.out.below hb (Nat.le_refl _))
  replace S3 := Lib.hid (S3.out.below hb (Nat.le_refl _))
  replace P5 := Lib.hid (P5.out.below hb (Nat.le_refl _))
  replace P6 := Lib.hid (P6.out.below hb (Nat.le_refl _))
  replace P7 := Lib.hid (P7.out.below hb (Nat.le_refl _))
  replace K5 := Lib.hid (K5.out.below hb (Nat.le_refl _))
  replace K6 := Lib.hid (K6.out.below hb (Nat.le_refl _))
  replace K7 := Lib.hid (K7.out.below hb (Nat.le_refl _))
  replace X := Lib.hid (X.out.on hb)
  replace Y := Lib.hid (Y.out.on hb)
  replace Z := Lib.hid (Z.out.on hb)
  replace V := Lib.hid (V.out.on hb)
  replace U := Lib.hid (U.out.on hb)
  replace B1 := Lib.hid (B1.out.trans (hb.mono B1.out.size))
  clear hb
  clear K5 K6 K7
  clear V U
  obtain ⟨N, u, d, k0, z, LV, l1, l2, l3, l4, l5⟩ := leaves_of E6.out
  obtain rfl : z = y := l1.symm.trans E1.out
  obtain rfl : leaveL xs k0 = ys := l2.symm.trans E2.out
  obtain rfl : sh = sh2 := l3.symm.trans E3.out
  have hvq := (popOK_iff.1 E6.out).1
  have hvq2 := pop_valid E6.out
  rw [E2.out, E3.out, E4.out, E5.out] at hvq2
  have HQ := Lib.hid hvq
  have HQ2 := Lib.hid hvq2
  have HLV := Lib.hid LV
  have HD2 := Lib.hid (E4.out.symm.trans l4)
  have HT2 := Lib.hid (E5.out.symm.trans l5)
  clear l1 l2 l3 l4 l5 hvq hvq2 LV
  obtain ⟨x0, x1, x2, x3⟩ := X.out.c4
  go_wp2_with (fail)
  refine (ints_at (impl_QueueBytes_any t _ T1.out S2.out S3.out) (quB_yes HQ.out)).mono ?_
  clear x0 x1 x2 x3
  rintro e w5 ⟨A11, n11, c11, rfl, o11, hb⟩
  obtain rfl : n11 = 3 := by simpa [bytesE] using o11.len.symm
  replace T1 := Lib.hid (T1.out.below hb (Nat.le_refl _))
  replace S2 := Lib.hid (S2.out.below hb (Nat.le_refl _))
  replace S3 := Lib.hid (S3.out.below hb (Nat.le_refl _))
  replace P5 := Lib.hid (P5.out.below hb (Nat.le_refl _))
  replace P6 := Lib.hid (P6.out.below hb (Nat.le_refl _))
  replace P7 := Lib.hid (P7.out.below hb (Nat.le_refl _))
  replace X := Lib.hid (X.out.on hb)
  replace Y := Lib.hid (Y.out.on hb)
  replace Z := Lib.hid (Z.out.on hb)
  replace B1 := Lib.hid (B1.out.trans (hb.mono B1.out.size))
  clear hb
  have I1 := Lib.hid o11.is
  clear o11
  obtain ⟨z0, z1, z2, z3⟩ := Z.out.c4
  go_wp2_with (fail)
  refine (ints_at (impl_QueueBytes_any t2 _ P5.out P6.out P7.out) (quB_yes HQ2.out)).mono ?_
  clear z0 z1 z2 z3
  rintro e w6 ⟨A12, n12, c12, rfl, o12, hb⟩
  obtain rfl : n12 = 3 := by simpa [bytesE] using o12.len.symm
  replace T1 := Lib.hid (T1.out.below hb (Nat.le_refl _))
  replace S2 := Lib.hid (S2.out.below hb (Nat.le_refl _))
  replace S3 := Lib.hid (S3.out.below hb (Nat.le_refl _))
  replace P5 := Lib.hid (P5.out.below hb (Nat.le_refl _))
  replace P6 := Lib.hid (P6.out.below hb (Nat.le_refl _))
  replace P7 := Lib.hid (P7.out.below hb (Nat.le_refl _))
  replace I1 := Lib.hid (I1.out.below hb (Nat.le_refl _))
  replace X := Lib.hid (X.out.on hb)
  replace Y := Lib.hid (Y.out.on hb)
  replace Z := Lib.hid (Z.out.on hb)
  replace B1 := Lib.hid (B1.out.trans (hb.mono B1.out.size))
  clear hb
  have I2 := Lib.hid o12.is
  clear o12
  obtain ⟨y0, y1, y2⟩ := Y.out.c3
  obtain ⟨g, off, _, rfl, _, _⟩ := I1.out.at_ (k := 0) (by omega)
  obtain ⟨g2, off2, _, rfl, _, _⟩ := I2.out.at_ (k := 0) (by omega)
  have HC1 : Hid (∀ k : Nat, k < 3 → w6.cell? ⟨g, off + k, none⟩ = some (.int .i64 (bytesC xs (k : Int)))) := Lib.hid fun k hk => by
    obtain ⟨g', off', v, e, hv, hc⟩ := I1.out.at_ hk
    simp only [Option.some.injEq, Addr.mk.injEq, and_true] at e
    obtain ⟨rfl, rfl⟩ := e
    rw [hc]
    obtain rfl | rfl | rfl : k = 0 ∨ k = 1 ∨ k = 2 := by omega
    all_goals (simp [bytesE] at hv; rw [← hv]; rfl)
  have HC2 : Hid (∀ k : Nat, k < 3 → w6.cell? ⟨g2, off2 + k, none⟩ = some (.int .i64 (bytesC (leaveL xs k0) (k : Int)))) := Lib.hid fun k hk => by
    obtain ⟨g', off', v, e, hv, hc⟩ := I2.out.at_ hk
    simp only [Option.some.injEq, Addr.mk.injEq, and_true] at e
    obtain ⟨rfl, rfl⟩ := e
    rw [hc]
    obtain rfl | rfl | rfl : k = 0 ∨ k = 1 ∨ k = 2 := by omega
    all_goals (simp [bytesE] at hv; rw [← hv]; rfl)
  have HBD : Hid (∀ c : Int, 0 ≤ bytesC xs c ∧ bytesC xs c ≤ 200 ∧ 0 ≤ bytesC (leaveL xs k0) c ∧ bytesC (leaveL xs k0) c ≤ 200) := Lib.hid fun c => by
    have h1 := validE_iff.1 (validQ_iff.1 HQ.out).1
    have h2 := validE_iff.1 (validQ_iff.1 HQ2.out).1
    have h3 := bytesC_bd (fun x hx => (h1.at_ hx).2.2) c
    have h4 := bytesC_bd (fun x hx => (h2.at_ hx).2.2) c
    have h5 := h1.1
    have h6 := h2.1
    omega
  clear ya yb yc
  go_wp2_with (fail)
  go_loopw [12] (fun i wq => ∃ j mm : Nat, j ≤ 3 ∧ i = .int .i64 (j : Int) ∧ wq = w6.drewN mm) (fun i _ => 3 - (intOf i).toNat)
  case atStart => exact ⟨0, 0, by omega, rfl, rfl⟩
  case round =>
    obtain ⟨j, mm, hj, rfl, rfl⟩ := hrel
    by_cases hjl : j < 3
    · have hjl' : (j : Int) < 3 := by omega
      obtain ⟨p, hp⟩ : ∃ p, bytesC xs (j : Int) = p := ⟨_, rfl⟩
      obtain ⟨r, hr⟩ : ∃ r, bytesC (leaveL xs k0) (j : Int) = r := ⟨_, rfl⟩
      have ca := HC1.out j hjl
      have cb := HC2.out j hjl
      have hd := bytesC_leave HLV.out.get (j : Int)
      have hbd := HBD.out (j : Int)
      rw [hp] at ca hd hbd
      rw [hr] at cb hd hbd
      obtain ⟨b1, b2, b3, b4⟩ := hbd
      clear hp hr
      have hge : ¬ (j : Int) ≥ 3 := by omega
      have hge3 : decide ((3 : Int) ≤ (j : Int)) = false := by simp; omega
      have z1 : (0 : Int) ≤ (j : Int) := by omega
      by_cases hc : z.b = (j : Int)
      · rw [if_pos hc] at hd
        have hc' : ((j : Int) == z.b) = true := by simp [hc]
        have wr : IntKind.i64.wrap (p - r) = z.c := by rw [IntKind.wrap_i64]; omega
        have hbn : (z.c != z.c) = false := by simp
        clear hc hd
        go_wp2_with (fail)
        go_quiet (fail)
        go_wp2_with (fail)
        go_roundw
        case rel => exact ⟨j + 1, _, by omega, by first | rfl | go_num, rfl⟩
        case measure => simp [intOf]; omega
      · rw [if_neg hc] at hd
        have hc' : ((j : Int) == z.b) = false := by simp; omega
        have wr : IntKind.i64.wrap (p - r) = 0 := by rw [IntKind.wrap_i64]; omega
        clear hc hd
        go_wp2_with (fail)
        go_quiet (fail)
        go_wp2_with (fail)
        go_roundw
        case rel => exact ⟨j + 1, _, by omega, by first | rfl | go_num, rfl⟩
        case measure => simp [intOf]; omega
    · have hjl' : ¬ (j : Int) < 3 := by omega
      go_wp2_with (fail)
      go_ret
      exact ⟨rfl, below_drewN B1.out mm⟩
end Go.Proofs.Ythemfejahohbeaa
