/-
  The walk of FnPopEntry. (Its words were written by a program of my own.)
-/
import Derived.Test.YthemfejahohbeaaPoN
import Derived.Test.YthemfejahohbeaaQuT
import Derived.Test.YthemfejahohbeaaArF0
import Derived.Deep.RegionHeld3
import Derived.Deep.QuietTactic
import Derived.BigQuiet
import Derived.Deep.DeepMust
import Derived.Deep.DeepCutAuto
namespace Go.Proofs.Ythemfejahohbeaa
open Go.RowKit
-- CALL: W s0
set_option maxRecDepth 100000 in
set_option maxHeartbeats 4000000 in
theorem walk_FnPopEntry {A : Option Addr} {n c : Nat} {zs : List Int} (w : World) (h : BS w A n c zs) :
    Calls Try.prog 3 #[.slice A n c] w fun e w' => e = .returned (.bool true) ∧ Below w.heap.size w w' := by
  have H := Lib.hid h
  clear h
  rcases Nat.lt_or_ge 1048576 n with h1 | h1
  · have h1' : (1048576 : Int) < (n : Int) := by omega
    go_enter Try.func3, Try.ntmps3
    go_wp2_with (fail)
    go_ret
    exact ⟨rfl, Below.refl _ _⟩
  have h1' : ¬ (1048576 : Int) < (n : Int) := by omega
  go_enter Try.func3, Try.ntmps3
  go_wp2_with (fail)
  refine (spec_DrawPopEntry_any w H.out h1).mono ?_
  rintro e w1 ⟨xs, sh, db, t, A1, n1, c1, A2, n2, c2, A3, n3, c3, rfl, hn1, hn2, hn3, ⟨ht0, ht1⟩, i1, i2, i3, hb⟩
  have T1 := Lib.hid i1
  have S2 := Lib.hid i2
  have S3 := Lib.hid i3
  have B1 := Lib.hid hb
  have hz1 := B1.out.size
  clear hb i1 i2 i3
  replace T1 := Lib.hid (T1.out.alloc (.cells #[.slice A1 n1 c1, .slice A2 n2 c2, .slice A3 n3 c3, .int .i64 t] 26))
  replace S2 := Lib.hid (S2.out.alloc (.cells #[.slice A1 n1 c1, .slice A2 n2 c2, .slice A3 n3 c3, .int .i64 t] 26))
  replace S3 := Lib.hid (S3.out.alloc (.cells #[.slice A1 n1 c1, .slice A2 n2 c2, .slice A3 n3 c3, .int .i64 t] 26))
  replace B1 := Lib.hid (B1.out.alloc B1.out.size (.cells #[.slice A1 n1 c1, .slice A2 n2 c2, .slice A3 n3 c3, .int .i64 t] 26))
  have X := Lib.hid (Blk.new w1 26 #[.slice A1 n1 c1, .slice A2 n2 c2, .slice A3 n3 c3, .int .i64 t])
  obtain ⟨y, e1⟩ : ∃ v, popX xs sh db t = v := ⟨_, rfl⟩
  obtain ⟨ys, e2⟩ : ∃ v, popL xs sh db t = v := ⟨_, rfl⟩
  obtain ⟨sh2, e3⟩ : ∃ v, popH xs sh db t = v := ⟨_, rfl⟩
  obtain ⟨db2, e4⟩ : ∃ v, popD xs sh db t = v := ⟨_, rfl⟩
  obtain ⟨t2, e5⟩ : ∃ v, popT xs sh db t = v := ⟨_, rfl⟩
  obtain ⟨ok, e6⟩ : ∃ v, popOK xs sh db t = v := ⟨_, rfl⟩
  have E1 := Lib.hid e1
  have E2 := Lib.hid e2
  have E3 := Lib.hid e3
  have E4 := Lib.hid e4
  have E5 := Lib.hid e5
  have E6 := Lib.hid e6
  have HXL := Lib.hid T1.out.len
  clear e1 e2 e3 e4 e5 e6
  go_wp2_with (fail)
  refine (pop_at (impl_PopEntry_any t _ T1.out S2.out S3.out) E1.out E2.out E3.out E4.out E5.out E6.out).mono ?_
  rintro e w2 ⟨A5, n5, c5, A6, n6, c6, A7, n7, c7, rfl, o5, o6, o7, _, _, _, hb⟩
  have L5 := Lib.hid o5.len
  have L6 := Lib.hid o6.len
  have L7 := Lib.hid o7.len
  replace T1 := Lib.hid (T1.out.below hb (Nat.le_refl _))
  replace S2 := Lib.hid (S2.out.below hb (Nat.le_refl _))
  replace S3 := Lib.hid (S3.out.below hb (Nat.le_refl _))
  replace X := Lib.hid (X.out.on hb)
  replace B1 := Lib.hid (B1.out.trans (hb.mono B1.out.size))
  clear hb
  have P5 := Lib.hid o5.ts
  have P6 := Lib.hid o6.is
  have P7 := Lib.hid o7.is
  clear o5 o6 o7
  replace T1 := Lib.hid (T1.out.alloc (.cells #[.int .i64 y.a, .int .i64 y.b, .int .i64 y.c] 29))
  replace S2 := Lib.hid (S2.out.alloc (.cells #[.int .i64 y.a, .int .i64 y.b, .int .i64 y.c] 29))
  replace S3 := Lib.hid (S3.out.alloc (.cells #[.int .i64 y.a, .int .i64 y.b, .int .i64 y.c] 29))
  replace P5 := Lib.hid (P5.out.alloc (.cells #[.int .i64 y.a, .int .i64 y.b, .int .i64 y.c] 29))
  replace P6 := Lib.hid (P6.out.alloc (.cells #[.int .i64 y.a, .int .i64 y.b, .int .i64 y.c] 29))
  replace P7 := Lib.hid (P7.out.alloc (.cells #[.int .i64 y.a, .int .i64 y.b, .int .i64 y.c] 29))
  replace X := Lib.hid (X.out.alloc (.cells #[.int .i64 y.a, .int .i64 y.b, .int .i64 y.c] 29))
  replace B1 := Lib.hid (B1.out.alloc B1.out.size (.cells #[.int .i64 y.a, .int .i64 y.b, .int .i64 y.c] 29))
  have Y := Lib.hid (Blk.new w2 29 #[.int .i64 y.a, .int .i64 y.b, .int .i64 y.c])
  replace T1 := Lib.hid (T1.out.alloc (.cells #[.slice A5 n5 c5, .slice A6 n6 c6, .slice A7 n7 c7, .int .i64 t2] 26))
  replace S2 := Lib.hid (S2.out.alloc (.cells #[.slice A5 n5 c5, .slice A6 n6 c6, .slice A7 n7 c7, .int .i64 t2] 26))
  replace S3 := Lib.hid (S3.out.alloc (.cells #[.slice A5 n5 c5, .slice A6 n6 c6, .slice A7 n7 c7, .int .i64 t2] 26))
  replace P5 := Lib.hid (P5.out.alloc (.cells #[.slice A5 n5 c5, .slice A6 n6 c6, .slice A7 n7 c7, .int .i64 t2] 26))
  replace P6 := Lib.hid (P6.out.alloc (.cells #[.slice A5 n5 c5, .slice A6 n6 c6, .slice A7 n7 c7, .int .i64 t2] 26))
  replace P7 := Lib.hid (P7.out.alloc (.cells #[.slice A5 n5 c5, .slice A6 n6 c6, .slice A7 n7 c7, .int .i64 t2] 26))
  replace X := Lib.hid (X.out.alloc (.cells #[.slice A5 n5 c5, .slice A6 n6 c6, .slice A7 n7 c7, .int .i64 t2] 26))
  replace Y := Lib.hid (Y.out.alloc (.cells #[.slice A5 n5 c5, .slice A6 n6 c6, .slice A7 n7 c7, .int .i64 t2] 26))
  replace B1 := Lib.hid (B1.out.alloc B1.out.size (.cells #[.slice A5 n5 c5, .slice A6 n6 c6, .slice A7 n7 c7, .int .i64 t2] 26))
  have Z : Hid (Blk ((w2.alloc (.cells #[.int .i64 y.a, .int .i64 y.b, .int .i64 y.c] 29)).alloc (.cells #[.slice A5 n5 c5, .slice A6 n6 c6, .slice A7 n7 c7, .int .i64 t2] 26)) (w2.heap.size + 1) 26 #[.slice A5 n5 c5, .slice A6 n6 c6, .slice A7 n7 c7, .int .i64 t2]) := Lib.hid (by simpa using Blk.new (w2.alloc (.cells #[.int .i64 y.a, .int .i64 y.b, .int .i64 y.c] 29)) 26 #[.slice A5 n5 c5, .slice A6 n6 c6, .slice A7 n7 c7, .int .i64 t2])
  obtain ⟨x0, x1, x2, x3⟩ := X.out.c4
  go_wp2_with (fail)
  refine (pop_at (spec_PopEntry_any t _ T1.out S2.out S3.out) E1.out E2.out E3.out E4.out E5.out E6.out).mono ?_
  clear x0 x1 x2 x3
  rintro e w3 ⟨A8, n8, c8, A9, n9, c9, A10, n10, c10, rfl, o8, o9, o10, _, _, _, hb⟩
  obtain rfl : n5 = n8 := by have := o8.len; have := L5.out; omega
  obtain rfl : n6 = n9 := by have := o9.len; have := L6.out; omega
  obtain rfl : n7 = n10 := by have := o10.len; have := L7.out; omega
  replace T1 := Lib.hid (T1.out.below hb (Nat.le_refl _))
  replace S2 := Lib.hid (S2.out.below hb (Nat.le_refl _))
  replace S3 := Lib.hid (S3.out.below hb (Nat.le_refl _))
  replace P5 := Lib.hid (P5.out.below hb (Nat.le_refl _))
  replace P6 := Lib.hid (P6.out.below hb (Nat.le_refl _))
  replace P7 := Lib.hid (P7.out.below hb (Nat.le_refl _))
  replace X := Lib.hid (X.out.on hb)
  replace Y := Lib.hid (Y.out.on hb)
  replace Z := Lib.hid (Z.out.on hb)
  replace B1 := Lib.hid (B1.out.trans (hb.mono B1.out.size))
  clear hb
  have K5 := Lib.hid o8.ts
  have K6 := Lib.hid o9.is
  have K7 := Lib.hid o10.is
  clear o8 o9 o10
  replace T1 := Lib.hid (T1.out.alloc (.cells #[.int .i64 y.a, .int .i64 y.b, .int .i64 y.c] 29))
  replace S2 := Lib.hid (S2.out.alloc (.cells #[.int .i64 y.a, .int .i64 y.b, .int .i64 y.c] 29))
  replace S3 := Lib.hid (S3.out.alloc (.cells #[.int .i64 y.a, .int .i64 y.b, .int .i64 y.c] 29))
  replace P5 := Lib.hid (P5.out.alloc (.cells #[.int .i64 y.a, .int .i64 y.b, .int .i64 y.c] 29))
  replace P6 := Lib.hid (P6.out.alloc (.cells #[.int .i64 y.a, .int .i64 y.b, .int .i64 y.c] 29))
  replace P7 := Lib.hid (P7.out.alloc (.cells #[.int .i64 y.a, .int .i64 y.b, .int .i64 y.c] 29))
  replace K5 := Lib.hid (K5.out.alloc (.cells #[.int .i64 y.a, .int .i64 y.b, .int .i64 y.c] 29))
  replace K6 := Lib.hid (K6.out.alloc (.cells #[.int .i64 y.a, .int .i64 y.b, .int .i64 y.c] 29))
  replace K7 := Lib.hid (K7.out.alloc (.cells #[.int .i64 y.a, .int .i64 y.b, .int .i64 y.c] 29))
  replace X := Lib.hid (X.out.alloc (.cells #[.int .i64 y.a, .int .i64 y.b, .int .i64 y.c] 29))
  replace Y := Lib.hid (Y.out.alloc (.cells #[.int .i64 y.a, .int .i64 y.b, .int .i64 y.c] 29))
  replace Z := Lib.hid (Z.out.alloc (.cells #[.int .i64 y.a, .int .i64 y.b, .int .i64 y.c] 29))
  replace B1 := Lib.hid (B1.out.alloc B1.out.size (.cells #[.int .i64 y.a, .int .i64 y.b, .int .i64 y.c] 29))
  have V := Lib.hid (Blk.new w3 29 #[.int .i64 y.a, .int .i64 y.b, .int .i64 y.c])
  replace T1 := Lib.hid (T1.out.alloc (.cells #[.slice A8 n5 c8, .slice A9 n6 c9, .slice A10 n7 c10, .int .i64 t2] 26))
  replace S2 := Lib.hid (S2.out.alloc (.cells #[.slice A8 n5 c8, .slice A9 n6 c9, .slice A10 n7 c10, .int .i64 t2] 26))
  replace S3 := Lib.hid (S3.out.alloc (.cells #[.slice A8 n5 c8, .slice A9 n6 c9, .slice A10 n7 c10, .int .i64 t2] 26))
  replace P5 := Lib.hid (P5.out.alloc (.cells #[.slice A8 n5 c8, .slice A9 n6 c9, .slice A10 n7 c10, .int .i64 t2] 26))
  replace P6 := Lib.hid (P6.out.alloc (.cells #[.slice A8 n5 c8, .slice A9 n6 c9, .slice A10 n7 c10, .int .i64 t2] 26))
  replace P7 := Lib.hid (P7.out.alloc (.cells #[.slice A8 n5 c8, .slice A9 n6 c9, .slice A10 n7 c10, .int .i64 t2] 26))
  replace K5 := Lib.hid (K5.out.alloc (.cells #[.slice A8 n5 c8, .slice A9 n6 c9, .slice A10 n7 c10, .int .i64 t2] 26))
  replace K6 := Lib.hid (K6.out.alloc (.cells #[.slice A8 n5 c8, .slice A9 n6 c9, .slice A10 n7 c10, .int .i64 t2] 26))
  replace K7 := Lib.hid (K7.out.alloc (.cells #[.slice A8 n5 c8, .slice A9 n6 c9, .slice A10 n7 c10, .int .i64 t2] 26))
  replace X := Lib.hid (X.out.alloc (.cells #[.slice A8 n5 c8, .slice A9 n6 c9, .slice A10 n7 c10, .int .i64 t2] 26))
  replace Y := Lib.hid (Y.out.alloc (.cells #[.slice A8 n5 c8, .slice A9 n6 c9, .slice A10 n7 c10, .int .i64 t2] 26))
  replace Z := Lib.hid (Z.out.alloc (.cells #[.slice A8 n5 c8, .slice A9 n6 c9, .slice A10 n7 c10, .int .i64 t2] 26))
  replace V := Lib.hid (V.out.alloc (.cells #[.slice A8 n5 c8, .slice A9 n6 c9, .slice A10 n7 c10, .int .i64 t2] 26))
  replace B1 := Lib.hid (B1.out.alloc B1.out.size (.cells #[.slice A8 n5 c8, .slice A9 n6 c9, .slice A10 n7 c10, .int .i64 t2] 26))
  have U : Hid (Blk ((w3.alloc (.cells #[.int .i64 y.a, .int .i64 y.b, .int .i64 y.c] 29)).alloc (.cells #[.slice A8 n5 c8, .slice A9 n6 c9, .slice A10 n7 c10, .int .i64 t2] 26)) (w3.heap.size + 1) 26 #[.slice A8 n5 c8, .slice A9 n6 c9, .slice A10 n7 c10, .int .i64 t2]) := Lib.hid (by simpa using Blk.new (w3.alloc (.cells #[.int .i64 y.a, .int .i64 y.b, .int .i64 y.c] 29)) 26 #[.slice A8 n5 c8, .slice A9 n6 c9, .slice A10 n7 c10, .int .i64 t2])
  have ya : (y.a == y.a) = true := by simp
  have yb : (y.b == y.b) = true := by simp
  have yc : (y.c == y.c) = true := by simp
  rcases ok with _ | _
  · skip
    obtain ⟨y0, y1, y2⟩ := Y.out.c3
    obtain ⟨v0, v1, v2⟩ := V.out.c3
    obtain ⟨z0, z1, z2, z3⟩ := Z.out.c4
    obtain ⟨u0, u1, u2, u3⟩ := U.out.c4
    go_wp2_with (fail)
    refine (laws_equalQueue_same t2 _ P5.out P6.out P7.out K5.out K6.out K7.out).mono ?_
    clear y0 y1 y2 v0 v1 v2 z0 z1 z2 z3 u0 u1 u2 u3
    rintro e w4 ⟨rfl, hb⟩
    replace T1 := Lib.hid (T1.out.below hb (Nat.le_refl _))
    replace S2 := Lib.hid (S2.out.below hb (Nat.le_refl _))
    replace S3 := Lib.hid (S3.out.below hb (Nat.le_refl _))
    replace P5 := Lib.hid (P5.out.below hb (Nat.le_refl _))
    replace P6 := Lib.hid (P6.out.below hb (Nat.le_refl _))
    replace P7 := Lib.hid (P7.out.below hb (Nat.le_refl _))
    replace K5 := Lib.hid (K5.out.below hb (Nat.le_refl _))
    replace K6 := Lib.hid (K6.out.below hb (Nat.le_refl _))
    replace K7 := Lib.hid (K7.out.below hb (Nat.le_refl _))
    replace X := Lib.hid (X.out.on hb)
    replace Y := Lib.hid (Y.out.on hb)
    replace Z := Lib.hid (Z.out.on hb)
    replace V := Lib.hid (V.out.on hb)
    replace U := Lib.hid (U.out.on hb)
    replace B1 := Lib.hid (B1.out.trans (hb.mono B1.out.size))
    clear hb
    obtain ⟨y0, y1, y2⟩ := Y.out.c3
    obtain ⟨v0, v1, v2⟩ := V.out.c3
    obtain ⟨z0, z1, z2, z3⟩ := Z.out.c4
    obtain ⟨u0, u1, u2, u3⟩ := U.out.c4
    go_wp2_with (fail)
    refine (laws_equalQueue_same t2 _ P5.out P6.out P7.out K5.out K6.out K7.out).mono ?_
    clear y0 y1 y2 v0 v1 v2 z0 z1 z2 z3 u0 u1 u2 u3
    rintro e w5 ⟨rfl, hb⟩
    replace T1 := Lib.hid (T1.out.below hb (Nat.le_refl _))
    replace S2 := Lib.hid (S2.out.below hb (Nat.le_refl _))
    replace S3 := Lib.hid (S3.out.below hb (Nat.le_refl _))
    replace P5 := Lib.hid (P5.out.below hb (Nat.le_refl _))
    replace P6 := Lib.hid (P6.out.below hb (Nat.le_refl _))
    replace P7 := Lib.hid (P7.out.below hb (Nat.le_refl _))
    replace K5 := Lib.hid (K5.out.below hb (Nat.le_refl _))
    replace K6 := Lib.hid (K6.out.below hb (Nat.le_refl _))
    replace K7 := Lib.hid (K7.out.below hb (Nat.le_refl _))
    replace X := Lib.hid (X.out.on hb)
    replace Y := Lib.hid (Y.out.on hb)
    replace Z := Lib.hid (Z.out.on hb)
    replace V := Lib.hid (V.out.on hb)
    replace U := Lib.hid (U.out.on hb)
    replace B1 := Lib.hid (B1.out.trans (hb.mono B1.out.size))
    clear hb
    go_wp2_with (fail)
    go_ret
    exact ⟨ret_bool (by first | rfl | (simp; done) | (simp; omega)), B1.out⟩
  obtain ⟨y0, y1, y2⟩ := Y.out.c3
  obtain ⟨v0, v1, v2⟩ := V.out.c3
  obtain ⟨z0, z1, z2, z3⟩ := Z.out.c4
  obtain ⟨u0, u1, u2, u3⟩ := U.out.c4
  go_wp2_with (fail)
  refine (laws_equalQueue_same t2 _ P5.out P6.out P7.out K5.out K6.out K7.out).mono ?_
  clear y0 y1 y2 v0 v1 v2 z0 z1 z2 z3 u0 u1 u2 u3
  rintro e w4 ⟨rfl, hb⟩
  replace T1 := Lib.hid (T1.out.below hb (Nat.le_refl _))
  replace S2 := Lib.hid (S2.out.below hb (Nat.le_refl _))
  replace S3 := Lib.hid (S3.out.below hb (Nat.le_refl _))
  replace P5 := Lib.hid (P5.out.below hb (Nat.le_refl _))
  replace P6 := Lib.hid (P6.out.below hb (Nat.le_refl _))
  replace P7 := Lib.hid (P7.out.below hb (Nat.le_refl _))
  replace K5 := Lib.hid (K5.out.below hb (Nat.le_refl _))
  replace K6 := Lib.hid (K6.out.below hb (Nat.le_refl _))
  replace K7 := Lib.hid (K7.out.below hb (Nat.le_refl _))
  replace X := Lib.hid (X.out.on hb)
  replace Y := Lib.hid (Y.out.on hb)
  replace Z := Lib.hid (Z.out.on hb)
  replace V := Lib.hid (V.out.on hb)
  replace U := Lib.hid (U.out.on hb)
  replace B1 := Lib.hid (B1.out.trans (hb.mono B1.out.size))
  clear hb
  clear K5 K6 K7
  clear V U
  obtain ⟨N, u, d, k0, z, LV, l1, l2, l3, l4, l5⟩ := leaves_of E6.out
  obtain rfl : z = y := l1.symm.trans E1.out
  obtain rfl : leaveL xs k0 = ys := l2.symm.trans E2.out
  obtain rfl : sh = sh2 := l3.symm.trans E3.out
  have hvq := (popOK_iff.1 E6.out).1
  have hvq2 := pop_valid E6.out
  rw [E2.out, E3.out, E4.out, E5.out] at hvq2
  have HQ := Lib.hid hvq
  have HQ2 := Lib.hid hvq2
  have HLV := Lib.hid LV
  have HD2 := Lib.hid (E4.out.symm.trans l4)
  have HT2 := Lib.hid (E5.out.symm.trans l5)
  clear l1 l2 l3 l4 l5 hvq hvq2 LV
  have hvE := Lib.hid (validE_iff.1 (validQ_iff.1 HQ.out).1)
  have HL5 := Lib.hid (show n5 + 1 = n1 by have h1 := leaveL_len HLV.out.lt; have h2 := L5.out; have h3 := HXL.out; omega)
  have hn5b : n5 ≤ 11 := by have := HL5.out; omega
  have HK0 := Lib.hid (show k0 < n1 by have h1 := HLV.out.lt; have h3 := HXL.out; omega)
  have HGET : Hid (∀ i k y, i ≠ k0 → xs[i]? = some y → (i < k0 → k = i) → (k0 < i → k + 1 = i) → (leaveL xs k0)[k]? = some y) := Lib.hid fun i k y hne hy h1 h2 => by
    rw [leaveL_erase]
    rcases Nat.lt_or_ge i k0 with h | h
    · obtain rfl := h1 h
      rw [List.getElem?_eraseIdx_of_lt h]
      exact hy
    · have h3 := h2 (by omega)
      rw [List.getElem?_eraseIdx_of_ge (by omega), h3]
      exact hy
  have HZB := Lib.hid HLV.out.cls
  obtain ⟨x0, x1, x2, x3⟩ := X.out.c4
  obtain ⟨y0, y1, y2⟩ := Y.out.c3
  obtain ⟨z0, z1, z2, z3⟩ := Z.out.c4
  clear ya yb yc
  go_wp2_with (fail)
  go_loopw [10, 11, 12] (fun p o i wq => ∃ (j k mm : Nat) (ol : Bool), j ≤ n1 ∧ i = .int .i64 (j : Int) ∧ p = .int .i64 (k : Int) ∧ o = .bool ol ∧ Hid ((j ≤ k0 ∧ k = j ∧ ol = true) ∨ (k0 < j ∧ k + 1 = j ∧ ol = false)) ∧ wq = w4.drewN mm) (fun _ _ i _ => n1 - (intOf i).toNat)
  case atStart => exact ⟨0, 0, 0, true, Nat.zero_le _, rfl, rfl, rfl, Lib.hid (.inl ⟨Nat.zero_le _, rfl, rfl⟩), rfl⟩
  case round =>
    obtain ⟨j, k, mm, ol, hj, rfl, rfl, rfl, hcs, rfl⟩ := hrel
    by_cases hlt : j < n1
    · have hlt' : (j : Int) < (n1 : Int) := by omega
      have zk : (0 : Int) ≤ (j : Int) := by omega
      obtain ⟨b, off, y, rfl, hy, ca, cb, cc⟩ := T1.out.at_ hlt
      have HY := Lib.hid hy
      clear hy
      by_cases hjk : j = k0
      · subst hjk
        have hzy : y = z := by have h3 := HLV.out.get; rw [HY.out] at h3; injection h3
        subst hzy
        have hkj : k = j ∧ ol = true := by rcases hcs.out with ⟨_, h1, h2⟩ | ⟨h1, _, _⟩; exact ⟨h1, h2⟩; omega
        obtain ⟨rfl, rfl⟩ := hkj
        have e1 : (y.a == y.a) = true := by simp
        have e2 : (y.b == y.b) = true := by simp
        have e3 : (y.c == y.c) = true := by simp
        clear hcs
        go_wp2_with (fail)
        go_quiet (fail)
        go_wp2_with (fail)
        go_roundw
        case rel => exact ⟨k + 1, k, _, false, by omega, by first | rfl | go_num, rfl, rfl, Lib.hid (.inr ⟨by omega, rfl, rfl⟩), rfl⟩
        case measure => simp [intOf]; omega
      · have hza : ¬ y.a = z.a := fun e => hvE.out.ne HY.out HLV.out.get hjk e
        have e0 : (y.a == z.a) = false := by simp [hza]
        have hg := HGET.out j k y hjk HY.out (fun h => by rcases hcs.out with ⟨_, h1, _⟩ | ⟨h1, _, _⟩; exact h1; omega) (fun h => by rcases hcs.out with ⟨h1, _, _⟩ | ⟨_, h1, _⟩; omega; exact h1)
        have hk5 : k < n5 := by have h1 := (List.getElem?_eq_some_iff.1 hg).1; have h2 := L5.out; omega
        obtain ⟨b5, off5, y5, rfl, hy5, da, db', dc⟩ := P5.out.at_ hk5
        obtain rfl : y5 = y := by rw [hg] at hy5; injection hy5 with h; exact h.symm
        have hge : ¬ (k : Int) ≥ (n5 : Int) := by omega
        have hge2 : decide (n5 ≤ k) = false := by simp; omega
        have hge3 : (k : Int) < (n5 : Int) := by omega
        have zk2 : (0 : Int) ≤ (k : Int) := by omega
        have e1 : (y5.a == y5.a) = true := by simp
        have e2 : (y5.b == y5.b) = true := by simp
        have e3 : (y5.c == y5.c) = true := by simp
        have HC2 := hcs
        rcases Nat.lt_or_ge j k0 with h1 | h1
        · have hol : k = j ∧ ol = true := by rcases hcs.out with ⟨_, h1, h2⟩ | ⟨h1, _, _⟩; exact ⟨h1, h2⟩; omega
          obtain ⟨rfl, rfl⟩ := hol
          have hbz : ¬ y5.b = z.b := by rw [HZB.out]; exact whereC_before (by rw [HLV.out.place]; exact h1) HY.out
          have e4 : (y5.b == z.b) = false := by simp [hbz]
          clear hcs hza hbz hg hy5 hk5
          go_wp2_with (fail)
          go_quiet (fail)
          go_wp2_with (fail)
          go_quiet (fail)
          go_wp2_with (fail)
          go_roundw
          case rel => exact ⟨k + 1, k + 1, _, true, by omega, by first | rfl | go_num, by first | rfl | go_num, rfl, Lib.hid (.inl ⟨by omega, rfl, rfl⟩), rfl⟩
          case measure => simp [intOf]; omega
        · have HJ1 := Lib.hid h1
          have hol : ol = false := by rcases hcs.out with ⟨h2, _, _⟩ | ⟨_, _, h2⟩; omega; exact h2
          subst hol
          have HKJ : Hid (k + 1 = j) := Lib.hid (by rcases hcs.out with ⟨h2, _, _⟩ | ⟨_, h2, _⟩; omega; exact h2)
          clear hcs HC2 hza hg hy5 hk5
          go_wp2_with (fail)
          go_quiet (fail)
          go_wp2_with (fail)
          go_quiet (fail)
          go_wp2_with (fail)
          go_roundw
          case rel => exact ⟨j + 1, k + 1, _, false, by omega, by first | rfl | go_num, by first | rfl | go_num, rfl, Lib.hid (.inr ⟨by have := HJ1.out; omega, by have := HKJ.out; omega, rfl⟩), rfl⟩
          case measure => simp [intOf]; omega
    · have hlt' : ¬ (j : Int) < (n1 : Int) := by omega
      obtain rfl : k = n5 := by have := HK0.out; have := HL5.out; rcases hcs.out with ⟨h2, _, _⟩ | ⟨_, h2, _⟩ <;> omega
      have wn : IntKind.i64.wrap ((n1 : Int) - 1) = (k : Int) := by
        have h1 := HL5.out
        have h2 := hvE.out.1
        have h3 := HXL.out
        rw [IntKind.wrap_i64]
        omega
      have ht2 : t2 = z.b := by rw [HT2.out, HZB.out]
      rw [ht2] at z3
      have htz : (z.b == z.b) = true := by simp
      have hkk : ((k : Int) == (k : Int)) = true := by simp
      have HV2 := HQ2
      rw [ht2] at HV2
      have P5d := Lib.hid (P5.out.drewN mm)
      have P6d := Lib.hid (P6.out.drewN mm)
      have P7d := Lib.hid (P7.out.drewN mm)
      have Bd := Lib.hid (below_drewN B1.out mm)
      have Yd := Lib.hid (Y.out.drewN mm)
      have Zd := Lib.hid (Z.out.drewN mm)
      obtain ⟨wd, ewd⟩ : ∃ v, v = w4.drewN mm := ⟨_, rfl⟩
      rw [ht2] at Zd
      rw [← ewd] at P5d P6d P7d Bd Yd Zd ⊢
      have r0 := x0
      have r0d : wd.cell? ⟨w1.heap.size, 0, none⟩ = some (.slice A1 n1 c1) := by rw [ewd]; exact x0
      clear ewd x0 x1 x2 x3 y0 y1 y2 z0 z1 z2 z3 r0 ht2
      obtain ⟨y0, y1, y2⟩ := Yd.out.c3
      obtain ⟨z0, z1, z2, z3⟩ := Zd.out.c4
      go_wp2_with (fail)
      refine (call_b (impl_ValidQueue_any z.b _ P5d.out P6d.out P7d.out) HV2.out).mono ?_
      clear y0 y1 y2 z0 z1 z2 z3 r0d
      rintro e w9 ⟨rfl, hb⟩
      have Yq := Lib.hid (Yd.out.on hb)
      have Zq := Lib.hid (Zd.out.on hb)
      have Bq := Lib.hid (Bd.out.trans (hb.mono Bd.out.size))
      clear hb
      obtain ⟨y0, y1, y2⟩ := Yq.out.c3
      obtain ⟨z0, z1, z2, z3⟩ := Zq.out.c4
      go_wp2_with (fail)
      go_ret
      exact ⟨ret_bool (by first | rfl | (simp; done)), Bq.out⟩
end Go.Proofs.Ythemfejahohbeaa
