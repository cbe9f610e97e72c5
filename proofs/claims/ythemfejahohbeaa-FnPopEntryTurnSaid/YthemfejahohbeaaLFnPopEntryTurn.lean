/-
  The walk of FnPopEntryTurn. (Its words were written by a program of my own.)
-/
import Derived.Test.YthemfejahohbeaaPoN
import Derived.Test.YthemfejahohbeaaQuT
import Derived.Test.YthemfejahohbeaaArF0
import Derived.Deep.RegionHeld3
import Derived.Deep.QuietTactic
import Derived.BigQuiet
import Derived.RegionTactic
import Derived.Deep.DeepMust
import Derived.Deep.DeepCutAuto
namespace Go.Proofs.Ythemfejahohbeaa
open Go.RowKit
-- CALL: W s0
set_option maxRecDepth 100000 in
set_option maxHeartbeats 4000000 in
theorem walk_FnPopEntryTurn {A : Option Addr} {n c : Nat} {zs : List Int} (w : World) (h : BS w A n c zs) :
    Calls Try.prog 4 #[.slice A n c] w fun e w' => e = .returned (.bool true) ∧ Below w.heap.size w w' := by
  have H := Lib.hid h
  clear h
  rcases Nat.lt_or_ge 1048576 n with h1 | h1
  · have h1' : (1048576 : Int) < (n : Int) := by omega
    go_enter Try.func4, Try.ntmps4
    go_wp2_with (fail)
    go_ret
    exact ⟨rfl, Below.refl _ _⟩
  have h1' : ¬ (1048576 : Int) < (n : Int) := by omega
  go_enter Try.func4, Try.ntmps4
  go_wp2_with (fail)
  refine (spec_DrawPopEntry_any w H.out h1).mono ?_
  rintro e w1 ⟨xs, sh, db, t, A1, n1, c1, A2, n2, c2, A3, n3, c3, rfl, hn1, hn2, hn3, ⟨ht0, ht1⟩, i1, i2, i3, hb⟩
  have T1 := Lib.hid i1
  have S2 := Lib.hid i2
  have S3 := Lib.hid i3
  have B1 := Lib.hid hb
  have hz1 := B1.out.size
  clear hb i1 i2 i3
  replace T1 := Lib.hid (T1.out.alloc (.cells #[.slice A1 n1 c1, .slice A2 n2 c2, .slice A3 n3 c3, .int .i64 t] 26))
  replace S2 := Lib.hid (S2.out.alloc (.cells #[.slice A1 n1 c1, .slice A2 n2 c2, .slice A3 n3 c3, .int .i64 t] 26))
  replace S3 := Lib.hid (S3.out.alloc (.cells #[.slice A1 n1 c1, .slice A2 n2 c2, .slice A3 n3 c3, .int .i64 t] 26))
  replace B1 := Lib.hid (B1.out.alloc B1.out.size (.cells #[.slice A1 n1 c1, .slice A2 n2 c2, .slice A3 n3 c3, .int .i64 t] 26))
  have X := Lib.hid (Blk.new w1 26 #[.slice A1 n1 c1, .slice A2 n2 c2, .slice A3 n3 c3, .int .i64 t])
  obtain ⟨y, e1⟩ : ∃ v, popX xs sh db t = v := ⟨_, rfl⟩
  obtain ⟨ys, e2⟩ : ∃ v, popL xs sh db t = v := ⟨_, rfl⟩
  obtain ⟨sh2, e3⟩ : ∃ v, popH xs sh db t = v := ⟨_, rfl⟩
  obtain ⟨db2, e4⟩ : ∃ v, popD xs sh db t = v := ⟨_, rfl⟩
  obtain ⟨t2, e5⟩ : ∃ v, popT xs sh db t = v := ⟨_, rfl⟩
  obtain ⟨ok, e6⟩ : ∃ v, popOK xs sh db t = v := ⟨_, rfl⟩
  have E1 := Lib.hid e1
  have E2 := Lib.hid e2
  have E3 := Lib.hid e3
  have E4 := Lib.hid e4
  have E5 := Lib.hid e5
  have E6 := Lib.hid e6
  have HXL := Lib.hid T1.out.len
  clear e1 e2 e3 e4 e5 e6
  go_wp2_with (fail)
  refine (pop_at (impl_PopEntry_any t _ T1.out S2.out S3.out) E1.out E2.out E3.out E4.out E5.out E6.out).mono ?_
  rintro e w2 ⟨A5, n5, c5, A6, n6, c6, A7, n7, c7, rfl, o5, o6, o7, _, _, _, hb⟩
  have L5 := Lib.hid o5.len
  have L6 := Lib.hid o6.len
  have L7 := Lib.hid o7.len
  replace T1 := Lib.hid (T1.out.below hb (Nat.le_refl _))
  replace S2 := Lib.hid (S2.out.below hb (Nat.le_refl _))
  replace S3 := Lib.hid (S3.out.below hb (Nat.le_refl _))
  replace X := Lib.hid (X.out.on hb)
  replace B1 := Lib.hid (B1.out.trans (hb.mono B1.out.size))
  clear hb
  have P5 := Lib.hid o5.ts
  have P6 := Lib.hid o6.is
  have P7 := Lib.hid o7.is
  clear o5 o6 o7
  replace T1 := Lib.hid (T1.out.alloc (.cells #[.int .i64 y.a, .int .i64 y.b, .int .i64 y.c] 29))
  replace S2 := Lib.hid (S2.out.alloc (.cells #[.int .i64 y.a, .int .i64 y.b, .int .i64 y.c] 29))
  replace S3 := Lib.hid (S3.out.alloc (.cells #[.int .i64 y.a, .int .i64 y.b, .int .i64 y.c] 29))
  replace P5 := Lib.hid (P5.out.alloc (.cells #[.int .i64 y.a, .int .i64 y.b, .int .i64 y.c] 29))
  replace P6 := Lib.hid (P6.out.alloc (.cells #[.int .i64 y.a, .int .i64 y.b, .int .i64 y.c] 29))
  replace P7 := Lib.hid (P7.out.alloc (.cells #[.int .i64 y.a, .int .i64 y.b, .int .i64 y.c] 29))
  replace X := Lib.hid (X.out.alloc (.cells #[.int .i64 y.a, .int .i64 y.b, .int .i64 y.c] 29))
  replace B1 := Lib.hid (B1.out.alloc B1.out.size (.cells #[.int .i64 y.a, .int .i64 y.b, .int .i64 y.c] 29))
  have Y := Lib.hid (Blk.new w2 29 #[.int .i64 y.a, .int .i64 y.b, .int .i64 y.c])
  replace T1 := Lib.hid (T1.out.alloc (.cells #[.slice A5 n5 c5, .slice A6 n6 c6, .slice A7 n7 c7, .int .i64 t2] 26))
  replace S2 := Lib.hid (S2.out.alloc (.cells #[.slice A5 n5 c5, .slice A6 n6 c6, .slice A7 n7 c7, .int .i64 t2] 26))
  replace S3 := Lib.hid (S3.out.alloc (.cells #[.slice A5 n5 c5, .slice A6 n6 c6, .slice A7 n7 c7, .int .i64 t2] 26))
  replace P5 := Lib.hid (P5.out.alloc (.cells #[.slice A5 n5 c5, .slice A6 n6 c6, .slice A7 n7 c7, .int .i64 t2] 26))
  replace P6 := Lib.hid (P6.out.alloc (.cells #[.slice A5 n5 c5, .slice A6 n6 c6, .slice A7 n7 c7, .int .i64 t2] 26))
  replace P7 := Lib.hid (P7.out.alloc (.cells #[.slice A5 n5 c5, .slice A6 n6 c6, .slice A7 n7 c7, .int .i64 t2] 26))
  replace X := Lib.hid (X.out.alloc (.cells #[.slice A5 n5 c5, .slice A6 n6 c6, .slice A7 n7 c7, .int .i64 t2] 26))
  replace Y := Lib.hid (Y.out.alloc (.cells #[.slice A5 n5 c5, .slice A6 n6 c6, .slice A7 n7 c7, .int .i64 t2] 26))
  replace B1 := Lib.hid (B1.out.alloc B1.out.size (.cells #[.slice A5 n5 c5, .slice A6 n6 c6, .slice A7 n7 c7, .int .i64 t2] 26))
  have Z : Hid (Blk ((w2.alloc (.cells #[.int .i64 y.a, .int .i64 y.b, .int .i64 y.c] 29)).alloc (.cells #[.slice A5 n5 c5, .slice A6 n6 c6, .slice A7 n7 c7, .int .i64 t2] 26)) (w2.heap.size + 1) 26 #[.slice A5 n5 c5, .slice A6 n6 c6, .slice A7 n7 c7, .int .i64 t2]) := Lib.hid (by simpa using Blk.new (w2.alloc (.cells #[.int .i64 y.a, .int .i64 y.b, .int .i64 y.c] 29)) 26 #[.slice A5 n5 c5, .slice A6 n6 c6, .slice A7 n7 c7, .int .i64 t2])
  obtain ⟨x0, x1, x2, x3⟩ := X.out.c4
  go_wp2_with (fail)
  refine (pop_at (spec_PopEntry_any t _ T1.out S2.out S3.out) E1.out E2.out E3.out E4.out E5.out E6.out).mono ?_
  clear x0 x1 x2 x3
  rintro e w3 ⟨A8, n8, c8, A9, n9, c9, A10, n10, c10, rfl, o8, o9, o10, _, _, _, hb⟩
  obtain rfl : n5 = n8 := by have := o8.len; have := L5.out; omega
  obtain rfl : n6 = n9 := by have := o9.len; have := L6.out; omega
  obtain rfl : n7 = n10 := by have := o10.len; have := L7.out; omega
  replace T1 := Lib.hid (T1.out.below hb (Nat.le_refl _))
  replace S2 := Lib.hid (S2.out.below hb (Nat.le_refl _))
  replace S3 := Lib.hid (S3.out.below hb (Nat.le_refl _))
  replace P5 := Lib.hid (P5.out.below hb (Nat.le_refl _))
  replace P6 := Lib.hid (P6.out.below hb (Nat.le_refl _))
  replace P7 := Lib.hid (P7.out.below hb (Nat.le_refl _))
  replace X := Lib.hid (X.out.on hb)
  replace Y := Lib.hid (Y.out.on hb)
  replace Z := Lib.hid (Z.out.on hb)
  replace B1 := Lib.hid (B1.out.trans (hb.mono B1.out.size))
  clear hb
  have K5 := Lib.hid o8.ts
  have K6 := Lib.hid o9.is
  have K7 := Lib.hid o10.is
  clear o8 o9 o10
  replace T1 := Lib.hid (T1.out.alloc (.cells #[.int .i64 y.a, .int .i64 y.b, .int .i64 y.c] 29))
  replace S2 := Lib.hid (S2.out.alloc (.cells #[.int .i64 y.a, .int .i64 y.b, .int .i64 y.c] 29))
  replace S3 := Lib.hid (S3.out.alloc (.cells #[.int .i64 y.a, .int .i64 y.b, .int .i64 y.c] 29))
  replace P5 := Lib.hid (P5.out.alloc (.cells #[.int .i64 y.a, .int .i64 y.b, .int .i64 y.c] 29))
  replace P6 := Lib.hid (P6.out.alloc (.cells #[.int .i64 y.a, .int .i64 y.b, .int .i64 y.c] 29))
  replace P7 := Lib.hid (P7.out.alloc (.cells #[.int .i64 y.a, .int .i64 y.b, .int .i64 y.c] 29))
  replace K5 := Lib.hid (K5.out.alloc (.cells #[.int .i64 y.a, .int .i64 y.b, .int .i64 y.c] 29))
  replace K6 := Lib.hid (K6.out.alloc (.cells #[.int .i64 y.a, .int .i64 y.b, .int .i64 y.c] 29))
  replace K7 := Lib.hid (K7.out.alloc (.cells #[.int .i64 y.a, .int .i64 y.b, .int .i64 y.c] 29))
  replace X := Lib.hid (X.out.alloc (.cells #[.int .i64 y.a, .int .i64 y.b, .int .i64 y.c] 29))
  replace Y := Lib.hid (Y.out.alloc (.cells #[.int .i64 y.a, .int .i64 y.b, .int .i64 y.c] 29))
  replace Z := Lib.hid (Z.out.alloc (.cells #[.int .i64 y.a, .int .i64 y.b, .int .i64 y.c] 29))
  replace B1 := Lib.hid (B1.out.alloc B1.out.size (.cells #[.int .i64 y.a, .int .i64 y.b, .int .i64 y.c] 29))
  have V := Lib.hid (Blk.new w3 29 #[.int .i64 y.a, .int .i64 y.b, .int .i64 y.c])
  replace T1 := Lib.hid (T1.out.alloc (.cells #[.slice A8 n5 c8, .slice A9 n6 c9, .slice A10 n7 c10, .int .i64 t2] 26))
  replace S2 := Lib.hid (S2.out.alloc (.cells #[.slice A8 n5 c8, .slice A9 n6 c9, .slice A10 n7 c10, .int .i64 t2] 26))
  replace S3 := Lib.hid (S3.out.alloc (.cells #[.slice A8 n5 c8, .slice A9 n6 c9, .slice A10 n7 c10, .int .i64 t2] 26))
  replace P5 := Lib.hid (P5.out.alloc (.cells #[.slice A8 n5 c8, .slice A9 n6 c9, .slice A10 n7 c10, .int .i64 t2] 26))
  replace P6 := Lib.hid (P6.out.alloc (.cells #[.slice A8 n5 c8, .slice A9 n6 c9, .slice A10 n7 c10, .int .i64 t2] 26))
  replace P7 := Lib.hid (P7.out.alloc (.cells #[.slice A8 n5 c8, .slice A9 n6 c9, .slice A10 n7 c10, .int .i64 t2] 26))
  replace K5 := Lib.hid (K5.out.alloc (.cells #[.slice A8 n5 c8, .slice A9 n6 c9, .slice A10 n7 c10, .int .i64 t2] 26))
  replace K6 := Lib.hid (K6.out.alloc (.cells #[.slice A8 n5 c8, .slice A9 n6 c9, .slice A10 n7 c10, .int .i64 t2] 26))
  replace K7 := Lib.hid (K7.out.alloc (.cells #[.slice A8 n5 c8, .slice A9 n6 c9, .slice A10 n7 c10, .int .i64 t2] 26))
  replace X := Lib.hid (X.out.alloc (.cells #[.slice A8 n5 c8, .slice A9 n6 c9, .slice A10 n7 c10, .int .i64 t2] 26))
  replace Y := Lib.hid (Y.out.alloc (.cells #[.slice A8 n5 c8, .slice A9 n6 c9, .slice A10 n7 c10, .int .i64 t2] 26))
  replace Z := Lib.hid (Z.out.alloc (.cells #[.slice A8 n5 c8, .slice A9 n6 c9, .slice A10 n7 c10, .int .i64 t2] 26))
  replace V := Lib.hid (V.out.alloc (.cells #[.slice A8 n5 c8, .slice A9 n6 c9, .slice A10 n7 c10, .int .i64 t2] 26))
  replace B1 := Lib.hid (B1.out.alloc B1.out.size (.cells #[.slice A8 n5 c8, .slice A9 n6 c9, .slice A10 n7 c10, .int .i64 t2] 26))
  have U : Hid (Blk ((w3.alloc (.cells #[.int .i64 y.a, .int .i64 y.b, .int .i64 y.c] 29)).alloc (.cells #[.slice A8 n5 c8, .slice A9 n6 c9, .slice A10 n7 c10, .int .i64 t2] 26)) (w3.heap.size + 1) 26 #[.slice A8 n5 c8, .slice A9 n6 c9, .slice A10 n7 c10, .int .i64 t2]) := Lib.hid (by simpa using Blk.new (w3.alloc (.cells #[.int .i64 y.a, .int .i64 y.b, .int .i64 y.c] 29)) 26 #[.slice A8 n5 c8, .slice A9 n6 c9, .slice A10 n7 c10, .int .i64 t2])
  have ya : (y.a == y.a) = true := by simp
  have yb : (y.b == y.b) = true := by simp
  have yc : (y.c == y.c) = true := by simp
  rcases ok with _ | _
  · skip
    obtain ⟨y0, y1, y2⟩ := Y.out.c3
    obtain ⟨v0, v1, v2⟩ := V.out.c3
    obtain ⟨z0, z1, z2, z3⟩ := Z.out.c4
    obtain ⟨u0, u1, u2, u3⟩ := U.out.c4
    go_wp2_with (fail)
    refine (laws_equalQueue_same t2 _ P5.out P6.out P7.out K5.out K6.out K7.out).mono ?_
    clear y0 y1 y2 v0 v1 v2 z0 z1 z2 z3 u0 u1 u2 u3
    rintro e w4 ⟨rfl, hb⟩
    replace T1 := Lib.hid (T1.out.below hb (Nat.le_refl _))
    replace S2 := Lib.hid (S2.out.below hb (Nat.le_refl _))
    replace S3 := Lib.hid (S3.out.below hb (Nat.le_refl _))
    replace P5 := Lib.hid (P5.out.below hb (Nat.le_refl _))
    replace P6 := Lib.hid (P6.out.below hb (Nat.le_refl _))
    replace P7 := Lib.hid (P7.out.below hb (Nat.le_refl _))
    replace K5 := Lib.hid (K5.out.below hb (Nat.le_refl _))
    replace K6 := Lib.hid (K6.out.below hb (Nat.le_refl _))
    replace K7 := Lib.hid (K7.out.below hb (Nat.le_refl _))
    replace X := Lib.hid (X.out.on hb)
    replace Y := Lib.hid (Y.out.on hb)
    replace Z := Lib.hid (Z.out.on hb)
    replace V := Lib.hid (V.out.on hb)
    replace U := Lib.hid (U.out.on hb)
    replace B1 := Lib.hid (B1.out.trans (hb.mono B1.out.size))
    clear hb
    obtain ⟨y0, y1, y2⟩ := Y.out.c3
    obtain ⟨v0, v1, v2⟩ := V.out.c3
    obtain ⟨z0, z1, z2, z3⟩ := Z.out.c4
    obtain ⟨u0, u1, u2, u3⟩ := U.out.c4
    go_wp2_with (fail)
    refine (laws_equalQueue_same t2 _ P5.out P6.out P7.out K5.out K6.out K7.out).mono ?_
    clear y0 y1 y2 v0 v1 v2 z0 z1 z2 z3 u0 u1 u2 u3
    rintro e w5 ⟨rfl, hb⟩
    replace T1 := Lib.hid (T1.out.below hb (Nat.le_refl _))
    replace S2 := Lib.hid (S2.out.below hb (Nat.le_refl _))
    replace S3 := Lib.hid (S3.out.below hb (Nat.le_refl _))
    replace P5 := Lib.hid (P5.out.below hb (Nat.le_refl _))
    replace P6 := Lib.hid (P6.out.below hb (Nat.le_refl _))
    replace P7 := Lib.hid (P7.out.below hb (Nat.le_refl _))
    replace K5 := Lib.hid (K5.out.below hb (Nat.le_refl _))
    replace K6 := Lib.hid (K6.out.below hb (Nat.le_refl _))
    replace K7 := Lib.hid (K7.out.below hb (Nat.le_refl _))
    replace X := Lib.hid (X.out.on hb)
    replace Y := Lib.hid (Y.out.on hb)
    replace Z := Lib.hid (Z.out.on hb)
    replace V := Lib.hid (V.out.on hb)
    replace U := Lib.hid (U.out.on hb)
    replace B1 := Lib.hid (B1.out.trans (hb.mono B1.out.size))
    clear hb
    go_wp2_with (fail)
    go_ret
    exact ⟨ret_bool (by first | rfl | (simp; done) | (simp; omega)), B1.out⟩
  obtain ⟨y0, y1, y2⟩ := Y.out.c3
  obtain ⟨v0, v1, v2⟩ := V.out.c3
  obtain ⟨z0, z1, z2, z3⟩ := Z.out.c4
  obtain ⟨u0, u1, u2, u3⟩ := U.out.c4
  go_wp2_with (fail)
  refine (laws_equalQueue_same t2 _ P5.out P6.out P7.out K5.out K6.out K7.out).mono ?_
  clear y0 y1 y2 v0 v1 v2 z0 z1 z2 z3 u0 u1 u2 u3
  rintro e w4 ⟨rfl, hb⟩
  replace T1 := Lib.hid (T1.out.below hb (Nat.le_refl _))
  replace S2 := Lib.hid (S2.out.below hb (Nat.le_refl _))
  replace S3 := Lib.hid (S3.out.below hb (Nat.le_refl _))
  replace P5 := Lib.hid (P5.out.below hb (Nat.le_refl _))
  replace P6 := Lib.hid (P6.out.below hb (Nat.le_refl _))
  replace P7 := Lib.hid (P7.out.below hb (Nat.le_refl _))
  replace K5 := Lib.hid (K5.out.below hb (Nat.le_refl _))
  replace K6 := Lib.hid (K6.out.below hb (Nat.le_refl _))
  replace K7 := Lib.hid (K7.out.below hb (Nat.le_refl _))
  replace X := Lib.hid (X.out.on hb)
  replace Y := Lib.hid (Y.out.on hb)
  replace Z := Lib.hid (Z.out.on hb)
  replace V := Lib.hid (V.out.on hb)
  replace U := Lib.hid (U.out.on hb)
  replace B1 := Lib.hid (B1.out.trans (hb.mono B1.out.size))
  clear hb
  clear K5 K6 K7
  clear V U
  obtain ⟨N, u, d, k0, z, LV, l1, l2, l3, l4, l5⟩ := leaves_of E6.out
  obtain rfl : z = y := l1.symm.trans E1.out
  obtain rfl : leaveL xs k0 = ys := l2.symm.trans E2.out
  obtain rfl : sh = sh2 := l3.symm.trans E3.out
  have hvq := (popOK_iff.1 E6.out).1
  have hvq2 := pop_valid E6.out
  rw [E2.out, E3.out, E4.out, E5.out] at hvq2
  have HQ := Lib.hid hvq
  have HQ2 := Lib.hid hvq2
  have HLV := Lib.hid LV
  have HD2 := Lib.hid (E4.out.symm.trans l4)
  have HT2 := Lib.hid (E5.out.symm.trans l5)
  clear l1 l2 l3 l4 l5 hvq hvq2 LV
  obtain ⟨hvE0, _, hvD, hvT⟩ := validQ_iff.1 HQ.out
  have hvE := Lib.hid (validE_iff.1 hvE0)
  have htr := inR_iff.1 hvT
  obtain ⟨hd3, hda⟩ := cnt_iff.1 hvD
  obtain ⟨tn, rfl⟩ := Int.eq_ofNat_of_zero_le htr.1
  have htn : tn < 3 := by omega
  obtain rfl : n3 = 3 := by have := S3.out.len; omega
  clear hvE0 hvD hvT htr hda ya yb yc
  clear P5 P6
  obtain ⟨g3, off3, d0, rfl, hd0, cd0⟩ := S3.out.at_ (k := tn) htn
  have HD0 := Lib.hid hd0
  obtain ⟨x0, x1, x2, x3⟩ := X.out.c4
  obtain ⟨y0, y1, y2⟩ := Y.out.c3
  obtain ⟨z0, z1, z2, z3⟩ := Z.out.c4
  have xl := X.out.lt
  have t0 : (0 : Int) ≤ (tn : Int) := by omega
  have t1 : (tn : Int) < 3 := by omega
  have HZB := Lib.hid HLV.out.cls
  clear hd0 hd3
  go_wp2_with (fail)
  go_loopw [10] (fun i wq => ∃ k mm : Nat, k ≤ n1 ∧ i = .int .i64 (k : Int) ∧ wq = w4.drewN mm ∧ Hid (∀ j y, j < k → xs[j]? = some y → y.b ≠ (tn : Int))) (fun i _ => n1 - (intOf i).toNat)
  case atStart => exact ⟨0, 0, Nat.zero_le _, rfl, rfl, Lib.hid (fun j y hj => absurd hj (Nat.not_lt_zero _))⟩
  case round =>
    obtain ⟨k, mm, hk, rfl, rfl, hbf⟩ := hrel
    by_cases hlt : k < n1
    · have hlt' : (k : Int) < (n1 : Int) := by omega
      have zk : (0 : Int) ≤ (k : Int) := by omega
      obtain ⟨b, off, y, rfl, hy, ca, cb, cc⟩ := T1.out.at_ hlt
      have HY := Lib.hid hy
      clear hy
      by_cases hc : y.b = (tn : Int)
      · rw [hc] at cb
        have hcc : ((tn : Int) == (tn : Int)) = true := by simp
        have hw : Hid (whereC (tn : Int) xs = k) := Lib.hid (whereC_at HY.out hc (fun j hj y' hy' => hbf.out j y' hj hy'))
        by_cases hlt2 : d0 < y.c
        · have hld : decide (d0 < y.c) = true := by simp [hlt2]
          by_cases hzy : z = y
          · subst hzy
            have hun : u = tn := by have h1 := HZB.out; rw [hc] at h1; omega
            have ht2 : t2 = (tn : Int) := by rw [HT2.out, hun]
            have z3' := z3
            rw [ht2] at z3'
            have y1' := y1
            rw [hc] at y1'
            have e1 : (z.a == z.a) = true := by simp
            have e2 : (z.c == z.c) = true := by simp
            clear hc hun ht2 z3 y1 hlt2
            go_wp2_with (fail)
            go_quiet (fail)
            go_wp2_with (fail)
            go_quiet (fail)
            go_wp2_with (fail)
            go_quiet (fail)
            go_wp2_with (fail)
            go_ret
            exact ⟨ret_bool (by first | rfl | (simp; done)), below_drewN (below_drewN (below_drewN (below_drewN B1.out _) _) _) _⟩
          · have hza : ¬ z.a = y.a := fun e => by
              rcases Nat.lt_or_ge k k0 with h1 | h1
              · exact hvE.out.ne HY.out HLV.out.get (by omega) e.symm
              · rcases Nat.eq_or_lt_of_le h1 with h2 | h2
                · subst h2
                  have h3 := HLV.out.get
                  rw [HY.out] at h3
                  exact hzy (by injection h3 with h3; exact h3.symm)
                · exact hvE.out.ne HY.out HLV.out.get (by omega) e.symm
            have e1 : (z.a == y.a) = false := by simp [hza]
            have e1' : (z.a != y.a) = true := by simp [hza]
            clear hc hza hzy hlt2
            go_wp2_with (fail)
            go_quiet (fail)
            go_wp2_with (fail)
            go_quiet (fail)
            go_wp2_with (fail)
            go_quiet (fail)
            go_wp2_with (fail)
            go_ret
            exact ⟨ret_bool (by first | rfl | (simp; done)), below_drewN (below_drewN (below_drewN (below_drewN B1.out _) _) _) _⟩
        · have hld : decide (d0 < y.c) = false := by simp; omega
          have hget : (xs.getD k ⟨0, 0, 0⟩) = y := by rw [List.getD_eq_getElem?_getD, HY.out]; rfl
          have hdb : db.getD tn 0 = d0 := by rw [List.getD_eq_getElem?_getD, HD0.out]; rfl
          have hmay : mayL xs (tn, db) = true := by
            have h1 : hasC xs tn = true := hasC_iff.2 (by rw [hw.out]; have := HXL.out; omega)
            have h2 : sizeC xs tn = y.c := by unfold sizeC; rw [hw.out, hget]
            simp only [mayL, h1, h2, hdb, Bool.true_and, decide_eq_true_eq]
            omega
          have hN := endsQ_one HLV.out.ends (M := 0) ⟨by simpa [stQ] using hmay, fun i hi => absurd hi (Nat.not_lt_zero i)⟩
          subst hN
          have hud := HLV.out.last
          simp only [stQ, Int.toNat_natCast, Prod.mk.injEq] at hud
          obtain ⟨hu, hd⟩ := hud
          subst hu
          subst hd
          have hkk : k0 = k := HLV.out.place.symm.trans hw.out
          subst hkk
          have hzy : z = y := by have h3 := HLV.out.get; rw [HY.out] at h3; injection h3 with h3; exact h3.symm
          subst hzy
          have hzs := HLV.out.size
          have hdr := allR_at HD0.out (cnt_iff.1 (validQ_iff.1 HQ.out).2.2.1).2
          obtain ⟨dv, hdv⟩ : ∃ v, d0 - z.c = v := ⟨_, rfl⟩
          have wdv : IntKind.i64.wrap (d0 - z.c) = dv := by rw [IntKind.wrap_i64]; omega
          have HDB := Lib.hid (show db2 = db.set tn dv by rw [HD2.out, hdb, hdv])
          have y1' := y1
          rw [hc] at y1'
          have HYB := Lib.hid hc
          have e1 : (z.a == z.a) = true := by simp
          have e2 : (z.c == z.c) = true := by simp
          have HLIT : Hid (∀ m : Nat, OW ((w4.drewN m).alloc (.cells #[] 3)) 3 w4.heap.size (some ⟨w4.heap.size, 0, none⟩) 0 0 []) := Lib.hid (fun m => by simpa using OW.lit (w4.drewN m) 3 w4.heap.size [] (Nat.le_refl _) (by simp))
          have HS3 : Hid (∀ (m : Nat) (o : Obj), IS ((w4.drewN m).alloc o) (some ⟨g3, off3, none⟩) 3 c3 db) := Lib.hid (fun m o => (S3.out.drewN m).alloc o)
          have HBA : Hid (∀ m : Nat, Below w4.heap.size w4 ((w4.drewN m).alloc (.cells #[] 3))) := Lib.hid (fun m => (below_drewN (Below.refl w4.heap.size w4) m).alloc (Nat.le_refl _) _)
          have x2a : ∀ (m : Nat) (o : Obj), ((w4.drewN m).alloc o).cell? ⟨w1.heap.size, 2, none⟩ = some (.slice (some ⟨g3, off3, none⟩) 3 c3) := fun m o => cell_alloc (w := w4.drewN m) x2 o
          clear hget hdb hmay hzs hdr hdv hc y1 hlt2
          go_wp2_with (fail)
          go_quiet (fail)
          go_wp2_with (fail)
          go_quiet (fail)
          go_wp2_with (at_builtin; go_must (refine wpList_append_is _ rfl (.tmp 103) (.tmp 105) _ rfl w4.heap.size 3 infoInt Try.underlying24 _ _ _ [] rfl (HLIT.out _) _ _ _ db rfl (HS3.out _ _) (by omega) (by simp) ?_); intro A8 c8 w8 hown8 hg8; have O8 : Hid (OW w8 3 w4.heap.size A8 3 c8 db) := Lib.hid (by simpa using hown8); have B8 : Hid (Below w4.heap.size w4 w8) := Lib.hid ((HLIT.out _).below_grown hg8 (HBA.out _) (Nat.le_refl _) (by simp)); clear hown8 hg8)
          obtain ⟨g8, rfl, hg8, _⟩ := O8.out.pos (by omega)
          obtain ⟨_, _, v8, e0, hx8, hc8⟩ := O8.out.is.at_ (k := tn) htn
          simp only [Option.some.injEq, Addr.mk.injEq, and_true] at e0
          obtain ⟨rfl, rfl⟩ := e0
          rw [Nat.zero_add] at hc8
          obtain rfl : v8 = d0 := by rw [HD0.out] at hx8; injection hx8 with h; exact h.symm
          have hf8 : w8.frozen? ⟨g8, tn, none⟩ = false := World.ownsRow.frozenAt O8.out tn
          have X8 := Lib.hid (X.out.on B8.out)
          have Y8 := Lib.hid (Y.out.on B8.out)
          clear x2a hx8 x0 x1 x2 x3 y0 y1' y2 z0 z1 z2 z3 ca cb cc cd0
          obtain ⟨x0, x1, x2, x3⟩ := X8.out.c4
          obtain ⟨y0, y1, y2⟩ := Y8.out.c3
          go_region
          clear x0 x1 x2 x3 y0 y1 y2 hc8 hf8
          obtain ⟨w9, e9⟩ : ∃ v, v = (w8.setCell ⟨g8, tn, none⟩ (.int .i64 dv)).drew := ⟨_, rfl⟩
          have BZ : Hid (Below w4.heap.size w4 w9) := Lib.hid (by rw [e9]; exact (B8.out.setCell hg8 _).drew)
          have D9 : Hid (IS w9 (some ⟨g8, 0, none⟩) 3 c8 (db.set tn dv)) := Lib.hid (by rw [e9]; exact (O8.out.storedS tn dv).is.drew)
          rw [← e9]
          clear e9
          have P9 := Lib.hid (by rw [← HDB.out]; exact P7.out.below BZ.out (Nat.le_refl _) : IS w9 A7 n7 c7 (db.set tn dv))
          obtain ⟨x0, x1, x2, x3⟩ := (X.out.on BZ.out).c4
          obtain ⟨y0, y1, y2⟩ := (Y.out.on BZ.out).c3
          obtain ⟨z0, z1, z2, z3⟩ := (Z.out.on BZ.out).c4
          rw [HYB.out] at y1
          obtain ⟨_, _, y', e0, hy', ca, cb, cc⟩ := (T1.out.below BZ.out (Nat.le_refl _)).at_ hlt
          simp only [Option.some.injEq, Addr.mk.injEq, and_true] at e0
          obtain ⟨rfl, rfl⟩ := e0
          obtain rfl : y' = z := by rw [HY.out] at hy'; injection hy' with h; exact h.symm
          rw [HYB.out] at cb
          clear hy'
          go_wp2_with (fail)
          go_quiet ((go_at_call 21; refine (call_b (laws_equalInts_any _ (P9.out.drewN _) (D9.out.drewN _)) (decide_eq_true rfl)).mono ?_; rintro e w' ⟨rfl, m9, rfl⟩; exact ⟨rfl, _, by first | rfl | exact World.drewN_drewN _ _ _⟩))
          go_wp2_with (fail)
          go_ret
          exact ⟨ret_bool (by first | rfl | (simp; done)), below_drewN (B1.out.trans (BZ.out.mono B1.out.size)) _⟩
      · have hcf : (y.b == (tn : Int)) = false := by simp [hc]
        have HC := Lib.hid hc
        clear hc
        go_wp2_with (fail)
        go_quiet (fail)
        go_wp2_with (fail)
        go_roundw
        case rel => exact ⟨k + 1, _, by omega, by first | rfl | go_num, rfl, Lib.hid (fun j y' hj hy' => by
          rcases Nat.lt_or_ge j k with h1 | h1
          · exact hbf.out j y' h1 hy'
          · obtain rfl : j = k := by omega
            rw [HY.out] at hy'
            obtain rfl : y = y' := by injection hy'
            exact HC.out)⟩
        case measure => simp [intOf]; omega
    · have hlt' : ¬ (k : Int) < (n1 : Int) := by omega
      have hzt : ¬ z.b = (tn : Int) := hbf.out k0 z (by have := HLV.out.lt; have := HXL.out; omega) HLV.out.get
      have hzf : (z.b != (tn : Int)) = true := by simp [hzt]
      clear hzt
      go_wp2_with (fail)
      go_ret
      exact ⟨ret_bool (by first | rfl | (simp; done)), below_drewN B1.out _⟩
end Go.Proofs.Ythemfejahohbeaa
