/-
  The walk of FnPushEntry. (Its words were written by a program of my own.)
-/
import Derived.Test.YtmlnaijpbfddaaaPoM
import Derived.Test.YtmlnaijpbfddaaaPoT
import Derived.Test.YtmlnaijpbfddaaaDrawP
import Derived.Test.YtmlnaijpbfddaaaQuZ
import Derived.Test.YtmlnaijpbfddaaaQuA
import Derived.Test.YtmlnaijpbfddaaaQuT
import Derived.Test.YtmlnaijpbfddaaaArF0
import Derived.Test.YtmlnaijpbfddaaaHeldUp
import Derived.Deep.RegionHeld3
import Derived.Deep.DeepMust
import Derived.Deep.DeepCutAuto
namespace Go.Proofs.Ytmlnaijpbfddaaa
open Go.RowKit
-- CALL: W s0
set_option maxHeartbeats 4000000 in
theorem walk_FnPushEntry {A : Option Addr} {n c : Nat} {zs : List Int} (w : World) (h : BS w A n c zs) :
    Calls Try.prog 3 #[.slice A n c] w fun e w' => e = .returned (.bool true) ∧ Below w.heap.size w w' := by
  have H := Lib.hid h
  clear h
  rcases Nat.lt_or_ge 1048576 n with h1 | h1
  · have h1' : (1048576 : Int) < (n : Int) := by omega
    go_enter Try.func3, Try.ntmps3
    go_wp2_with (fail)
    go_ret
    exact ⟨rfl, Below.refl _ _⟩
  have h1' : ¬ (1048576 : Int) < (n : Int) := by omega
  go_enter Try.func3, Try.ntmps3
  go_wp2_with (fail)
  refine (spec_DrawPushEntry_any w H.out h1).mono ?_
  rintro e w1 ⟨xs, sh, db, t, A1, n1, c1, A2, n2, c2, A3, n3, c3, x, rfl, hn1, hn2, hn3, ⟨ht0, ht1⟩, i1, i2, i3, hb⟩
  have T1 := Lib.hid i1
  have S2 := Lib.hid i2
  have S3 := Lib.hid i3
  have B1 := Lib.hid hb
  have hz1 := B1.out.size
  clear hb i1 i2 i3
  have HXL := Lib.hid T1.out.len
  replace T1 := Lib.hid (T1.out.alloc (.cells #[.slice A1 n1 c1, .slice A2 n2 c2, .slice A3 n3 c3, .int .i64 t] 26))
  replace S2 := Lib.hid (S2.out.alloc (.cells #[.slice A1 n1 c1, .slice A2 n2 c2, .slice A3 n3 c3, .int .i64 t] 26))
  replace S3 := Lib.hid (S3.out.alloc (.cells #[.slice A1 n1 c1, .slice A2 n2 c2, .slice A3 n3 c3, .int .i64 t] 26))
  replace B1 := Lib.hid (B1.out.alloc B1.out.size (.cells #[.slice A1 n1 c1, .slice A2 n2 c2, .slice A3 n3 c3, .int .i64 t] 26))
  have X := Lib.hid (Blk.new w1 26 #[.slice A1 n1 c1, .slice A2 n2 c2, .slice A3 n3 c3, .int .i64 t])
  replace T1 := Lib.hid (T1.out.alloc (.cells #[.int .i64 x.a, .int .i64 x.b, .int .i64 x.c] 28))
  replace S2 := Lib.hid (S2.out.alloc (.cells #[.int .i64 x.a, .int .i64 x.b, .int .i64 x.c] 28))
  replace S3 := Lib.hid (S3.out.alloc (.cells #[.int .i64 x.a, .int .i64 x.b, .int .i64 x.c] 28))
  replace X := Lib.hid (X.out.alloc (.cells #[.int .i64 x.a, .int .i64 x.b, .int .i64 x.c] 28))
  replace B1 := Lib.hid (B1.out.alloc B1.out.size (.cells #[.int .i64 x.a, .int .i64 x.b, .int .i64 x.c] 28))
  have Y : Hid (Blk ((w1.alloc (.cells #[.slice A1 n1 c1, .slice A2 n2 c2, .slice A3 n3 c3, .int .i64 t] 26)).alloc (.cells #[.int .i64 x.a, .int .i64 x.b, .int .i64 x.c] 28)) (w1.heap.size + 1) 28 #[.int .i64 x.a, .int .i64 x.b, .int .i64 x.c]) := Lib.hid (by simpa using Blk.new (w1.alloc (.cells #[.slice A1 n1 c1, .slice A2 n2 c2, .slice A3 n3 c3, .int .i64 t] 26)) 28 #[.int .i64 x.a, .int .i64 x.b, .int .i64 x.c])
  obtain ⟨ok, hok⟩ : ∃ v, puOK xs sh db t x = v := ⟨_, rfl⟩
  obtain ⟨tq, hto⟩ : ∃ v, puT xs sh db t x = v := ⟨_, rfl⟩
  have HOK := Lib.hid hok
  have HTO := Lib.hid hto
  clear hok hto
  go_wp2_with (fail)
  refine (impl_PushEntry_any t x _ T1.out S2.out S3.out (by omega) (by omega) (by omega)).mono ?_
  rintro e w2 ⟨A5, n5, c5, A6, n6, c6, A7, n7, c7, rfl, o5, o6, o7, _, _, _, hb⟩
  rw [HTO.out, HOK.out]
  have L5 := Lib.hid o5.len
  have L6 := Lib.hid o6.len
  have L7 := Lib.hid o7.len
  replace T1 := Lib.hid (T1.out.below hb (Nat.le_refl _))
  replace S2 := Lib.hid (S2.out.below hb (Nat.le_refl _))
  replace S3 := Lib.hid (S3.out.below hb (Nat.le_refl _))
  replace X := Lib.hid (X.out.on hb)
  replace Y := Lib.hid (Y.out.on hb)
  replace B1 := Lib.hid (B1.out.trans (hb.mono B1.out.size))
  clear hb
  have P5 := Lib.hid o5.ts
  have P6 := Lib.hid o6.is
  have P7 := Lib.hid o7.is
  clear o5 o6 o7
  replace T1 := Lib.hid (T1.out.alloc (.cells #[.slice A5 n5 c5, .slice A6 n6 c6, .slice A7 n7 c7, .int .i64 tq] 26))
  replace S2 := Lib.hid (S2.out.alloc (.cells #[.slice A5 n5 c5, .slice A6 n6 c6, .slice A7 n7 c7, .int .i64 tq] 26))
  replace S3 := Lib.hid (S3.out.alloc (.cells #[.slice A5 n5 c5, .slice A6 n6 c6, .slice A7 n7 c7, .int .i64 tq] 26))
  replace P5 := Lib.hid (P5.out.alloc (.cells #[.slice A5 n5 c5, .slice A6 n6 c6, .slice A7 n7 c7, .int .i64 tq] 26))
  replace P6 := Lib.hid (P6.out.alloc (.cells #[.slice A5 n5 c5, .slice A6 n6 c6, .slice A7 n7 c7, .int .i64 tq] 26))
  replace P7 := Lib.hid (P7.out.alloc (.cells #[.slice A5 n5 c5, .slice A6 n6 c6, .slice A7 n7 c7, .int .i64 tq] 26))
  replace X := Lib.hid (X.out.alloc (.cells #[.slice A5 n5 c5, .slice A6 n6 c6, .slice A7 n7 c7, .int .i64 tq] 26))
  replace Y := Lib.hid (Y.out.alloc (.cells #[.slice A5 n5 c5, .slice A6 n6 c6, .slice A7 n7 c7, .int .i64 tq] 26))
  replace B1 := Lib.hid (B1.out.alloc B1.out.size (.cells #[.slice A5 n5 c5, .slice A6 n6 c6, .slice A7 n7 c7, .int .i64 tq] 26))
  have Z := Lib.hid (Blk.new w2 26 #[.slice A5 n5 c5, .slice A6 n6 c6, .slice A7 n7 c7, .int .i64 tq])
  obtain ⟨x0, x1, x2, x3⟩ := X.out.c4
  obtain ⟨y0, y1, y2⟩ := Y.out.c3
  go_wp2_with (fail)
  refine (spec_PushEntry_any t x _ T1.out S2.out S3.out (by omega) (by omega) (by omega)).mono ?_
  clear x0 x1 x2 x3 y0 y1 y2
  rintro e w3 ⟨A8, n8, c8, A9, n9, c9, A10, n10, c10, rfl, o8, o9, o10, _, _, _, hb⟩
  rw [HTO.out, HOK.out]
  obtain rfl : n5 = n8 := by have := o8.len; have := L5.out; omega
  obtain rfl : n6 = n9 := by have := o9.len; have := L6.out; omega
  obtain rfl : n7 = n10 := by have := o10.len; have := L7.out; omega
  replace T1 := Lib.hid (T1.out.below hb (Nat.le_refl _))
  replace S2 := Lib.hid (S2.out.below hb (Nat.le_refl _))
  replace S3 := Lib.hid (S3.out.below hb (Nat.le_refl _))
  replace P5 := Lib.hid (P5.out.below hb (Nat.le_refl _))
  replace P6 := Lib.hid (P6.out.below hb (Nat.le_refl _))
  replace P7 := Lib.hid (P7.out.below hb (Nat.le_refl _))
  replace X := Lib.hid (X.out.on hb)
  replace Y := Lib.hid (Y.out.on hb)
  replace Z := Lib.hid (Z.out.on hb)
  replace B1 := Lib.hid (B1.out.trans (hb.mono B1.out.size))
  clear hb
  have K5 := Lib.hid o8.ts
  have K6 := Lib.hid o9.is
  have K7 := Lib.hid o10.is
  clear o8 o9 o10
  replace T1 := Lib.hid (T1.out.alloc (.cells #[.slice A8 n5 c8, .slice A9 n6 c9, .slice A10 n7 c10, .int .i64 tq] 26))
  replace S2 := Lib.hid (S2.out.alloc (.cells #[.slice A8 n5 c8, .slice A9 n6 c9, .slice A10 n7 c10, .int .i64 tq] 26))
  replace S3 := Lib.hid (S3.out.alloc (.cells #[.slice A8 n5 c8, .slice A9 n6 c9, .slice A10 n7 c10, .int .i64 tq] 26))
  replace P5 := Lib.hid (P5.out.alloc (.cells #[.slice A8 n5 c8, .slice A9 n6 c9, .slice A10 n7 c10, .int .i64 tq] 26))
  replace P6 := Lib.hid (P6.out.alloc (.cells #[.slice A8 n5 c8, .slice A9 n6 c9, .slice A10 n7 c10, .int .i64 tq] 26))
  replace P7 := Lib.hid (P7.out.alloc (.cells #[.slice A8 n5 c8, .slice A9 n6 c9, .slice A10 n7 c10, .int .i64 tq] 26))
  replace K5 := Lib.hid (K5.out.alloc (.cells #[.slice A8 n5 c8, .slice A9 n6 c9, .slice A10 n7 c10, .int .i64 tq] 26))
  replace K6 := Lib.hid (K6.out.alloc (.cells #[.slice A8 n5 c8, .slice A9 n6 c9, .slice A10 n7 c10, .int .i64 tq] 26))
  replace K7 := Lib.hid (K7.out.alloc (.cells #[.slice A8 n5 c8, .slice A9 n6 c9, .slice A10 n7 c10, .int .i64 tq] 26))
  replace X := Lib.hid (X.out.alloc (.cells #[.slice A8 n5 c8, .slice A9 n6 c9, .slice A10 n7 c10, .int .i64 tq] 26))
  replace Y := Lib.hid (Y.out.alloc (.cells #[.slice A8 n5 c8, .slice A9 n6 c9, .slice A10 n7 c10, .int .i64 tq] 26))
  replace Z := Lib.hid (Z.out.alloc (.cells #[.slice A8 n5 c8, .slice A9 n6 c9, .slice A10 n7 c10, .int .i64 tq] 26))
  replace B1 := Lib.hid (B1.out.alloc B1.out.size (.cells #[.slice A8 n5 c8, .slice A9 n6 c9, .slice A10 n7 c10, .int .i64 tq] 26))
  have U := Lib.hid (Blk.new w3 26 #[.slice A8 n5 c8, .slice A9 n6 c9, .slice A10 n7 c10, .int .i64 tq])
  rcases ok with _ | _
  · skip
    obtain ⟨z0, z1, z2, z3⟩ := Z.out.c4
    obtain ⟨u0, u1, u2, u3⟩ := U.out.c4
    go_wp2_with (fail)
    refine (laws_equalQueue_same tq _ P5.out P6.out P7.out K5.out K6.out K7.out).mono ?_
    clear z0 z1 z2 z3 u0 u1 u2 u3
    rintro e w4 ⟨rfl, hb⟩
    replace T1 := Lib.hid (T1.out.below hb (Nat.le_refl _))
    replace S2 := Lib.hid (S2.out.below hb (Nat.le_refl _))
    replace S3 := Lib.hid (S3.out.below hb (Nat.le_refl _))
    replace P5 := Lib.hid (P5.out.below hb (Nat.le_refl _))
    replace P6 := Lib.hid (P6.out.below hb (Nat.le_refl _))
    replace P7 := Lib.hid (P7.out.below hb (Nat.le_refl _))
    replace K5 := Lib.hid (K5.out.below hb (Nat.le_refl _))
    replace K6 := Lib.hid (K6.out.below hb (Nat.le_refl _))
    replace K7 := Lib.hid (K7.out.below hb (Nat.le_refl _))
    replace X := Lib.hid (X.out.on hb)
    replace Y := Lib.hid (Y.out.on hb)
    replace Z := Lib.hid (Z.out.on hb)
    replace U := Lib.hid (U.out.on hb)
    replace B1 := Lib.hid (B1.out.trans (hb.mono B1.out.size))
    clear hb
    obtain ⟨z0, z1, z2, z3⟩ := Z.out.c4
    obtain ⟨u0, u1, u2, u3⟩ := U.out.c4
    go_wp2_with (fail)
    refine (laws_equalQueue_same tq _ P5.out P6.out P7.out K5.out K6.out K7.out).mono ?_
    clear z0 z1 z2 z3 u0 u1 u2 u3
    rintro e w5 ⟨rfl, hb⟩
    replace T1 := Lib.hid (T1.out.below hb (Nat.le_refl _))
    replace S2 := Lib.hid (S2.out.below hb (Nat.le_refl _))
    replace S3 := Lib.hid (S3.out.below hb (Nat.le_refl _))
    replace P5 := Lib.hid (P5.out.below hb (Nat.le_refl _))
    replace P6 := Lib.hid (P6.out.below hb (Nat.le_refl _))
    replace P7 := Lib.hid (P7.out.below hb (Nat.le_refl _))
    replace K5 := Lib.hid (K5.out.below hb (Nat.le_refl _))
    replace K6 := Lib.hid (K6.out.below hb (Nat.le_refl _))
    replace K7 := Lib.hid (K7.out.below hb (Nat.le_refl _))
    replace X := Lib.hid (X.out.on hb)
    replace Y := Lib.hid (Y.out.on hb)
    replace Z := Lib.hid (Z.out.on hb)
    replace U := Lib.hid (U.out.on hb)
    replace B1 := Lib.hid (B1.out.trans (hb.mono B1.out.size))
    clear hb
    go_wp2_with (fail)
    go_ret
    exact ⟨ret_bool (by first | rfl | (simp; done) | (simp; omega)), B1.out⟩
  have hX : puX xs sh db t x = xs ++ [x] := by simp [puX, HOK.out]
  have hS : puS xs sh db t x = sh := by simp [puS, HOK.out]
  have hD : puD xs sh db t x = db := by simp [puD, HOK.out]
  have hT : tq = t := by rw [← HTO.out]; simp [puT, HOK.out]
  rw [hX] at P5 K5 L5
  rw [hS] at P6 K6 L6
  rw [hD] at P7 K7 L7
  subst hT
  have hV : validQ (xs ++ [x]) sh db tq = true := HOK.out
  have hV0 : validQ xs sh db tq = true := by
    obtain ⟨v1, v2, v3, v4⟩ := validQ_iff.1 hV
    exact validQ_iff.2 ⟨validE_t ((validE_iff.1 v1).sub (List.sublist_append_left _ _)), v2, v3, v4⟩
  have HV := Lib.hid hV
  have HV0 := Lib.hid hV0
  have HN5 := Lib.hid (show n5 = n1 + 1 by have h1 := L5.out; have h2 := HXL.out; simp at h1; omega)
  clear hX hS hD hV hV0
  obtain ⟨z0, z1, z2, z3⟩ := Z.out.c4
  obtain ⟨u0, u1, u2, u3⟩ := U.out.c4
  go_wp2_with (fail)
  refine (laws_equalQueue_same tq _ P5.out P6.out P7.out K5.out K6.out K7.out).mono ?_
  clear z0 z1 z2 z3 u0 u1 u2 u3
  rintro e w4 ⟨rfl, hb⟩
  replace T1 := Lib.hid (T1.out.below hb (Nat.le_refl _))
  replace S2 := Lib.hid (S2.out.below hb (Nat.le_refl _))
  replace S3 := Lib.hid (S3.out.below hb (Nat.le_refl _))
  replace P5 := Lib.hid (P5.out.below hb (Nat.le_refl _))
  replace P6 := Lib.hid (P6.out.below hb (Nat.le_refl _))
  replace P7 := Lib.hid (P7.out.below hb (Nat.le_refl _))
  replace K5 := Lib.hid (K5.out.below hb (Nat.le_refl _))
  replace K6 := Lib.hid (K6.out.below hb (Nat.le_refl _))
  replace K7 := Lib.hid (K7.out.below hb (Nat.le_refl _))
  replace X := Lib.hid (X.out.on hb)
  replace Y := Lib.hid (Y.out.on hb)
  replace Z := Lib.hid (Z.out.on hb)
  replace U := Lib.hid (U.out.on hb)
  replace B1 := Lib.hid (B1.out.trans (hb.mono B1.out.size))
  clear hb
  clear K5 K6 K7 U
  have hvE := validE_iff.1 (validQ_iff.1 HV.out).1
  have hxr := hvE.at_ (x := x) (by simp)
  obtain ⟨_, ⟨hb0, hb1⟩, hc0, hc9⟩ := hxr
  obtain ⟨C, hC⟩ := Int.eq_ofNat_of_zero_le hb0
  have hC3 : C < 3 := by omega
  obtain ⟨p, hp⟩ : ∃ p, bytesC (xs ++ [x]) (C : Int) = p := ⟨_, rfl⟩
  obtain ⟨r, hr⟩ : ∃ r, bytesC xs (C : Int) = r := ⟨_, rfl⟩
  have hpr : p = r + x.c := by rw [← hp, ← hr, bytesC_snoc, if_pos (by rw [hC])]
  have hpb := bytesC_bd (fun y hy => (hvE.at_ hy).2.2) (C : Int)
  have hrb := bytesC_bd (fun y hy => (hvE.at_ (List.mem_append_left _ hy)).2.2) (C : Int)
  have hl10 := hvE.1
  rw [hp] at hpb
  rw [hr] at hrb
  have hxl : xs.length ≤ 10 := by simp at hl10; omega
  have wr : IntKind.i64.wrap (r + x.c) = p := by rw [IntKind.wrap_i64]; omega
  have HP := Lib.hid hp
  have HR := Lib.hid hr
  have wn : IntKind.i64.wrap ((n1 : Int) + 1) = (n5 : Int) := by have := HN5.out; rw [IntKind.wrap_i64]; omega
  clear hvE hb0 hb1 hc0 hc9 hp hr hpr hpb hrb hl10 hxl
  obtain ⟨x0, x1, x2, x3⟩ := X.out.c4
  obtain ⟨z0, z1, z2, z3⟩ := Z.out.c4
  go_wp2_with (fail)
  refine (ints_at (impl_QueueBytes_any tq _ P5.out P6.out P7.out) (quB_yes HV.out)).mono ?_
  clear z0 z1 z2 z3
  rintro e w5 ⟨A11, n11, c11, rfl, o11, hb⟩
  clear x0 x1 x2 x3
  obtain rfl : n11 = 3 := by simpa [bytesE] using o11.len.symm
  replace T1 := Lib.hid (T1.out.below hb (Nat.le_refl _))
  replace S2 := Lib.hid (S2.out.below hb (Nat.le_refl _))
  replace S3 := Lib.hid (S3.out.below hb (Nat.le_refl _))
  replace P5 := Lib.hid (P5.out.below hb (Nat.le_refl _))
  replace P6 := Lib.hid (P6.out.below hb (Nat.le_refl _))
  replace P7 := Lib.hid (P7.out.below hb (Nat.le_refl _))
  replace X := Lib.hid (X.out.on hb)
  replace Y := Lib.hid (Y.out.on hb)
  replace Z := Lib.hid (Z.out.on hb)
  replace B1 := Lib.hid (B1.out.trans (hb.mono B1.out.size))
  clear hb
  have I1 := Lib.hid o11.is
  clear o11
  obtain ⟨b5, off5, z, rfl, hz, ca, cb, cd⟩ := P5.out.at_ (k := n1) (by have := HN5.out; omega)
  obtain rfl : z = x := by rw [List.getElem?_append_right (by rw [HXL.out]; exact Nat.le_refl _), HXL.out, Nat.sub_self] at hz; simpa using hz.symm
  obtain ⟨b1, off1, v1, rfl, hv1, cp⟩ := I1.out.at_ (k := C) hC3
  obtain rfl : v1 = p := by
    rw [← HP.out]
    obtain rfl | rfl | rfl : C = 0 ∨ C = 1 ∨ C = 2 := by omega
    all_goals (simp [bytesE] at hv1; rw [← hv1]; rfl)
  have hnc5 := P5.out.2.1
  have P9 : Hid (TS w5 (some ⟨b5, off5, none⟩) n1 c5 xs) := Lib.hid (by
    have h := P5.out.cut (lo := 0) (hi := n1) (by omega) (by have := HN5.out; omega)
    have e : (xs ++ [z]).take n1 = xs := by rw [← HXL.out]; simp
    rw [e] at h
    simpa using h)
  have s1 : (0 : Int) ≤ (n1 : Int) := by omega
  have s2 : (n1 : Int) < (n5 : Int) := by have := HN5.out; omega
  have s3 : (n1 : Int) ≤ (c5 : Int) := by have := HN5.out; omega
  have s4 : (0 : Int) ≤ (C : Int) := by omega
  have s5 : (C : Int) < 3 := by omega
  have za : (z.a == z.a) = true := by simp
  have zb : (z.c == z.c) = true := by simp
  have zc : ((C : Int) == (C : Int)) = true := by simp
  have zp : (v1 == v1) = true := by simp
  rw [hC] at Y cb
  clear hz hv1
  obtain ⟨x0, x1, x2, x3⟩ := X.out.c4
  obtain ⟨y0, y1, y2⟩ := Y.out.c3
  obtain ⟨z0, z1, z2, z3⟩ := Z.out.c4
  go_wp2_with (fail)
  go_region_held3 (fun w' => w'.cell? ⟨w2.heap.size, 0, none⟩ = some (.slice (some ⟨b5, off5, none⟩) n5 c5) ∧ w'.cell? ⟨w1.heap.size + 1, 0, none⟩ = some (.int .i64 z.a) ∧ w'.cell? ⟨w1.heap.size + 1, 1, none⟩ = some (.int .i64 (C : Int)) ∧ w'.cell? ⟨w1.heap.size + 1, 2, none⟩ = some (.int .i64 z.c) ∧ w'.cell? ⟨w1.heap.size, 0, none⟩ = some (.slice A1 n1 c1) ∧ w'.cell? ⟨w1.heap.size, 1, none⟩ = some (.slice A2 n2 c2) ∧ w'.cell? ⟨w1.heap.size, 2, none⟩ = some (.slice A3 n3 c3) ∧ w'.cell? ⟨w1.heap.size, 3, none⟩ = some (.int .i64 tq) ∧ w'.cell? ⟨b5, off5 + n1 * 3, none⟩ = some (.int .i64 z.a) ∧ w'.cell? ⟨b5, off5 + n1 * 3 + 1, none⟩ = some (.int .i64 (C : Int)) ∧ w'.cell? ⟨b5, off5 + n1 * 3 + 2, none⟩ = some (.int .i64 z.c) ∧ w'.cell? ⟨b1, off1 + C, none⟩ = some (.int .i64 v1))
    (first | (refine And.intro cq ?_; (refine And.intro ?_ (And.intro ?_ (And.intro ?_ (And.intro ?_ (And.intro ?_ (And.intro ?_ (And.intro ?_ (And.intro ?_ (And.intro ?_ (And.intro ?_ (And.intro ?_ ?_)))))))))) <;> ((first | with_reducible refine cell_up (w := w5) ?_ z0 | with_reducible refine cell_up (w := w5) ?_ y0 | with_reducible refine cell_up (w := w5) ?_ y1 | with_reducible refine cell_up (w := w5) ?_ y2 | with_reducible refine cell_up (w := w5) ?_ x0 | with_reducible refine cell_up (w := w5) ?_ x1 | with_reducible refine cell_up (w := w5) ?_ x2 | with_reducible refine cell_up (w := w5) ?_ x3 | with_reducible refine cell_up (w := w5) ?_ ca | with_reducible refine cell_up (w := w5) ?_ cb | with_reducible refine cell_up (w := w5) ?_ cd | with_reducible refine cell_up (w := w5) ?_ cp); (repeat' (first | with_reducible exact HB2.out | with_reducible exact HB1.out | with_reducible exact Below.refl _ _ | with_reducible refine Below.drew ?_))))) | (refine And.intro ?_ (And.intro ?_ (And.intro ?_ (And.intro ?_ (And.intro ?_ (And.intro ?_ (And.intro ?_ (And.intro ?_ (And.intro ?_ (And.intro ?_ (And.intro ?_ ?_)))))))))) <;> ((first | with_reducible refine cell_up (w := w5) ?_ z0 | with_reducible refine cell_up (w := w5) ?_ y0 | with_reducible refine cell_up (w := w5) ?_ y1 | with_reducible refine cell_up (w := w5) ?_ y2 | with_reducible refine cell_up (w := w5) ?_ x0 | with_reducible refine cell_up (w := w5) ?_ x1 | with_reducible refine cell_up (w := w5) ?_ x2 | with_reducible refine cell_up (w := w5) ?_ x3 | with_reducible refine cell_up (w := w5) ?_ ca | with_reducible refine cell_up (w := w5) ?_ cb | with_reducible refine cell_up (w := w5) ?_ cd | with_reducible refine cell_up (w := w5) ?_ cp); (repeat' (first | with_reducible exact HB2.out | with_reducible exact HB1.out | with_reducible exact Below.refl _ _ | with_reducible refine Below.drew ?_)))))
    (first
      | (go_at_call 10; go_must (refine (laws_equalEntries_same _ (by first | exact P9.out | exact (P9.out).drew) (by first | exact T1.out | exact (T1.out).drew)).mono ?_; rintro e wb ⟨rfl, m9, h9⟩; have HB1 : Hid (Below w5.heap.size w5 wb) := Lib.hid (by rw [h9]; first | exact below_drewN (Below.refl _ _) m9 | exact below_drewN (Below.refl _ _).drew m9); clear h9))
      | (go_at_call 9; refine shut_copy (by assumption) (fun hk => ?_); go_must (refine (ints_at (impl_QueueBytes_any tq _ (by first | exact T1.out.below HB1.out (Nat.le_refl _) | exact (T1.out.below HB1.out (Nat.le_refl _)).drew) (by first | exact S2.out.below HB1.out (Nat.le_refl _) | exact (S2.out.below HB1.out (Nat.le_refl _)).drew) (by first | exact S3.out.below HB1.out (Nat.le_refl _) | exact (S3.out.below HB1.out (Nat.le_refl _)).drew)) (quB_yes HV0.out)).mono ?_; rintro e wc ⟨A12, n12, c12, rfl, o12, hb⟩; have hn12 : n12 = 3 := (by have h7 := o12.len; simpa [bytesE] using h7.symm); subst hn12; have I2 := Lib.hid o12.is; have HB2 : Hid (Below w5.heap.size w5 wc) := Lib.hid (by first | exact HB1.out.trans (hb.mono HB1.out.size) | exact HB1.out.drew.trans (hb.mono HB1.out.size)); clear o12 hb; obtain ⟨b2, off2, v2, rfl, hv2, cq⟩ := I2.out.at_ (k := C) hC3; have e2 : v2 = r := (by rw [← HR.out]; obtain rfl | rfl | rfl : C = 0 ∨ C = 1 ∨ C = 2 := (by omega); all_goals (simp [bytesE] at hv2; rw [← hv2]; rfl)); subst e2; clear hv2; rw [shut_eq (fun w' => w'.cell? ⟨b2, off2 + C, none⟩ = some (.int .i64 v2)) hk] at *; clear hk)))
  all_goals (go_wp2_with (fail); go_ret; exact ⟨ret_bool (by first | rfl | (simp; done)), B1.out.trans (HB2.out.mono B1.out.size)⟩)
end Go.Proofs.Ytmlnaijpbfddaaa
