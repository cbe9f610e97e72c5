/-
  The walk of FnPushEntryPop. (Its words were written by a program of my own.)
-/
import Derived.Test.YthemfejahohbeaaPoN
import Derived.Test.YthemfejahohbeaaQuT
import Derived.Test.YthemfejahohbeaaArF0
import Derived.Test.YthemfejahohbeaaPoK
import Derived.Deep.RegionHeld3
import Derived.Deep.DeepMust
import Derived.Deep.DeepCutAuto
namespace Go.Proofs.Ythemfejahohbeaa
open Go.RowKit
-- CALL: W s0
set_option maxHeartbeats 4000000 in
theorem walk_FnPushEntryPop {A : Option Addr} {n c : Nat} {zs : List Int} (w : World) (h : BS w A n c zs) :
    Calls Try.prog 9 #[.slice A n c] w fun e w' => e = .returned (.bool true) ∧ Below w.heap.size w w' := by
  have H := Lib.hid h
  clear h
  rcases Nat.lt_or_ge 1048576 n with h1 | h1
  · have h1' : (1048576 : Int) < (n : Int) := by omega
    go_enter Try.func9, Try.ntmps9
    go_wp2_with (fail)
    go_ret
    exact ⟨rfl, Below.refl _ _⟩
  have h1' : ¬ (1048576 : Int) < (n : Int) := by omega
  go_enter Try.func9, Try.ntmps9
  go_wp2_with (fail)
  refine (spec_DrawPushEntry_any w H.out h1).mono ?_
  rintro e w1 ⟨xs, sh, db, t, A1, n1, c1, A2, n2, c2, A3, n3, c3, x, rfl, hn1, hn2, hn3, ⟨ht0, ht1⟩, i1, i2, i3, hb⟩
  have T1 := Lib.hid i1
  have S2 := Lib.hid i2
  have S3 := Lib.hid i3
  have B1 := Lib.hid hb
  have hz1 := B1.out.size
  clear hb i1 i2 i3
  have HXL := Lib.hid T1.out.len
  replace T1 := Lib.hid (T1.out.alloc (.cells #[.slice A1 n1 c1, .slice A2 n2 c2, .slice A3 n3 c3, .int .i64 t] 26))
  replace S2 := Lib.hid (S2.out.alloc (.cells #[.slice A1 n1 c1, .slice A2 n2 c2, .slice A3 n3 c3, .int .i64 t] 26))
  replace S3 := Lib.hid (S3.out.alloc (.cells #[.slice A1 n1 c1, .slice A2 n2 c2, .slice A3 n3 c3, .int .i64 t] 26))
  replace B1 := Lib.hid (B1.out.alloc B1.out.size (.cells #[.slice A1 n1 c1, .slice A2 n2 c2, .slice A3 n3 c3, .int .i64 t] 26))
  have X := Lib.hid (Blk.new w1 26 #[.slice A1 n1 c1, .slice A2 n2 c2, .slice A3 n3 c3, .int .i64 t])
  replace T1 := Lib.hid (T1.out.alloc (.cells #[.int .i64 x.a, .int .i64 x.b, .int .i64 x.c] 29))
  replace S2 := Lib.hid (S2.out.alloc (.cells #[.int .i64 x.a, .int .i64 x.b, .int .i64 x.c] 29))
  replace S3 := Lib.hid (S3.out.alloc (.cells #[.int .i64 x.a, .int .i64 x.b, .int .i64 x.c] 29))
  replace X := Lib.hid (X.out.alloc (.cells #[.int .i64 x.a, .int .i64 x.b, .int .i64 x.c] 29))
  replace B1 := Lib.hid (B1.out.alloc B1.out.size (.cells #[.int .i64 x.a, .int .i64 x.b, .int .i64 x.c] 29))
  have Y : Hid (Blk ((w1.alloc (.cells #[.slice A1 n1 c1, .slice A2 n2 c2, .slice A3 n3 c3, .int .i64 t] 26)).alloc (.cells #[.int .i64 x.a, .int .i64 x.b, .int .i64 x.c] 29)) (w1.heap.size + 1) 29 #[.int .i64 x.a, .int .i64 x.b, .int .i64 x.c]) := Lib.hid (by simpa using Blk.new (w1.alloc (.cells #[.slice A1 n1 c1, .slice A2 n2 c2, .slice A3 n3 c3, .int .i64 t] 26)) 29 #[.int .i64 x.a, .int .i64 x.b, .int .i64 x.c])
  obtain ⟨ok, hok⟩ : ∃ v, puOK xs sh db t x = v := ⟨_, rfl⟩
  obtain ⟨tq, hto⟩ : ∃ v, puT xs sh db t x = v := ⟨_, rfl⟩
  have HOK := Lib.hid hok
  have HTO := Lib.hid hto
  clear hok hto
  go_wp2_with (fail)
  refine (impl_PushEntry_any t x _ T1.out S2.out S3.out (by omega) (by omega) (by omega)).mono ?_
  rintro e w2 ⟨A5, n5, c5, A6, n6, c6, A7, n7, c7, rfl, o5, o6, o7, _, _, _, hb⟩
  rw [HTO.out, HOK.out]
  have L5 := Lib.hid o5.len
  have L6 := Lib.hid o6.len
  have L7 := Lib.hid o7.len
  replace T1 := Lib.hid (T1.out.below hb (Nat.le_refl _))
  replace S2 := Lib.hid (S2.out.below hb (Nat.le_refl _))
  replace S3 := Lib.hid (S3.out.below hb (Nat.le_refl _))
  replace X := Lib.hid (X.out.on hb)
  replace Y := Lib.hid (Y.out.on hb)
  replace B1 := Lib.hid (B1.out.trans (hb.mono B1.out.size))
  clear hb
  have P5 := Lib.hid o5.ts
  have P6 := Lib.hid o6.is
  have P7 := Lib.hid o7.is
  clear o5 o6 o7
  replace T1 := Lib.hid (T1.out.alloc (.cells #[.slice A5 n5 c5, .slice A6 n6 c6, .slice A7 n7 c7, .int .i64 tq] 26))
  replace S2 := Lib.hid (S2.out.alloc (.cells #[.slice A5 n5 c5, .slice A6 n6 c6, .slice A7 n7 c7, .int .i64 tq] 26))
  replace S3 := Lib.hid (S3.out.alloc (.cells #[.slice A5 n5 c5, .slice A6 n6 c6, .slice A7 n7 c7, .int .i64 tq] 26))
  replace P5 := Lib.hid (P5.out.alloc (.cells #[.slice A5 n5 c5, .slice A6 n6 c6, .slice A7 n7 c7, .int .i64 tq] 26))
  replace P6 := Lib.hid (P6.out.alloc (.cells #[.slice A5 n5 c5, .slice A6 n6 c6, .slice A7 n7 c7, .int .i64 tq] 26))
  replace P7 := Lib.hid (P7.out.alloc (.cells #[.slice A5 n5 c5, .slice A6 n6 c6, .slice A7 n7 c7, .int .i64 tq] 26))
  replace X := Lib.hid (X.out.alloc (.cells #[.slice A5 n5 c5, .slice A6 n6 c6, .slice A7 n7 c7, .int .i64 tq] 26))
  replace Y := Lib.hid (Y.out.alloc (.cells #[.slice A5 n5 c5, .slice A6 n6 c6, .slice A7 n7 c7, .int .i64 tq] 26))
  replace B1 := Lib.hid (B1.out.alloc B1.out.size (.cells #[.slice A5 n5 c5, .slice A6 n6 c6, .slice A7 n7 c7, .int .i64 tq] 26))
  have Z := Lib.hid (Blk.new w2 26 #[.slice A5 n5 c5, .slice A6 n6 c6, .slice A7 n7 c7, .int .i64 tq])
  obtain ⟨x0, x1, x2, x3⟩ := X.out.c4
  obtain ⟨y0, y1, y2⟩ := Y.out.c3
  go_wp2_with (fail)
  refine (spec_PushEntry_any t x _ T1.out S2.out S3.out (by omega) (by omega) (by omega)).mono ?_
  clear x0 x1 x2 x3 y0 y1 y2
  rintro e w3 ⟨A8, n8, c8, A9, n9, c9, A10, n10, c10, rfl, o8, o9, o10, _, _, _, hb⟩
  rw [HTO.out, HOK.out]
  obtain rfl : n5 = n8 := by have := o8.len; have := L5.out; omega
  obtain rfl : n6 = n9 := by have := o9.len; have := L6.out; omega
  obtain rfl : n7 = n10 := by have := o10.len; have := L7.out; omega
  replace T1 := Lib.hid (T1.out.below hb (Nat.le_refl _))
  replace S2 := Lib.hid (S2.out.below hb (Nat.le_refl _))
  replace S3 := Lib.hid (S3.out.below hb (Nat.le_refl _))
  replace P5 := Lib.hid (P5.out.below hb (Nat.le_refl _))
  replace P6 := Lib.hid (P6.out.below hb (Nat.le_refl _))
  replace P7 := Lib.hid (P7.out.below hb (Nat.le_refl _))
  replace X := Lib.hid (X.out.on hb)
  replace Y := Lib.hid (Y.out.on hb)
  replace Z := Lib.hid (Z.out.on hb)
  replace B1 := Lib.hid (B1.out.trans (hb.mono B1.out.size))
  clear hb
  have K5 := Lib.hid o8.ts
  have K6 := Lib.hid o9.is
  have K7 := Lib.hid o10.is
  clear o8 o9 o10
  replace T1 := Lib.hid (T1.out.alloc (.cells #[.slice A8 n5 c8, .slice A9 n6 c9, .slice A10 n7 c10, .int .i64 tq] 26))
  replace S2 := Lib.hid (S2.out.alloc (.cells #[.slice A8 n5 c8, .slice A9 n6 c9, .slice A10 n7 c10, .int .i64 tq] 26))
  replace S3 := Lib.hid (S3.out.alloc (.cells #[.slice A8 n5 c8, .slice A9 n6 c9, .slice A10 n7 c10, .int .i64 tq] 26))
  replace P5 := Lib.hid (P5.out.alloc (.cells #[.slice A8 n5 c8, .slice A9 n6 c9, .slice A10 n7 c10, .int .i64 tq] 26))
  replace P6 := Lib.hid (P6.out.alloc (.cells #[.slice A8 n5 c8, .slice A9 n6 c9, .slice A10 n7 c10, .int .i64 tq] 26))
  replace P7 := Lib.hid (P7.out.alloc (.cells #[.slice A8 n5 c8, .slice A9 n6 c9, .slice A10 n7 c10, .int .i64 tq] 26))
  replace K5 := Lib.hid (K5.out.alloc (.cells #[.slice A8 n5 c8, .slice A9 n6 c9, .slice A10 n7 c10, .int .i64 tq] 26))
  replace K6 := Lib.hid (K6.out.alloc (.cells #[.slice A8 n5 c8, .slice A9 n6 c9, .slice A10 n7 c10, .int .i64 tq] 26))
  replace K7 := Lib.hid (K7.out.alloc (.cells #[.slice A8 n5 c8, .slice A9 n6 c9, .slice A10 n7 c10, .int .i64 tq] 26))
  replace X := Lib.hid (X.out.alloc (.cells #[.slice A8 n5 c8, .slice A9 n6 c9, .slice A10 n7 c10, .int .i64 tq] 26))
  replace Y := Lib.hid (Y.out.alloc (.cells #[.slice A8 n5 c8, .slice A9 n6 c9, .slice A10 n7 c10, .int .i64 tq] 26))
  replace Z := Lib.hid (Z.out.alloc (.cells #[.slice A8 n5 c8, .slice A9 n6 c9, .slice A10 n7 c10, .int .i64 tq] 26))
  replace B1 := Lib.hid (B1.out.alloc B1.out.size (.cells #[.slice A8 n5 c8, .slice A9 n6 c9, .slice A10 n7 c10, .int .i64 tq] 26))
  have U := Lib.hid (Blk.new w3 26 #[.slice A8 n5 c8, .slice A9 n6 c9, .slice A10 n7 c10, .int .i64 tq])
  rcases ok with _ | _
  · skip
    obtain ⟨z0, z1, z2, z3⟩ := Z.out.c4
    obtain ⟨u0, u1, u2, u3⟩ := U.out.c4
    go_wp2_with (fail)
    refine (laws_equalQueue_same tq _ P5.out P6.out P7.out K5.out K6.out K7.out).mono ?_
    clear z0 z1 z2 z3 u0 u1 u2 u3
    rintro e w4 ⟨rfl, hb⟩
    replace T1 := Lib.hid (T1.out.below hb (Nat.le_refl _))
    replace S2 := Lib.hid (S2.out.below hb (Nat.le_refl _))
    replace S3 := Lib.hid (S3.out.below hb (Nat.le_refl _))
    replace P5 := Lib.hid (P5.out.below hb (Nat.le_refl _))
    replace P6 := Lib.hid (P6.out.below hb (Nat.le_refl _))
    replace P7 := Lib.hid (P7.out.below hb (Nat.le_refl _))
    replace K5 := Lib.hid (K5.out.below hb (Nat.le_refl _))
    replace K6 := Lib.hid (K6.out.below hb (Nat.le_refl _))
    replace K7 := Lib.hid (K7.out.below hb (Nat.le_refl _))
    replace X := Lib.hid (X.out.on hb)
    replace Y := Lib.hid (Y.out.on hb)
    replace Z := Lib.hid (Z.out.on hb)
    replace U := Lib.hid (U.out.on hb)
    replace B1 := Lib.hid (B1.out.trans (hb.mono B1.out.size))
    clear hb
    obtain ⟨z0, z1, z2, z3⟩ := Z.out.c4
    obtain ⟨u0, u1, u2, u3⟩ := U.out.c4
    go_wp2_with (fail)
    refine (laws_equalQueue_same tq _ P5.out P6.out P7.out K5.out K6.out K7.out).mono ?_
    clear z0 z1 z2 z3 u0 u1 u2 u3
    rintro e w5 ⟨rfl, hb⟩
    replace T1 := Lib.hid (T1.out.below hb (Nat.le_refl _))
    replace S2 := Lib.hid (S2.out.below hb (Nat.le_refl _))
    replace S3 := Lib.hid (S3.out.below hb (Nat.le_refl _))
    replace P5 := Lib.hid (P5.out.below hb (Nat.le_refl _))
    replace P6 := Lib.hid (P6.out.below hb (Nat.le_refl _))
    replace P7 := Lib.hid (P7.out.below hb (Nat.le_refl _))
    replace K5 := Lib.hid (K5.out.below hb (Nat.le_refl _))
    replace K6 := Lib.hid (K6.out.below hb (Nat.le_refl _))
    replace K7 := Lib.hid (K7.out.below hb (Nat.le_refl _))
    replace X := Lib.hid (X.out.on hb)
    replace Y := Lib.hid (Y.out.on hb)
    replace Z := Lib.hid (Z.out.on hb)
    replace U := Lib.hid (U.out.on hb)
    replace B1 := Lib.hid (B1.out.trans (hb.mono B1.out.size))
    clear hb
    go_wp2_with (fail)
    go_ret
    exact ⟨ret_bool (by first | rfl | (simp; done) | (simp; omega)), B1.out⟩
  have hX : puX xs sh db t x = xs ++ [x] := by simp [puX, HOK.out]
  have hS : puS xs sh db t x = sh := by simp [puS, HOK.out]
  have hD : puD xs sh db t x = db := by simp [puD, HOK.out]
  have hT : tq = t := by rw [← HTO.out]; simp [puT, HOK.out]
  rw [hX] at P5 K5 L5
  rw [hS] at P6 K6 L6
  rw [hD] at P7 K7 L7
  subst hT
  have hV : validQ (xs ++ [x]) sh db tq = true := HOK.out
  have hV0 : validQ xs sh db tq = true := by
    obtain ⟨v1, v2, v3, v4⟩ := validQ_iff.1 hV
    exact validQ_iff.2 ⟨validE_t ((validE_iff.1 v1).sub (List.sublist_append_left _ _)), v2, v3, v4⟩
  have HV := Lib.hid hV
  have HV0 := Lib.hid hV0
  have HN5 := Lib.hid (show n5 = n1 + 1 by have h1 := L5.out; have h2 := HXL.out; simp at h1; omega)
  clear hX hS hD hV hV0
  obtain ⟨z0, z1, z2, z3⟩ := Z.out.c4
  obtain ⟨u0, u1, u2, u3⟩ := U.out.c4
  go_wp2_with (fail)
  refine (laws_equalQueue_same tq _ P5.out P6.out P7.out K5.out K6.out K7.out).mono ?_
  clear z0 z1 z2 z3 u0 u1 u2 u3
  rintro e w4 ⟨rfl, hb⟩
  replace T1 := Lib.hid (T1.out.below hb (Nat.le_refl _))
  replace S2 := Lib.hid (S2.out.below hb (Nat.le_refl _))
  replace S3 := Lib.hid (S3.out.below hb (Nat.le_refl _))
  replace P5 := Lib.hid (P5.out.below hb (Nat.le_refl _))
  replace P6 := Lib.hid (P6.out.below hb (Nat.le_refl _))
  replace P7 := Lib.hid (P7.out.below hb (Nat.le_refl _))
  replace K5 := Lib.hid (K5.out.below hb (Nat.le_refl _))
  replace K6 := Lib.hid (K6.out.below hb (Nat.le_refl _))
  replace K7 := Lib.hid (K7.out.below hb (Nat.le_refl _))
  replace X := Lib.hid (X.out.on hb)
  replace Y := Lib.hid (Y.out.on hb)
  replace Z := Lib.hid (Z.out.on hb)
  replace U := Lib.hid (U.out.on hb)
  replace B1 := Lib.hid (B1.out.trans (hb.mono B1.out.size))
  clear hb
  clear K5 K6 K7 U
  obtain ⟨al, hal⟩ : ∃ v, popA (xs ++ [x]) sh db tq = v := ⟨_, rfl⟩
  have hpm := pop_perm HV.out
  rw [hal] at hpm
  have hvE := (validE_iff.1 (validQ_iff.1 HV.out).1).perm hpm
  obtain ⟨K, hKl, hKe⟩ := List.getElem_of_mem (hpm.mem_iff.2 (show x ∈ xs ++ [x] by simp))
  have HKX := Lib.hid (show al[K]? = some x by rw [List.getElem?_eq_getElem hKl, hKe])
  have HNE : Hid (∀ j y, j < K → al[j]? = some y → y.a ≠ x.a) := Lib.hid fun j y hj hy => hvE.ne hy HKX.out (by omega)
  have HAL := Lib.hid hal
  have hall : al.length = n1 + 1 := by rw [hpm.length_eq]; simp [HXL.out]
  obtain ⟨qa, hqa⟩ : ∃ v, popA xs sh db tq = v := ⟨_, rfl⟩
  have hqal : qa.length = n1 := by rw [← hqa, pop_length HV0.out, HXL.out]
  have HQA := Lib.hid hqa
  have HQL := Lib.hid hqal
  have HALL := Lib.hid hall
  clear hal hpm hvE hKe hKl hall hqa hqal
  obtain ⟨z0, z1, z2, z3⟩ := Z.out.c4
  go_wp2_with (fail)
  refine (tri_at (impl_PopAll_any tq _ P5.out P6.out P7.out (by have := HN5.out; omega)) HAL.out).mono ?_
  clear z0 z1 z2 z3
  rintro e w5 ⟨A11, n11, c11, rfl, o11, hb⟩
  obtain rfl : n11 = n1 + 1 := by have := o11.len; have := HALL.out; omega
  replace T1 := Lib.hid (T1.out.below hb (Nat.le_refl _))
  replace S2 := Lib.hid (S2.out.below hb (Nat.le_refl _))
  replace S3 := Lib.hid (S3.out.below hb (Nat.le_refl _))
  replace P5 := Lib.hid (P5.out.below hb (Nat.le_refl _))
  replace P6 := Lib.hid (P6.out.below hb (Nat.le_refl _))
  replace P7 := Lib.hid (P7.out.below hb (Nat.le_refl _))
  replace X := Lib.hid (X.out.on hb)
  replace Y := Lib.hid (Y.out.on hb)
  replace Z := Lib.hid (Z.out.on hb)
  replace B1 := Lib.hid (B1.out.trans (hb.mono B1.out.size))
  clear hb
  have P11 := Lib.hid o11.ts
  clear o11
  obtain ⟨y0, y1, y2⟩ := Y.out.c3
  go_wp2_with (fail)
  refine (laws_named_at x K _ P11.out HKX.out HNE.out).mono ?_
  clear y0 y1 y2
  rintro e w6 ⟨rfl, hb⟩
  replace T1 := Lib.hid (T1.out.below hb (Nat.le_refl _))
  replace S2 := Lib.hid (S2.out.below hb (Nat.le_refl _))
  replace S3 := Lib.hid (S3.out.below hb (Nat.le_refl _))
  replace P5 := Lib.hid (P5.out.below hb (Nat.le_refl _))
  replace P6 := Lib.hid (P6.out.below hb (Nat.le_refl _))
  replace P7 := Lib.hid (P7.out.below hb (Nat.le_refl _))
  replace P11 := Lib.hid (P11.out.below hb (Nat.le_refl _))
  replace X := Lib.hid (X.out.on hb)
  replace Y := Lib.hid (Y.out.on hb)
  replace Z := Lib.hid (Z.out.on hb)
  replace B1 := Lib.hid (B1.out.trans (hb.mono B1.out.size))
  clear hb
  replace T1 := Lib.hid (T1.out.alloc (.cells #[.int .i64 x.a, .int .i64 x.b, .int .i64 x.c] 29))
  replace S2 := Lib.hid (S2.out.alloc (.cells #[.int .i64 x.a, .int .i64 x.b, .int .i64 x.c] 29))
  replace S3 := Lib.hid (S3.out.alloc (.cells #[.int .i64 x.a, .int .i64 x.b, .int .i64 x.c] 29))
  replace P5 := Lib.hid (P5.out.alloc (.cells #[.int .i64 x.a, .int .i64 x.b, .int .i64 x.c] 29))
  replace P6 := Lib.hid (P6.out.alloc (.cells #[.int .i64 x.a, .int .i64 x.b, .int .i64 x.c] 29))
  replace P7 := Lib.hid (P7.out.alloc (.cells #[.int .i64 x.a, .int .i64 x.b, .int .i64 x.c] 29))
  replace P11 := Lib.hid (P11.out.alloc (.cells #[.int .i64 x.a, .int .i64 x.b, .int .i64 x.c] 29))
  replace X := Lib.hid (X.out.alloc (.cells #[.int .i64 x.a, .int .i64 x.b, .int .i64 x.c] 29))
  replace Y := Lib.hid (Y.out.alloc (.cells #[.int .i64 x.a, .int .i64 x.b, .int .i64 x.c] 29))
  replace Z := Lib.hid (Z.out.alloc (.cells #[.int .i64 x.a, .int .i64 x.b, .int .i64 x.c] 29))
  replace B1 := Lib.hid (B1.out.alloc B1.out.size (.cells #[.int .i64 x.a, .int .i64 x.b, .int .i64 x.c] 29))
  have V := Lib.hid (Blk.new w6 29 #[.int .i64 x.a, .int .i64 x.b, .int .i64 x.c])
  have ya : (x.a == x.a) = true := by simp
  have yb : (x.b == x.b) = true := by simp
  have yc : (x.c == x.c) = true := by simp
  obtain ⟨x0, x1, x2, x3⟩ := X.out.c4
  obtain ⟨y0, y1, y2⟩ := Y.out.c3
  obtain ⟨v0, v1, v2⟩ := V.out.c3
  go_wp2_with (fail)
  refine (tri_at (impl_PopAll_any tq _ T1.out S2.out S3.out (by omega)) HQA.out).mono ?_
  clear x0 x1 x2 x3 y0 y1 y2 v0 v1 v2
  rintro e w7 ⟨A12, n12, c12, rfl, o12, hb⟩
  obtain rfl : n1 = n12 := by have := o12.len; have := HQL.out; omega
  have wn : IntKind.i64.wrap ((n1 : Int) + 1) = (n1 : Int) + 1 := by rw [IntKind.wrap_i64]; omega
  clear o12
  replace T1 := Lib.hid (T1.out.below hb (Nat.le_refl _))
  replace S2 := Lib.hid (S2.out.below hb (Nat.le_refl _))
  replace S3 := Lib.hid (S3.out.below hb (Nat.le_refl _))
  replace P5 := Lib.hid (P5.out.below hb (Nat.le_refl _))
  replace P6 := Lib.hid (P6.out.below hb (Nat.le_refl _))
  replace P7 := Lib.hid (P7.out.below hb (Nat.le_refl _))
  replace P11 := Lib.hid (P11.out.below hb (Nat.le_refl _))
  replace X := Lib.hid (X.out.on hb)
  replace Y := Lib.hid (Y.out.on hb)
  replace Z := Lib.hid (Z.out.on hb)
  replace V := Lib.hid (V.out.on hb)
  replace B1 := Lib.hid (B1.out.trans (hb.mono B1.out.size))
  clear hb
  go_wp2_with (fail)
  go_ret
  exact ⟨ret_bool (by first | rfl | (simp; done) | (simp; omega)), B1.out⟩
end Go.Proofs.Ythemfejahohbeaa
