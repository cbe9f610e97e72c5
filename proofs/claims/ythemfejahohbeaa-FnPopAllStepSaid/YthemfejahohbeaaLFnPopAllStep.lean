/-
  The walk of FnPopAllStep. (Its words were written by a program of my own.)
-/
import Derived.Test.YthemfejahohbeaaPoN
import Derived.Test.YthemfejahohbeaaQuT
import Derived.Test.YthemfejahohbeaaArF0
import Derived.Deep.RegionHeld3
import Derived.Deep.DeepMust
import Derived.Deep.DeepCutAuto
namespace Go.Proofs.Ythemfejahohbeaa
open Go.RowKit
-- CALL: W s0
set_option maxHeartbeats 4000000 in
theorem walk_FnPopAllStep {A : Option Addr} {n c : Nat} {zs : List Int} (w : World) (h : BS w A n c zs) :
    Calls Try.prog 6 #[.slice A n c] w fun e w' => e = .returned (.bool true) ∧ Below w.heap.size w w' := by
  have H := Lib.hid h
  clear h
  rcases Nat.lt_or_ge 1048576 n with h1 | h1
  · have h1' : (1048576 : Int) < (n : Int) := by omega
    go_enter Try.func6, Try.ntmps6
    go_wp2_with (fail)
    go_ret
    exact ⟨rfl, Below.refl _ _⟩
  have h1' : ¬ (1048576 : Int) < (n : Int) := by omega
  go_enter Try.func6, Try.ntmps6
  go_wp2_with (fail)
  refine (spec_DrawPopAll_any w H.out h1).mono ?_
  rintro e w1 ⟨xs, sh, db, t, A1, n1, c1, A2, n2, c2, A3, n3, c3, rfl, hn1, hn2, hn3, ⟨ht0, ht1⟩, i1, i2, i3, hb⟩
  have T1 := Lib.hid i1
  have S2 := Lib.hid i2
  have S3 := Lib.hid i3
  have B1 := Lib.hid hb
  have hz1 := B1.out.size
  clear hb i1 i2 i3
  replace T1 := Lib.hid (T1.out.alloc (.cells #[.slice A1 n1 c1, .slice A2 n2 c2, .slice A3 n3 c3, .int .i64 t] 26))
  replace S2 := Lib.hid (S2.out.alloc (.cells #[.slice A1 n1 c1, .slice A2 n2 c2, .slice A3 n3 c3, .int .i64 t] 26))
  replace S3 := Lib.hid (S3.out.alloc (.cells #[.slice A1 n1 c1, .slice A2 n2 c2, .slice A3 n3 c3, .int .i64 t] 26))
  replace B1 := Lib.hid (B1.out.alloc B1.out.size (.cells #[.slice A1 n1 c1, .slice A2 n2 c2, .slice A3 n3 c3, .int .i64 t] 26))
  have X := Lib.hid (Blk.new w1 26 #[.slice A1 n1 c1, .slice A2 n2 c2, .slice A3 n3 c3, .int .i64 t])
  obtain ⟨os, ho⟩ : ∃ v, popA xs sh db t = v := ⟨_, rfl⟩
  have HO := Lib.hid ho
  have HXL := Lib.hid T1.out.len
  have hle := popA_le xs sh db t
  rw [ho] at hle
  clear ho
  go_wp2_with (fail)
  refine (tri_at (impl_PopAll_any t _ T1.out S2.out S3.out (by omega)) HO.out).mono ?_
  rintro e w2 ⟨A4, n4, c4, rfl, o4, hb⟩
  have HL := Lib.hid o4.len
  have hn4 : n4 ≤ 10 := by have := HL.out; omega
  replace T1 := Lib.hid (T1.out.below hb (Nat.le_refl _))
  replace S2 := Lib.hid (S2.out.below hb (Nat.le_refl _))
  replace S3 := Lib.hid (S3.out.below hb (Nat.le_refl _))
  replace X := Lib.hid (X.out.on hb)
  replace B1 := Lib.hid (B1.out.trans (hb.mono B1.out.size))
  clear hb
  have P4 := Lib.hid o4.ts
  clear o4 hle
  rcases Nat.eq_zero_or_pos n4 with h0 | h0
  · skip
    subst h0
    obtain ⟨x0, x1, x2, x3⟩ := X.out.c4
    go_wp2_with (fail)
    refine (tri_at (spec_PopAll_any t _ T1.out S2.out S3.out (by omega)) HO.out).mono ?_
    clear x0 x1 x2 x3
    rintro e w3 ⟨A5, n5, c5, rfl, o5, hb⟩
    obtain rfl : n5 = 0 := by have := o5.len; have := HL.out; omega
    replace T1 := Lib.hid (T1.out.below hb (Nat.le_refl _))
    replace S2 := Lib.hid (S2.out.below hb (Nat.le_refl _))
    replace S3 := Lib.hid (S3.out.below hb (Nat.le_refl _))
    replace P4 := Lib.hid (P4.out.below hb (Nat.le_refl _))
    replace X := Lib.hid (X.out.on hb)
    replace B1 := Lib.hid (B1.out.trans (hb.mono B1.out.size))
    clear hb
    have K5 := Lib.hid o5.ts
    clear o5
    go_wp2_with (fail)
    refine (laws_equalEntries_same _ P4.out K5.out).mono ?_
    rintro e w4 ⟨rfl, mm, h4⟩
    replace T1 := Lib.hid (show TS w4 A1 n1 c1 xs by rw [h4]; exact T1.out.drewN mm)
    replace S2 := Lib.hid (show IS w4 A2 n2 c2 sh by rw [h4]; exact S2.out.drewN mm)
    replace S3 := Lib.hid (show IS w4 A3 n3 c3 db by rw [h4]; exact S3.out.drewN mm)
    replace P4 := Lib.hid (show TS w4 A4 0 c4 os by rw [h4]; exact P4.out.drewN mm)
    replace K5 := Lib.hid (show TS w4 A5 0 c5 os by rw [h4]; exact K5.out.drewN mm)
    replace X := Lib.hid (show Blk w4 (w1.heap.size) 26 #[.slice A1 n1 c1, .slice A2 n2 c2, .slice A3 n3 c3, .int .i64 t] by rw [h4]; exact X.out)
    replace B1 := Lib.hid (show Below w.heap.size w w4 by rw [h4]; exact below_drewN B1.out mm)
    clear h4
    clear K5
    obtain ⟨x0, x1, x2, x3⟩ := X.out.c4
    go_wp2_with (fail)
    refine (tri_at (spec_PopAll_any t _ T1.out S2.out S3.out (by omega)) HO.out).mono ?_
    clear x0 x1 x2 x3
    rintro e w5 ⟨A5, n5, c5, rfl, o5, hb⟩
    obtain rfl : n5 = 0 := by have := o5.len; have := HL.out; omega
    replace T1 := Lib.hid (T1.out.below hb (Nat.le_refl _))
    replace S2 := Lib.hid (S2.out.below hb (Nat.le_refl _))
    replace S3 := Lib.hid (S3.out.below hb (Nat.le_refl _))
    replace P4 := Lib.hid (P4.out.below hb (Nat.le_refl _))
    replace X := Lib.hid (X.out.on hb)
    replace B1 := Lib.hid (B1.out.trans (hb.mono B1.out.size))
    clear hb
    have K5 := Lib.hid o5.ts
    clear o5
    go_wp2_with (fail)
    refine (laws_equalEntries_same _ P4.out K5.out).mono ?_
    rintro e w6 ⟨rfl, mm, h4⟩
    replace T1 := Lib.hid (show TS w6 A1 n1 c1 xs by rw [h4]; exact T1.out.drewN mm)
    replace S2 := Lib.hid (show IS w6 A2 n2 c2 sh by rw [h4]; exact S2.out.drewN mm)
    replace S3 := Lib.hid (show IS w6 A3 n3 c3 db by rw [h4]; exact S3.out.drewN mm)
    replace P4 := Lib.hid (show TS w6 A4 0 c4 os by rw [h4]; exact P4.out.drewN mm)
    replace K5 := Lib.hid (show TS w6 A5 0 c5 os by rw [h4]; exact K5.out.drewN mm)
    replace X := Lib.hid (show Blk w6 (w1.heap.size) 26 #[.slice A1 n1 c1, .slice A2 n2 c2, .slice A3 n3 c3, .int .i64 t] by rw [h4]; exact X.out)
    replace B1 := Lib.hid (show Below w.heap.size w w6 by rw [h4]; exact below_drewN B1.out mm)
    clear h4
    clear K5
    go_wp2_with (fail)
    go_ret
    exact ⟨ret_bool (by first | rfl | (simp; done) | (simp; omega)), B1.out⟩
  have g1 : ((n4 : Int) == 0) = false := by simp; omega
  obtain ⟨x0, x1, x2, x3⟩ := X.out.c4
  go_wp2_with (fail)
  refine (tri_at (spec_PopAll_any t _ T1.out S2.out S3.out (by omega)) HO.out).mono ?_
  clear x0 x1 x2 x3
  rintro e w3 ⟨A5, n5, c5, rfl, o5, hb⟩
  obtain rfl : n4 = n5 := by have := o5.len; have := HL.out; omega
  replace T1 := Lib.hid (T1.out.below hb (Nat.le_refl _))
  replace S2 := Lib.hid (S2.out.below hb (Nat.le_refl _))
  replace S3 := Lib.hid (S3.out.below hb (Nat.le_refl _))
  replace P4 := Lib.hid (P4.out.below hb (Nat.le_refl _))
  replace X := Lib.hid (X.out.on hb)
  replace B1 := Lib.hid (B1.out.trans (hb.mono B1.out.size))
  clear hb
  have K5 := Lib.hid o5.ts
  clear o5
  go_wp2_with (fail)
  refine (laws_equalEntries_same _ P4.out K5.out).mono ?_
  rintro e w4 ⟨rfl, mm, h4⟩
  replace T1 := Lib.hid (show TS w4 A1 n1 c1 xs by rw [h4]; exact T1.out.drewN mm)
  replace S2 := Lib.hid (show IS w4 A2 n2 c2 sh by rw [h4]; exact S2.out.drewN mm)
  replace S3 := Lib.hid (show IS w4 A3 n3 c3 db by rw [h4]; exact S3.out.drewN mm)
  replace P4 := Lib.hid (show TS w4 A4 n4 c4 os by rw [h4]; exact P4.out.drewN mm)
  replace K5 := Lib.hid (show TS w4 A5 n4 c5 os by rw [h4]; exact K5.out.drewN mm)
  replace X := Lib.hid (show Blk w4 (w1.heap.size) 26 #[.slice A1 n1 c1, .slice A2 n2 c2, .slice A3 n3 c3, .int .i64 t] by rw [h4]; exact X.out)
  replace B1 := Lib.hid (show Below w.heap.size w w4 by rw [h4]; exact below_drewN B1.out mm)
  clear h4
  clear K5
  have hok : popOK xs sh db t = true := by
    rcases h : popOK xs sh db t with _ | _
    · have h1 := HO.out
      rw [popA_no h] at h1
      have h2 := HL.out
      rw [← h1] at h2
      simp at h2
      omega
    · rfl
  obtain ⟨y, e1⟩ : ∃ v, popX xs sh db t = v := ⟨_, rfl⟩
  obtain ⟨ys, e2⟩ : ∃ v, popL xs sh db t = v := ⟨_, rfl⟩
  obtain ⟨sh2, e3⟩ : ∃ v, popH xs sh db t = v := ⟨_, rfl⟩
  obtain ⟨db2, e4⟩ : ∃ v, popD xs sh db t = v := ⟨_, rfl⟩
  obtain ⟨t2, e5⟩ : ∃ v, popT xs sh db t = v := ⟨_, rfl⟩
  have hos := popA_yes hok
  have hyl := popL_le xs sh db t
  rw [HO.out, e1, e2, e3, e4, e5] at hos
  rw [e2] at hyl
  obtain ⟨rs, er⟩ : ∃ v, popA ys sh2 db2 t2 = v := ⟨_, rfl⟩
  rw [er] at hos
  have ER := Lib.hid er
  have HOS := Lib.hid hos
  have E1 := Lib.hid e1
  have E2 := Lib.hid e2
  have E3 := Lib.hid e3
  have E4 := Lib.hid e4
  have E5 := Lib.hid e5
  have E6 := Lib.hid hok
  clear hok e1 e2 e3 e4 e5 er hos
  obtain ⟨x0, x1, x2, x3⟩ := X.out.c4
  go_wp2_with (fail)
  refine (pop_at (impl_PopEntry_any t _ T1.out S2.out S3.out) E1.out E2.out E3.out E4.out E5.out E6.out).mono ?_
  clear x0 x1 x2 x3
  rintro e w5 ⟨A5, n5, c5, A6, n6, c6, A7, n7, c7, rfl, o5, o6, o7, _, _, _, hb⟩
  have hn5 : n5 ≤ 10 := by have := o5.len; omega
  replace T1 := Lib.hid (T1.out.below hb (Nat.le_refl _))
  replace S2 := Lib.hid (S2.out.below hb (Nat.le_refl _))
  replace S3 := Lib.hid (S3.out.below hb (Nat.le_refl _))
  replace P4 := Lib.hid (P4.out.below hb (Nat.le_refl _))
  replace X := Lib.hid (X.out.on hb)
  replace B1 := Lib.hid (B1.out.trans (hb.mono B1.out.size))
  clear hb
  have P5 := Lib.hid o5.ts
  have P6 := Lib.hid o6.is
  have P7 := Lib.hid o7.is
  clear o5 o6 o7 hyl
  clear T1 S2 S3 X
  replace P4 := Lib.hid (P4.out.alloc (.cells #[.int .i64 y.a, .int .i64 y.b, .int .i64 y.c] 29))
  replace P5 := Lib.hid (P5.out.alloc (.cells #[.int .i64 y.a, .int .i64 y.b, .int .i64 y.c] 29))
  replace P6 := Lib.hid (P6.out.alloc (.cells #[.int .i64 y.a, .int .i64 y.b, .int .i64 y.c] 29))
  replace P7 := Lib.hid (P7.out.alloc (.cells #[.int .i64 y.a, .int .i64 y.b, .int .i64 y.c] 29))
  replace B1 := Lib.hid (B1.out.alloc B1.out.size (.cells #[.int .i64 y.a, .int .i64 y.b, .int .i64 y.c] 29))
  have Y := Lib.hid (Blk.new w5 29 #[.int .i64 y.a, .int .i64 y.b, .int .i64 y.c])
  replace P4 := Lib.hid (P4.out.alloc (.cells #[.slice A5 n5 c5, .slice A6 n6 c6, .slice A7 n7 c7, .int .i64 t2] 26))
  replace P5 := Lib.hid (P5.out.alloc (.cells #[.slice A5 n5 c5, .slice A6 n6 c6, .slice A7 n7 c7, .int .i64 t2] 26))
  replace P6 := Lib.hid (P6.out.alloc (.cells #[.slice A5 n5 c5, .slice A6 n6 c6, .slice A7 n7 c7, .int .i64 t2] 26))
  replace P7 := Lib.hid (P7.out.alloc (.cells #[.slice A5 n5 c5, .slice A6 n6 c6, .slice A7 n7 c7, .int .i64 t2] 26))
  replace Y := Lib.hid (Y.out.alloc (.cells #[.slice A5 n5 c5, .slice A6 n6 c6, .slice A7 n7 c7, .int .i64 t2] 26))
  replace B1 := Lib.hid (B1.out.alloc B1.out.size (.cells #[.slice A5 n5 c5, .slice A6 n6 c6, .slice A7 n7 c7, .int .i64 t2] 26))
  have Z : Hid (Blk ((w5.alloc (.cells #[.int .i64 y.a, .int .i64 y.b, .int .i64 y.c] 29)).alloc (.cells #[.slice A5 n5 c5, .slice A6 n6 c6, .slice A7 n7 c7, .int .i64 t2] 26)) (w5.heap.size + 1) 26 #[.slice A5 n5 c5, .slice A6 n6 c6, .slice A7 n7 c7, .int .i64 t2]) := Lib.hid (by simpa using Blk.new (w5.alloc (.cells #[.int .i64 y.a, .int .i64 y.b, .int .i64 y.c] 29)) 26 #[.slice A5 n5 c5, .slice A6 n6 c6, .slice A7 n7 c7, .int .i64 t2])
  obtain ⟨g, off, z, rfl, hz, ca, cb, cc⟩ := P4.out.at_ (k := 0) h0
  obtain rfl : y = z := by rw [HOS.out] at hz; simpa using hz
  have hnc := P4.out.2.1
  have hcm := P4.out.2.2.1
  simp only [maxLen] at hcm
  have P9 := Lib.hid (P4.out.rest (K := 1) (by omega))
  have e9 : os.drop 1 = rs := by rw [HOS.out]; rfl
  rw [e9] at P9
  have s1 : (1 : Int) ≤ (n4 : Int) := by omega
  have s2 : (n4 : Int) ≤ (c4 : Int) := by omega
  have s3 : (0 : Int) < (n4 : Int) := by omega
  have ya : (y.a == y.a) = true := by simp
  have yb : (y.b == y.b) = true := by simp
  have yc : (y.c == y.c) = true := by simp
  clear hz e9
  rw [show 0 * 3 = 0 from rfl, Nat.add_zero] at ca cb cc
  obtain ⟨M, hM⟩ : ∃ M, n4 - 1 = M := ⟨_, rfl⟩
  rw [hM] at P9
  go_wp2_with (fail)
  obtain ⟨WW, eWW⟩ : ∃ v, v = ((w5.alloc (.cells #[.int .i64 y.a, .int .i64 y.b, .int .i64 y.c] 29)).alloc (.cells #[.slice A5 n5 c5, .slice A6 n6 c6, .slice A7 n7 c7, .int .i64 t2] 26)) := ⟨_, rfl⟩
  rw [← eWW] at P4 P5 P6 P7 Y Z P9 ca cb cc B1 ⊢
  clear eWW
  by_cases hc1 : c4 = 1
  · skip
    rw [if_pos hc1] at P9
    subst hc1
    obtain rfl : n4 = 1 := by omega
    obtain rfl : M = 0 := by omega
    replace P9 : Hid (TS WW (some ⟨g, off, none⟩) 0 0 rs) := P9
    obtain ⟨y0, y1, y2⟩ := Y.out.c3
    obtain ⟨z0, z1, z2, z3⟩ := Z.out.c4
    go_region_held3 (fun w' => w'.cell? ⟨w5.heap.size, 0, none⟩ = some (.int .i64 y.a) ∧ w'.cell? ⟨w5.heap.size, 1, none⟩ = some (.int .i64 y.b) ∧ w'.cell? ⟨w5.heap.size, 2, none⟩ = some (.int .i64 y.c) ∧ w'.cell? ⟨w5.heap.size + 1, 0, none⟩ = some (.slice A5 n5 c5) ∧ w'.cell? ⟨w5.heap.size + 1, 1, none⟩ = some (.slice A6 n6 c6) ∧ w'.cell? ⟨w5.heap.size + 1, 2, none⟩ = some (.slice A7 n7 c7) ∧ w'.cell? ⟨w5.heap.size + 1, 3, none⟩ = some (.int .i64 t2) ∧ w'.cell? ⟨g, off, none⟩ = some (.int .i64 y.a) ∧ w'.cell? ⟨g, off + 1, none⟩ = some (.int .i64 y.b) ∧ w'.cell? ⟨g, off + 2, none⟩ = some (.int .i64 y.c))
      (refine And.intro ?_ (And.intro ?_ (And.intro ?_ (And.intro ?_ (And.intro ?_ (And.intro ?_ (And.intro ?_ (And.intro ?_ (And.intro ?_ ?_)))))))) <;> ((first | with_reducible refine cell_up (w := WW) ?_ y0 | with_reducible refine cell_up (w := WW) ?_ y1 | with_reducible refine cell_up (w := WW) ?_ y2 | with_reducible refine cell_up (w := WW) ?_ z0 | with_reducible refine cell_up (w := WW) ?_ z1 | with_reducible refine cell_up (w := WW) ?_ z2 | with_reducible refine cell_up (w := WW) ?_ z3 | with_reducible refine cell_up (w := WW) ?_ ca | with_reducible refine cell_up (w := WW) ?_ cb | with_reducible refine cell_up (w := WW) ?_ cc); (repeat' (first | with_reducible exact HB2.out | with_reducible exact HB1.out | with_reducible exact Below.refl _ _ | with_reducible refine Below.drew ?_))))
      (first
        | (go_at_call 23; go_must (refine (tri_at (impl_PopAll_any t2 _ (by first | exact P5.out | exact P5.out.drew) (by first | exact P6.out | exact P6.out.drew) (by first | exact P7.out | exact P7.out.drew) (by omega)) ER.out).mono ?_; rintro e wa ⟨A8, n8, c8, rfl, o8, hb⟩; have hn8 : n8 = 0 := (by have h8 := o8.len; have h9 := P9.out.len; omega); subst hn8; have I8 := Lib.hid o8.ts; have HB1 : Hid (Below WW.heap.size WW wa) := Lib.hid (by first | exact hb | exact (Below.refl WW.heap.size WW).drew.trans hb); clear o8 hb))
        | (go_at_call 24; go_must (refine (laws_equalEntries_same _ (by first | exact I8.out | exact I8.out.drew) (by first | exact P9.out.below HB1.out (Nat.le_refl _) | exact (P9.out.below HB1.out (Nat.le_refl _)).drew)).mono ?_; rintro e wb ⟨rfl, m9, h9⟩; have HB2 : Hid (Below WW.heap.size WW wb) := Lib.hid (by rw [h9]; first | exact below_drewN HB1.out m9 | exact below_drewN HB1.out.drew m9); clear h9)))
    all_goals (go_wp2_with (fail); go_ret; exact ⟨ret_bool (by first | rfl | (simp; done)), B1.out.trans (HB2.out.mono B1.out.size)⟩)
  · skip
    rw [if_neg hc1] at P9
    obtain ⟨y0, y1, y2⟩ := Y.out.c3
    obtain ⟨z0, z1, z2, z3⟩ := Z.out.c4
    go_region_held3 (fun w' => w'.cell? ⟨w5.heap.size, 0, none⟩ = some (.int .i64 y.a) ∧ w'.cell? ⟨w5.heap.size, 1, none⟩ = some (.int .i64 y.b) ∧ w'.cell? ⟨w5.heap.size, 2, none⟩ = some (.int .i64 y.c) ∧ w'.cell? ⟨w5.heap.size + 1, 0, none⟩ = some (.slice A5 n5 c5) ∧ w'.cell? ⟨w5.heap.size + 1, 1, none⟩ = some (.slice A6 n6 c6) ∧ w'.cell? ⟨w5.heap.size + 1, 2, none⟩ = some (.slice A7 n7 c7) ∧ w'.cell? ⟨w5.heap.size + 1, 3, none⟩ = some (.int .i64 t2) ∧ w'.cell? ⟨g, off, none⟩ = some (.int .i64 y.a) ∧ w'.cell? ⟨g, off + 1, none⟩ = some (.int .i64 y.b) ∧ w'.cell? ⟨g, off + 2, none⟩ = some (.int .i64 y.c))
      (refine And.intro ?_ (And.intro ?_ (And.intro ?_ (And.intro ?_ (And.intro ?_ (And.intro ?_ (And.intro ?_ (And.intro ?_ (And.intro ?_ ?_)))))))) <;> ((first | with_reducible refine cell_up (w := WW) ?_ y0 | with_reducible refine cell_up (w := WW) ?_ y1 | with_reducible refine cell_up (w := WW) ?_ y2 | with_reducible refine cell_up (w := WW) ?_ z0 | with_reducible refine cell_up (w := WW) ?_ z1 | with_reducible refine cell_up (w := WW) ?_ z2 | with_reducible refine cell_up (w := WW) ?_ z3 | with_reducible refine cell_up (w := WW) ?_ ca | with_reducible refine cell_up (w := WW) ?_ cb | with_reducible refine cell_up (w := WW) ?_ cc); (repeat' (first | with_reducible exact HB2.out | with_reducible exact HB1.out | with_reducible exact Below.refl _ _ | with_reducible refine Below.drew ?_))))
      (first
        | (go_at_call 23; go_must (refine (tri_at (impl_PopAll_any t2 _ (by first | exact P5.out | exact P5.out.drew) (by first | exact P6.out | exact P6.out.drew) (by first | exact P7.out | exact P7.out.drew) (by omega)) ER.out).mono ?_; rintro e wa ⟨A8, n8, c8, rfl, o8, hb⟩; have hn8 : n8 = M := (by have h8 := o8.len; have h9 := P9.out.len; omega); subst hn8; have I8 := Lib.hid o8.ts; have HB1 : Hid (Below WW.heap.size WW wa) := Lib.hid (by first | exact hb | exact (Below.refl WW.heap.size WW).drew.trans hb); clear o8 hb))
        | (go_at_call 24; go_must (refine (laws_equalEntries_same _ (by first | exact I8.out | exact I8.out.drew) (by first | exact P9.out.below HB1.out (Nat.le_refl _) | exact (P9.out.below HB1.out (Nat.le_refl _)).drew)).mono ?_; rintro e wb ⟨rfl, m9, h9⟩; have HB2 : Hid (Below WW.heap.size WW wb) := Lib.hid (by rw [h9]; first | exact below_drewN HB1.out m9 | exact below_drewN HB1.out.drew m9); clear h9)))
    all_goals (go_wp2_with (fail); go_ret; exact ⟨ret_bool (by first | rfl | (simp; done)), B1.out.trans (HB2.out.mono B1.out.size)⟩)
end Go.Proofs.Ythemfejahohbeaa
