/-
  The walk of FnPopAllBytes. (Its words were written by a program of my own.)
-/
import Derived.Test.YthemfejahohbeaaPoN
import Derived.Test.YthemfejahohbeaaQuT
import Derived.Test.YthemfejahohbeaaArF0
import Derived.Deep.RegionHeld3
import Derived.Deep.DeepMust
import Derived.Deep.DeepCutAuto
namespace Go.Proofs.Ythemfejahohbeaa
open Go.RowKit
-- CALL: W s0
set_option maxHeartbeats 4000000 in
theorem walk_FnPopAllBytes {A : Option Addr} {n c : Nat} {zs : List Int} (w : World) (h : BS w A n c zs) :
    Calls Try.prog 11 #[.slice A n c] w fun e w' => e = .returned (.bool true) ∧ Below w.heap.size w w' := by
  have H := Lib.hid h
  clear h
  rcases Nat.lt_or_ge 1048576 n with h1 | h1
  · have h1' : (1048576 : Int) < (n : Int) := by omega
    go_enter Try.func11, Try.ntmps11
    go_wp2_with (fail)
    go_ret
    exact ⟨rfl, Below.refl _ _⟩
  have h1' : ¬ (1048576 : Int) < (n : Int) := by omega
  go_enter Try.func11, Try.ntmps11
  go_wp2_with (fail)
  refine (spec_DrawPopAll_any w H.out h1).mono ?_
  rintro e w1 ⟨xs, sh, db, t, A1, n1, c1, A2, n2, c2, A3, n3, c3, rfl, hn1, hn2, hn3, ⟨ht0, ht1⟩, i1, i2, i3, hb⟩
  have T1 := Lib.hid i1
  have S2 := Lib.hid i2
  have S3 := Lib.hid i3
  have B1 := Lib.hid hb
  have hz1 := B1.out.size
  clear hb i1 i2 i3
  replace T1 := Lib.hid (T1.out.alloc (.cells #[.slice A1 n1 c1, .slice A2 n2 c2, .slice A3 n3 c3, .int .i64 t] 26))
  replace S2 := Lib.hid (S2.out.alloc (.cells #[.slice A1 n1 c1, .slice A2 n2 c2, .slice A3 n3 c3, .int .i64 t] 26))
  replace S3 := Lib.hid (S3.out.alloc (.cells #[.slice A1 n1 c1, .slice A2 n2 c2, .slice A3 n3 c3, .int .i64 t] 26))
  replace B1 := Lib.hid (B1.out.alloc B1.out.size (.cells #[.slice A1 n1 c1, .slice A2 n2 c2, .slice A3 n3 c3, .int .i64 t] 26))
  have X := Lib.hid (Blk.new w1 26 #[.slice A1 n1 c1, .slice A2 n2 c2, .slice A3 n3 c3, .int .i64 t])
  obtain ⟨os, ho⟩ : ∃ v, popA xs sh db t = v := ⟨_, rfl⟩
  have HO := Lib.hid ho
  have HXL := Lib.hid T1.out.len
  have hle := popA_le xs sh db t
  rw [ho] at hle
  clear ho
  go_wp2_with (fail)
  refine (tri_at (impl_PopAll_any t _ T1.out S2.out S3.out (by omega)) HO.out).mono ?_
  rintro e w2 ⟨A4, n4, c4, rfl, o4, hb⟩
  have HL := Lib.hid o4.len
  have hn4 : n4 ≤ 10 := by have := HL.out; omega
  replace T1 := Lib.hid (T1.out.below hb (Nat.le_refl _))
  replace S2 := Lib.hid (S2.out.below hb (Nat.le_refl _))
  replace S3 := Lib.hid (S3.out.below hb (Nat.le_refl _))
  replace X := Lib.hid (X.out.on hb)
  replace B1 := Lib.hid (B1.out.trans (hb.mono B1.out.size))
  clear hb
  have P4 := Lib.hid o4.ts
  clear o4 hle
  obtain ⟨v, hv⟩ : ∃ v, validQ xs sh db t = v := ⟨_, rfl⟩
  have HV := Lib.hid hv
  clear hv
  rcases v with _ | _
  · skip
    obtain ⟨x0, x1, x2, x3⟩ := X.out.c4
    go_wp2_with (fail)
    refine (tri_at (spec_PopAll_any t _ T1.out S2.out S3.out (by omega)) HO.out).mono ?_
    clear x0 x1 x2 x3
    rintro e w3 ⟨A5, n5, c5, rfl, o5, hb⟩
    obtain rfl : n4 = n5 := by have := o5.len; have := HL.out; omega
    replace T1 := Lib.hid (T1.out.below hb (Nat.le_refl _))
    replace S2 := Lib.hid (S2.out.below hb (Nat.le_refl _))
    replace S3 := Lib.hid (S3.out.below hb (Nat.le_refl _))
    replace P4 := Lib.hid (P4.out.below hb (Nat.le_refl _))
    replace X := Lib.hid (X.out.on hb)
    replace B1 := Lib.hid (B1.out.trans (hb.mono B1.out.size))
    clear hb
    have K5 := Lib.hid o5.ts
    clear o5
    go_wp2_with (fail)
    refine (laws_equalEntries_same _ P4.out K5.out).mono ?_
    rintro e w4 ⟨rfl, mm, h4⟩
    replace T1 := Lib.hid (show TS w4 A1 n1 c1 xs by rw [h4]; exact T1.out.drewN mm)
    replace S2 := Lib.hid (show IS w4 A2 n2 c2 sh by rw [h4]; exact S2.out.drewN mm)
    replace S3 := Lib.hid (show IS w4 A3 n3 c3 db by rw [h4]; exact S3.out.drewN mm)
    replace P4 := Lib.hid (show TS w4 A4 n4 c4 os by rw [h4]; exact P4.out.drewN mm)
    replace K5 := Lib.hid (show TS w4 A5 n4 c5 os by rw [h4]; exact K5.out.drewN mm)
    replace X := Lib.hid (show Blk w4 (w1.heap.size) 26 #[.slice A1 n1 c1, .slice A2 n2 c2, .slice A3 n3 c3, .int .i64 t] by rw [h4]; exact X.out)
    replace B1 := Lib.hid (show Below w.heap.size w w4 by rw [h4]; exact below_drewN B1.out mm)
    clear h4
    clear K5
    obtain ⟨x0, x1, x2, x3⟩ := X.out.c4
    go_wp2_with (fail)
    refine (call_b (impl_ValidQueue_any t _ T1.out S2.out S3.out) HV.out).mono ?_
    clear x0 x1 x2 x3
    rintro e w5 ⟨rfl, hb⟩
    replace T1 := Lib.hid (T1.out.below hb (Nat.le_refl _))
    replace S2 := Lib.hid (S2.out.below hb (Nat.le_refl _))
    replace S3 := Lib.hid (S3.out.below hb (Nat.le_refl _))
    replace P4 := Lib.hid (P4.out.below hb (Nat.le_refl _))
    replace X := Lib.hid (X.out.on hb)
    replace B1 := Lib.hid (B1.out.trans (hb.mono B1.out.size))
    clear hb
    obtain ⟨x0, x1, x2, x3⟩ := X.out.c4
    go_wp2_with (fail)
    refine (tri_at (spec_PopAll_any t _ T1.out S2.out S3.out (by omega)) HO.out).mono ?_
    clear x0 x1 x2 x3
    rintro e w6 ⟨A5, n5, c5, rfl, o5, hb⟩
    obtain rfl : n4 = n5 := by have := o5.len; have := HL.out; omega
    replace T1 := Lib.hid (T1.out.below hb (Nat.le_refl _))
    replace S2 := Lib.hid (S2.out.below hb (Nat.le_refl _))
    replace S3 := Lib.hid (S3.out.below hb (Nat.le_refl _))
    replace P4 := Lib.hid (P4.out.below hb (Nat.le_refl _))
    replace X := Lib.hid (X.out.on hb)
    replace B1 := Lib.hid (B1.out.trans (hb.mono B1.out.size))
    clear hb
    have K5 := Lib.hid o5.ts
    clear o5
    go_wp2_with (fail)
    refine (laws_equalEntries_same _ P4.out K5.out).mono ?_
    rintro e w7 ⟨rfl, mm, h4⟩
    replace T1 := Lib.hid (show TS w7 A1 n1 c1 xs by rw [h4]; exact T1.out.drewN mm)
    replace S2 := Lib.hid (show IS w7 A2 n2 c2 sh by rw [h4]; exact S2.out.drewN mm)
    replace S3 := Lib.hid (show IS w7 A3 n3 c3 db by rw [h4]; exact S3.out.drewN mm)
    replace P4 := Lib.hid (show TS w7 A4 n4 c4 os by rw [h4]; exact P4.out.drewN mm)
    replace K5 := Lib.hid (show TS w7 A5 n4 c5 os by rw [h4]; exact K5.out.drewN mm)
    replace X := Lib.hid (show Blk w7 (w1.heap.size) 26 #[.slice A1 n1 c1, .slice A2 n2 c2, .slice A3 n3 c3, .int .i64 t] by rw [h4]; exact X.out)
    replace B1 := Lib.hid (show Below w.heap.size w w7 by rw [h4]; exact below_drewN B1.out mm)
    clear h4
    clear K5
    go_wp2_with (fail)
    go_ret
    exact ⟨ret_bool (by first | rfl | (simp; done) | (simp; omega)), B1.out⟩
  obtain ⟨x0, x1, x2, x3⟩ := X.out.c4
  go_wp2_with (fail)
  refine (tri_at (spec_PopAll_any t _ T1.out S2.out S3.out (by omega)) HO.out).mono ?_
  clear x0 x1 x2 x3
  rintro e w3 ⟨A5, n5, c5, rfl, o5, hb⟩
  obtain rfl : n4 = n5 := by have := o5.len; have := HL.out; omega
  replace T1 := Lib.hid (T1.out.below hb (Nat.le_refl _))
  replace S2 := Lib.hid (S2.out.below hb (Nat.le_refl _))
  replace S3 := Lib.hid (S3.out.below hb (Nat.le_refl _))
  replace P4 := Lib.hid (P4.out.below hb (Nat.le_refl _))
  replace X := Lib.hid (X.out.on hb)
  replace B1 := Lib.hid (B1.out.trans (hb.mono B1.out.size))
  clear hb
  have K5 := Lib.hid o5.ts
  clear o5
  go_wp2_with (fail)
  refine (laws_equalEntries_same _ P4.out K5.out).mono ?_
  rintro e w4 ⟨rfl, mm, h4⟩
  replace T1 := Lib.hid (show TS w4 A1 n1 c1 xs by rw [h4]; exact T1.out.drewN mm)
  replace S2 := Lib.hid (show IS w4 A2 n2 c2 sh by rw [h4]; exact S2.out.drewN mm)
  replace S3 := Lib.hid (show IS w4 A3 n3 c3 db by rw [h4]; exact S3.out.drewN mm)
  replace P4 := Lib.hid (show TS w4 A4 n4 c4 os by rw [h4]; exact P4.out.drewN mm)
  replace K5 := Lib.hid (show TS w4 A5 n4 c5 os by rw [h4]; exact K5.out.drewN mm)
  replace X := Lib.hid (show Blk w4 (w1.heap.size) 26 #[.slice A1 n1 c1, .slice A2 n2 c2, .slice A3 n3 c3, .int .i64 t] by rw [h4]; exact X.out)
  replace B1 := Lib.hid (show Below w.heap.size w w4 by rw [h4]; exact below_drewN B1.out mm)
  clear h4
  clear K5
  obtain ⟨x0, x1, x2, x3⟩ := X.out.c4
  go_wp2_with (fail)
  refine (call_b (impl_ValidQueue_any t _ T1.out S2.out S3.out) HV.out).mono ?_
  clear x0 x1 x2 x3
  rintro e w5 ⟨rfl, hb⟩
  replace T1 := Lib.hid (T1.out.below hb (Nat.le_refl _))
  replace S2 := Lib.hid (S2.out.below hb (Nat.le_refl _))
  replace S3 := Lib.hid (S3.out.below hb (Nat.le_refl _))
  replace P4 := Lib.hid (P4.out.below hb (Nat.le_refl _))
  replace X := Lib.hid (X.out.on hb)
  replace B1 := Lib.hid (B1.out.trans (hb.mono B1.out.size))
  clear hb
  have hpm := pop_perm HV.out
  rw [HO.out] at hpm
  have hvE := validE_iff.1 (validQ_iff.1 HV.out).1
  have hs : (bytesE xs).sum = szE os := by rw [szE_perm hpm]; exact bytesE_sum fun x hx => (hvE.at_ hx).2.1
  have HA := Lib.hid (bytesE_allR hvE)
  have hvE2 := hvE.perm hpm
  have HC := Lib.hid (fun x hx => (hvE2.at_ (x := x) hx).2.2)
  have HVE := Lib.hid (validE_t hvE2)
  obtain ⟨s, hs2⟩ : ∃ s, szE os = s := ⟨_, rfl⟩
  rw [hs2] at hs
  have HS1 := Lib.hid hs
  have HS2 := Lib.hid hs2
  clear hpm hvE hvE2 hs hs2
  obtain ⟨x0, x1, x2, x3⟩ := X.out.c4
  go_wp2_with (fail)
  go_region_held3 (fun w' => w'.cell? ⟨w1.heap.size, 0, none⟩ = some (.slice A1 n1 c1) ∧ w'.cell? ⟨w1.heap.size, 1, none⟩ = some (.slice A2 n2 c2) ∧ w'.cell? ⟨w1.heap.size, 2, none⟩ = some (.slice A3 n3 c3) ∧ w'.cell? ⟨w1.heap.size, 3, none⟩ = some (.int .i64 t))
    (refine And.intro ?_ (And.intro ?_ (And.intro ?_ ?_)) <;> ((first | with_reducible refine cell_up (w := w5) ?_ x0 | with_reducible refine cell_up (w := w5) ?_ x1 | with_reducible refine cell_up (w := w5) ?_ x2 | with_reducible refine cell_up (w := w5) ?_ x3); (repeat' (first | with_reducible exact HB2.out | with_reducible exact HB1.out | with_reducible exact Below.refl _ _ | with_reducible refine Below.drew ?_))))
    (first
      | (go_at_call 33; go_must (refine (call_int (laws_sizeOf_any _ (by first | exact P4.out | exact P4.out.drew) HC.out (by omega)) HS2.out).mono ?_; rintro e w' ⟨rfl, rfl⟩))
      | (go_at_call 26; go_must (refine (ints_at (impl_QueueBytes_any t _ (by first | exact T1.out | exact T1.out.drew) (by first | exact S2.out | exact S2.out.drew) (by first | exact S3.out | exact S3.out.drew)) (quB_yes HV.out)).mono ?_; rintro e wa ⟨A7, n7, c7, rfl, o7, hb⟩; have hn7 : n7 = 3 := (by have h7 := o7.len; simpa [bytesE] using h7.symm); subst hn7; have I7 := Lib.hid o7.is; have HB1 : Hid (Below w5.heap.size w5 wa) := Lib.hid (by first | exact hb | exact (Below.refl w5.heap.size w5).drew.trans hb); clear o7 hb))
      | (go_at_call 34; go_must (refine (call_int (laws_sum_any _ (by first | exact I7.out | exact I7.out.drew) HA.out (by omega)) HS1.out).mono ?_; rintro e w' ⟨rfl, rfl⟩))
      | (go_at_call 35; go_must (refine (call_b (impl_ValidEntries_any _ (by first | exact P4.out.below HB1.out (Nat.le_refl _) | exact (P4.out.below HB1.out (Nat.le_refl _)).drew)) HVE.out).mono ?_; rintro e wb ⟨rfl, hb⟩; have HB2 : Hid (Below w5.heap.size w5 wb) := Lib.hid (by first | exact HB1.out.trans (hb.mono HB1.out.size) | exact HB1.out.drew.trans (hb.mono HB1.out.size)); clear hb)))
  all_goals (go_wp2_with (fail); go_ret; exact ⟨ret_bool (by first | rfl | (simp; done)), B1.out.trans (HB2.out.mono B1.out.size)⟩)
end Go.Proofs.Ythemfejahohbeaa
