/-
  The walk of FnValidQueueEmpty. (Its words were written by a program of my own.)
-/
import Derived.Test.YthemfejahohbeaaPoN
import Derived.Test.YthemfejahohbeaaQuT
import Derived.Test.YthemfejahohbeaaArF0
import Derived.Deep.RegionHeld3
import Derived.Deep.DeepMust
import Derived.Deep.DeepCutAuto
namespace Go.Proofs.Ythemfejahohbeaa
open Go.RowKit
-- CALL: W s0
set_option maxHeartbeats 4000000 in
theorem walk_FnValidQueueEmpty {A : Option Addr} {n c : Nat} {zs : List Int} (w : World) (h : BS w A n c zs) :
    Calls Try.prog 8 #[.slice A n c] w fun e w' => e = .returned (.bool true) ∧ Below w.heap.size w w' := by
  have H := Lib.hid h
  clear h
  rcases Nat.lt_or_ge 1048576 n with h1 | h1
  · have h1' : (1048576 : Int) < (n : Int) := by omega
    go_enter Try.func8, Try.ntmps8
    go_wp2_with (fail)
    go_ret
    exact ⟨rfl, Below.refl _ _⟩
  have h1' : ¬ (1048576 : Int) < (n : Int) := by omega
  go_enter Try.func8, Try.ntmps8
  go_wp2_with (fail)
  refine (spec_DrawValidQueue_any w H.out h1).mono ?_
  rintro e w1 ⟨xs, sh, db, t, A1, n1, c1, A2, n2, c2, A3, n3, c3, rfl, hn1, hn2, hn3, ⟨ht0, ht1⟩, i1, i2, i3, hb⟩
  have T1 := Lib.hid i1
  have S2 := Lib.hid i2
  have S3 := Lib.hid i3
  have B1 := Lib.hid hb
  have hz1 := B1.out.size
  clear hb i1 i2 i3
  replace T1 := Lib.hid (T1.out.alloc (.cells #[.slice A1 n1 c1, .slice A2 n2 c2, .slice A3 n3 c3, .int .i64 t] 26))
  replace S2 := Lib.hid (S2.out.alloc (.cells #[.slice A1 n1 c1, .slice A2 n2 c2, .slice A3 n3 c3, .int .i64 t] 26))
  replace S3 := Lib.hid (S3.out.alloc (.cells #[.slice A1 n1 c1, .slice A2 n2 c2, .slice A3 n3 c3, .int .i64 t] 26))
  replace B1 := Lib.hid (B1.out.alloc B1.out.size (.cells #[.slice A1 n1 c1, .slice A2 n2 c2, .slice A3 n3 c3, .int .i64 t] 26))
  have X := Lib.hid (Blk.new w1 26 #[.slice A1 n1 c1, .slice A2 n2 c2, .slice A3 n3 c3, .int .i64 t])
  obtain ⟨v, hv⟩ : ∃ v, validQ xs sh db t = v := ⟨_, rfl⟩
  have HV := Lib.hid hv
  clear hv
  go_wp2_with (fail)
  refine (call_b (impl_ValidQueue_any t _ T1.out S2.out S3.out) HV.out).mono ?_
  rintro e w2 ⟨rfl, hb⟩
  replace T1 := Lib.hid (T1.out.below hb (Nat.le_refl _))
  replace S2 := Lib.hid (S2.out.below hb (Nat.le_refl _))
  replace S3 := Lib.hid (S3.out.below hb (Nat.le_refl _))
  replace X := Lib.hid (X.out.on hb)
  replace B1 := Lib.hid (B1.out.trans (hb.mono B1.out.size))
  clear hb
  rcases v with _ | _
  · skip
    obtain ⟨x0, x1, x2, x3⟩ := X.out.c4
    go_wp2_with (fail)
    refine (call_b (spec_ValidQueue_any t _ T1.out S2.out S3.out) HV.out).mono ?_
    clear x0 x1 x2 x3
    rintro e w3 ⟨rfl, hb⟩
    replace T1 := Lib.hid (T1.out.below hb (Nat.le_refl _))
    replace S2 := Lib.hid (S2.out.below hb (Nat.le_refl _))
    replace S3 := Lib.hid (S3.out.below hb (Nat.le_refl _))
    replace X := Lib.hid (X.out.on hb)
    replace B1 := Lib.hid (B1.out.trans (hb.mono B1.out.size))
    clear hb
    obtain ⟨x0, x1, x2, x3⟩ := X.out.c4
    go_wp2_with (fail)
    refine (call_b (spec_ValidQueue_any t _ T1.out S2.out S3.out) HV.out).mono ?_
    clear x0 x1 x2 x3
    rintro e w4 ⟨rfl, hb⟩
    replace T1 := Lib.hid (T1.out.below hb (Nat.le_refl _))
    replace S2 := Lib.hid (S2.out.below hb (Nat.le_refl _))
    replace S3 := Lib.hid (S3.out.below hb (Nat.le_refl _))
    replace X := Lib.hid (X.out.on hb)
    replace B1 := Lib.hid (B1.out.trans (hb.mono B1.out.size))
    clear hb
    go_wp2_with (fail)
    go_ret
    exact ⟨ret_bool (by first | rfl | (simp; done) | (simp; omega)), B1.out⟩
  obtain ⟨x0, x1, x2, x3⟩ := X.out.c4
  go_wp2_with (fail)
  refine (call_b (spec_ValidQueue_any t _ T1.out S2.out S3.out) HV.out).mono ?_
  clear x0 x1 x2 x3
  rintro e w3 ⟨rfl, hb⟩
  replace T1 := Lib.hid (T1.out.below hb (Nat.le_refl _))
  replace S2 := Lib.hid (S2.out.below hb (Nat.le_refl _))
  replace S3 := Lib.hid (S3.out.below hb (Nat.le_refl _))
  replace X := Lib.hid (X.out.on hb)
  replace B1 := Lib.hid (B1.out.trans (hb.mono B1.out.size))
  clear hb
  obtain ⟨x0, x1, x2, x3⟩ := X.out.c4
  clear T1
  replace S2 := Lib.hid (S2.out.alloc (.cells #[.slice none 0 0, .slice A2 n2 c2, .slice A3 n3 c3, .int .i64 t] 26))
  replace S3 := Lib.hid (S3.out.alloc (.cells #[.slice none 0 0, .slice A2 n2 c2, .slice A3 n3 c3, .int .i64 t] 26))
  replace X := Lib.hid (X.out.alloc (.cells #[.slice none 0 0, .slice A2 n2 c2, .slice A3 n3 c3, .int .i64 t] 26))
  replace B1 := Lib.hid (B1.out.alloc B1.out.size (.cells #[.slice none 0 0, .slice A2 n2 c2, .slice A3 n3 c3, .int .i64 t] 26))
  have E := Lib.hid (Blk.new w3 26 #[.slice none 0 0, .slice A2 n2 c2, .slice A3 n3 c3, .int .i64 t])
  have EV := Lib.hid (validQ_empty HV.out)
  have EK := Lib.hid (pop_empty sh db t)
  have EA := Lib.hid (popA_nil sh db t)
  obtain ⟨p1, p2, p3, p4, p5⟩ := pop_no EK.out
  go_wp2_with (fail)
  refine (pop_at (impl_PopEntry_any t _ (TS.nil _) S2.out S3.out) p1 p2 p3 p4 p5 EK.out).mono ?_
  clear x0 x1 x2 x3 p1 p2 p3 p4 p5
  rintro e w4 ⟨A5, n5, c5, A6, n6, c6, A7, n7, c7, rfl, _, _, _, _, _, _, hb⟩
  replace S2 := Lib.hid (S2.out.below hb (Nat.le_refl _))
  replace S3 := Lib.hid (S3.out.below hb (Nat.le_refl _))
  replace X := Lib.hid (X.out.on hb)
  replace E := Lib.hid (E.out.on hb)
  replace B1 := Lib.hid (B1.out.trans (hb.mono B1.out.size))
  clear hb
  replace S2 := Lib.hid (S2.out.alloc (.cells #[.int .i64 0, .int .i64 0, .int .i64 0] 29))
  replace S3 := Lib.hid (S3.out.alloc (.cells #[.int .i64 0, .int .i64 0, .int .i64 0] 29))
  replace X := Lib.hid (X.out.alloc (.cells #[.int .i64 0, .int .i64 0, .int .i64 0] 29))
  replace E := Lib.hid (E.out.alloc (.cells #[.int .i64 0, .int .i64 0, .int .i64 0] 29))
  replace B1 := Lib.hid (B1.out.alloc B1.out.size (.cells #[.int .i64 0, .int .i64 0, .int .i64 0] 29))
  have Y := Lib.hid (Blk.new w4 29 #[.int .i64 0, .int .i64 0, .int .i64 0])
  replace S2 := Lib.hid (S2.out.alloc (.cells #[.slice A5 n5 c5, .slice A6 n6 c6, .slice A7 n7 c7, .int .i64 0] 26))
  replace S3 := Lib.hid (S3.out.alloc (.cells #[.slice A5 n5 c5, .slice A6 n6 c6, .slice A7 n7 c7, .int .i64 0] 26))
  replace X := Lib.hid (X.out.alloc (.cells #[.slice A5 n5 c5, .slice A6 n6 c6, .slice A7 n7 c7, .int .i64 0] 26))
  replace E := Lib.hid (E.out.alloc (.cells #[.slice A5 n5 c5, .slice A6 n6 c6, .slice A7 n7 c7, .int .i64 0] 26))
  replace Y := Lib.hid (Y.out.alloc (.cells #[.slice A5 n5 c5, .slice A6 n6 c6, .slice A7 n7 c7, .int .i64 0] 26))
  replace B1 := Lib.hid (B1.out.alloc B1.out.size (.cells #[.slice A5 n5 c5, .slice A6 n6 c6, .slice A7 n7 c7, .int .i64 0] 26))
  have Z : Hid (Blk ((w4.alloc (.cells #[.int .i64 0, .int .i64 0, .int .i64 0] 29)).alloc (.cells #[.slice A5 n5 c5, .slice A6 n6 c6, .slice A7 n7 c7, .int .i64 0] 26)) (w4.heap.size + 1) 26 #[.slice A5 n5 c5, .slice A6 n6 c6, .slice A7 n7 c7, .int .i64 0]) := Lib.hid (by simpa using Blk.new (w4.alloc (.cells #[.int .i64 0, .int .i64 0, .int .i64 0] 29)) 26 #[.slice A5 n5 c5, .slice A6 n6 c6, .slice A7 n7 c7, .int .i64 0])
  obtain ⟨e0, e1, e2, e3⟩ := E.out.c4
  go_wp2_with (fail)
  refine (call_b (impl_ValidQueue_any t _ (TS.nil _) S2.out S3.out) EV.out).mono ?_
  clear e0 e1 e2 e3
  rintro e w5 ⟨rfl, hb⟩
  replace S2 := Lib.hid (S2.out.below hb (Nat.le_refl _))
  replace S3 := Lib.hid (S3.out.below hb (Nat.le_refl _))
  replace X := Lib.hid (X.out.on hb)
  replace E := Lib.hid (E.out.on hb)
  replace Y := Lib.hid (Y.out.on hb)
  replace Z := Lib.hid (Z.out.on hb)
  replace B1 := Lib.hid (B1.out.trans (hb.mono B1.out.size))
  clear hb
  obtain ⟨e0, e1, e2, e3⟩ := E.out.c4
  go_wp2_with (fail)
  refine (tri_at (impl_PopAll_any t _ (TS.nil _) S2.out S3.out (by omega)) EA.out).mono ?_
  clear e0 e1 e2 e3
  rintro e w6 ⟨A8, n8, c8, rfl, o8, hb⟩
  obtain rfl : n8 = 0 := by simpa using o8.len.symm
  clear o8
  replace S2 := Lib.hid (S2.out.below hb (Nat.le_refl _))
  replace S3 := Lib.hid (S3.out.below hb (Nat.le_refl _))
  replace X := Lib.hid (X.out.on hb)
  replace E := Lib.hid (E.out.on hb)
  replace Y := Lib.hid (Y.out.on hb)
  replace Z := Lib.hid (Z.out.on hb)
  replace B1 := Lib.hid (B1.out.trans (hb.mono B1.out.size))
  clear hb
  go_wp2_with (fail)
  go_ret
  exact ⟨ret_bool (by first | rfl | (simp; done) | (simp; omega)), B1.out⟩
end Go.Proofs.Ythemfejahohbeaa
