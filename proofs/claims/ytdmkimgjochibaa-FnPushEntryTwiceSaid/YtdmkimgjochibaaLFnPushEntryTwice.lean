/-
  The walk of FnPushEntryTwice. (Its words were written by a program of my own.)
-/
import Derived.Test.YtdmkimgjochibaaDrawP
import Derived.Test.YtdmkimgjochibaaQuZ
import Derived.Test.YtdmkimgjochibaaQuA
import Derived.Deep.RegionHeld3
import Derived.Deep.DeepMust
import Derived.Deep.DeepCutAuto
namespace Go.Proofs.Ytdmkimgjochibaa
open Go.RowKit
-- CALL: W s0
set_option maxHeartbeats 1000000 in
theorem walk_FnPushEntryTwice {A : Option Addr} {n c : Nat} {zs : List Int} (w : World) (h : BS w A n c zs) :
    Calls Try.prog 5 #[.slice A n c] w fun e w' => e = .returned (.bool true) ∧ Below w.heap.size w w' := by
  have H := Lib.hid h
  clear h
  rcases Nat.lt_or_ge 1048576 n with h1 | h1
  · have h1' : (1048576 : Int) < (n : Int) := by omega
    go_enter Try.func5, Try.ntmps5
    go_wp2_with (fail)
    go_ret
    exact ⟨rfl, Below.refl _ _⟩
  have h1' : ¬ (1048576 : Int) < (n : Int) := by omega
  go_enter Try.func5, Try.ntmps5
  go_wp2_with (fail)
  refine (spec_DrawPushEntry_any w H.out h1).mono ?_
  rintro e w1 ⟨xs, sh, db, t, A1, n1, c1, A2, n2, c2, A3, n3, c3, x, rfl, hn1, hn2, hn3, ⟨ht0, ht1⟩, i1, i2, i3, hbl⟩
  have T1 := Lib.hid ((i1.alloc (.cells #[.slice A1 n1 c1, .slice A2 n2 c2, .slice A3 n3 c3, .int .i64 t] 26)).alloc (.cells #[.int .i64 x.a, .int .i64 x.b, .int .i64 x.c] 32))
  have S2 := Lib.hid ((i2.alloc (.cells #[.slice A1 n1 c1, .slice A2 n2 c2, .slice A3 n3 c3, .int .i64 t] 26)).alloc (.cells #[.int .i64 x.a, .int .i64 x.b, .int .i64 x.c] 32))
  have S3 := Lib.hid ((i3.alloc (.cells #[.slice A1 n1 c1, .slice A2 n2 c2, .slice A3 n3 c3, .int .i64 t] 26)).alloc (.cells #[.int .i64 x.a, .int .i64 x.b, .int .i64 x.c] 32))
  have X := Lib.hid ((Blk.new w1 26 #[.slice A1 n1 c1, .slice A2 n2 c2, .slice A3 n3 c3, .int .i64 t]).alloc (.cells #[.int .i64 x.a, .int .i64 x.b, .int .i64 x.c] 32))
  have Y : Hid (Blk ((w1.alloc (.cells #[.slice A1 n1 c1, .slice A2 n2 c2, .slice A3 n3 c3, .int .i64 t] 26)).alloc (.cells #[.int .i64 x.a, .int .i64 x.b, .int .i64 x.c] 32)) (w1.heap.size + 1) 32 #[.int .i64 x.a, .int .i64 x.b, .int .i64 x.c]) := Lib.hid (by simpa using Blk.new (w1.alloc (.cells #[.slice A1 n1 c1, .slice A2 n2 c2, .slice A3 n3 c3, .int .i64 t] 26)) 32 #[.int .i64 x.a, .int .i64 x.b, .int .i64 x.c])
  have hz1 := hbl.size
  have B1 := Lib.hid (hbl.trans (((Below.refl w1.heap.size w1).alloc (Nat.le_refl _) (.cells #[.slice A1 n1 c1, .slice A2 n2 c2, .slice A3 n3 c3, .int .i64 t] 26)).alloc (by simp) (.cells #[.int .i64 x.a, .int .i64 x.b, .int .i64 x.c] 32) |>.mono hz1))
  clear i1 i2 i3 hbl
  obtain ⟨ok, hok⟩ : ∃ v, puOK xs sh db t x = v := ⟨_, rfl⟩
  obtain ⟨tq, hto⟩ : ∃ v, puT xs sh db t x = v := ⟨_, rfl⟩
  have HOK := Lib.hid hok
  have HTO := Lib.hid hto
  clear hok hto
  go_wp2_with (fail)
  refine (impl_PushEntry_any t x _ T1.out S2.out S3.out (by omega) (by omega) (by omega)).mono ?_
  rintro e w2 ⟨A5, n5, c5, A6, n6, c6, A7, n7, c7, rfl, o5, o6, o7, _, _, _, hb⟩
  rw [HTO.out, HOK.out]
  have L5 := Lib.hid o5.len
  have L6 := Lib.hid o6.len
  have L7 := Lib.hid o7.len
  have P5 := Lib.hid (o5.ts.alloc (.cells #[.slice A5 n5 c5, .slice A6 n6 c6, .slice A7 n7 c7, .int .i64 tq] 26))
  have P6 := Lib.hid (o6.is.alloc (.cells #[.slice A5 n5 c5, .slice A6 n6 c6, .slice A7 n7 c7, .int .i64 tq] 26))
  have P7 := Lib.hid (o7.is.alloc (.cells #[.slice A5 n5 c5, .slice A6 n6 c6, .slice A7 n7 c7, .int .i64 tq] 26))
  have Z5 := Lib.hid (Blk.new w2 26 #[.slice A5 n5 c5, .slice A6 n6 c6, .slice A7 n7 c7, .int .i64 tq])
  replace T1 := Lib.hid ((T1.out.below hb (Nat.le_refl _)).alloc (.cells #[.slice A5 n5 c5, .slice A6 n6 c6, .slice A7 n7 c7, .int .i64 tq] 26))
  replace S2 := Lib.hid ((S2.out.below hb (Nat.le_refl _)).alloc (.cells #[.slice A5 n5 c5, .slice A6 n6 c6, .slice A7 n7 c7, .int .i64 tq] 26))
  replace S3 := Lib.hid ((S3.out.below hb (Nat.le_refl _)).alloc (.cells #[.slice A5 n5 c5, .slice A6 n6 c6, .slice A7 n7 c7, .int .i64 tq] 26))
  replace X := Lib.hid ((X.out.on hb).alloc (.cells #[.slice A5 n5 c5, .slice A6 n6 c6, .slice A7 n7 c7, .int .i64 tq] 26))
  replace Y := Lib.hid ((Y.out.on hb).alloc (.cells #[.slice A5 n5 c5, .slice A6 n6 c6, .slice A7 n7 c7, .int .i64 tq] 26))
  replace B1 := Lib.hid ((B1.out.trans (hb.mono B1.out.size)).trans ((below_new w2 (.cells #[.slice A5 n5 c5, .slice A6 n6 c6, .slice A7 n7 c7, .int .i64 tq] 26)).mono (B1.out.trans (hb.mono B1.out.size)).size))
  clear o5 o6 o7 hb
  obtain ⟨xa, xb, xc, xd⟩ := X.out.c4
  obtain ⟨ya, yb, yc⟩ := Y.out.c3
  go_wp2_with (fail)
  clear xa xb xc xd ya yb yc
  refine (spec_PushEntry_any t x _ T1.out S2.out S3.out (by omega) (by omega) (by omega)).mono ?_
  rintro e w3 ⟨A8, n8, c8, A9, n9, c9, A10, n10, c10, rfl, o8, o9, o10, _, _, _, hb⟩
  rw [HTO.out, HOK.out]
  obtain rfl : n5 = n8 := by have := o8.len; have := L5.out; omega
  obtain rfl : n6 = n9 := by have := o9.len; have := L6.out; omega
  obtain rfl : n7 = n10 := by have := o10.len; have := L7.out; omega
  have K5 := Lib.hid (o8.ts.alloc (.cells #[.slice A8 n5 c8, .slice A9 n6 c9, .slice A10 n7 c10, .int .i64 tq] 26))
  have K6 := Lib.hid (o9.is.alloc (.cells #[.slice A8 n5 c8, .slice A9 n6 c9, .slice A10 n7 c10, .int .i64 tq] 26))
  have K7 := Lib.hid (o10.is.alloc (.cells #[.slice A8 n5 c8, .slice A9 n6 c9, .slice A10 n7 c10, .int .i64 tq] 26))
  have Z8 := Lib.hid (Blk.new w3 26 #[.slice A8 n5 c8, .slice A9 n6 c9, .slice A10 n7 c10, .int .i64 tq])
  replace P5 := Lib.hid ((P5.out.below hb (Nat.le_refl _)).alloc (.cells #[.slice A8 n5 c8, .slice A9 n6 c9, .slice A10 n7 c10, .int .i64 tq] 26))
  replace P6 := Lib.hid ((P6.out.below hb (Nat.le_refl _)).alloc (.cells #[.slice A8 n5 c8, .slice A9 n6 c9, .slice A10 n7 c10, .int .i64 tq] 26))
  replace P7 := Lib.hid ((P7.out.below hb (Nat.le_refl _)).alloc (.cells #[.slice A8 n5 c8, .slice A9 n6 c9, .slice A10 n7 c10, .int .i64 tq] 26))
  replace Y := Lib.hid ((Y.out.on hb).alloc (.cells #[.slice A8 n5 c8, .slice A9 n6 c9, .slice A10 n7 c10, .int .i64 tq] 26))
  replace Z5 := Lib.hid ((Z5.out.on hb).alloc (.cells #[.slice A8 n5 c8, .slice A9 n6 c9, .slice A10 n7 c10, .int .i64 tq] 26))
  replace B1 := Lib.hid ((B1.out.trans (hb.mono B1.out.size)).trans ((below_new w3 (.cells #[.slice A8 n5 c8, .slice A9 n6 c9, .slice A10 n7 c10, .int .i64 tq] 26)).mono (B1.out.trans (hb.mono B1.out.size)).size))
  clear o8 o9 o10 hb T1 S2 S3 X
  rcases ok with _ | _
  · obtain ⟨za, zb, zc, zd⟩ := Z5.out.c4
    obtain ⟨va, vb, vc, vd⟩ := Z8.out.c4
    go_wp2_with (fail)
    clear za zb zc zd va vb vc vd
    refine (laws_equalQueue_same tq _ P5.out P6.out P7.out K5.out K6.out K7.out).mono ?_
    rintro e w4 ⟨rfl, hb⟩
    replace P5 := Lib.hid (P5.out.below hb (Nat.le_refl _))
    replace P6 := Lib.hid (P6.out.below hb (Nat.le_refl _))
    replace P7 := Lib.hid (P7.out.below hb (Nat.le_refl _))
    replace K5 := Lib.hid (K5.out.below hb (Nat.le_refl _))
    replace K6 := Lib.hid (K6.out.below hb (Nat.le_refl _))
    replace K7 := Lib.hid (K7.out.below hb (Nat.le_refl _))
    replace Y := Lib.hid (Y.out.on hb)
    replace Z5 := Lib.hid (Z5.out.on hb)
    replace Z8 := Lib.hid (Z8.out.on hb)
    replace B1 := Lib.hid (B1.out.trans (hb.mono B1.out.size))
    clear hb
    obtain ⟨za, zb, zc, zd⟩ := Z5.out.c4
    obtain ⟨va, vb, vc, vd⟩ := Z8.out.c4
    go_wp2_with (fail)
    clear za zb zc zd va vb vc vd
    refine (laws_equalQueue_same tq _ P5.out P6.out P7.out K5.out K6.out K7.out).mono ?_
    rintro e w5 ⟨rfl, hb⟩
    replace P5 := Lib.hid (P5.out.below hb (Nat.le_refl _))
    replace P6 := Lib.hid (P6.out.below hb (Nat.le_refl _))
    replace P7 := Lib.hid (P7.out.below hb (Nat.le_refl _))
    replace K5 := Lib.hid (K5.out.below hb (Nat.le_refl _))
    replace K6 := Lib.hid (K6.out.below hb (Nat.le_refl _))
    replace K7 := Lib.hid (K7.out.below hb (Nat.le_refl _))
    replace Y := Lib.hid (Y.out.on hb)
    replace Z5 := Lib.hid (Z5.out.on hb)
    replace Z8 := Lib.hid (Z8.out.on hb)
    replace B1 := Lib.hid (B1.out.trans (hb.mono B1.out.size))
    clear hb
    go_wp2_with (fail)
    go_ret
    exact ⟨rfl, B1.out⟩
  have hX : puX xs sh db t x = xs ++ [x] := by simp [puX, HOK.out]
  have hV : validQ (puX xs sh db t x) (puS xs sh db t x) (puD xs sh db t x) tq = true := by
    have h := HOK.out
    rw [← HTO.out]
    simp only [puX, puS, puD, puT, h, if_true]
    exact h
  have hN : puOK (puX xs sh db t x) (puS xs sh db t x) (puD xs sh db t x) tq x = false := by
    refine Bool.eq_false_iff.2 fun h => ?_
    have h2 := validE_iff.1 (validQ_iff.1 (show validQ _ _ _ _ = true from h)).1
    rw [hX] at h2
    exact h2.ne (i := xs.length) (j := xs.length + 1) (x := x) (y := x) (by simp) (by simp) (by omega) rfl
  have HV := Lib.hid hV
  have HN := Lib.hid hN
  have hl5 : n5 ≤ 10 := by have := puX_le xs sh db t x; have := L5.out; omega
  have hl6 : n6 ≤ 3 := by have := puS_le xs sh db t x; have := L6.out; omega
  have hl7 : n7 ≤ 3 := by have := puD_le xs sh db t x; have := L7.out; omega
  clear hX hV hN
  obtain ⟨za, zb, zc, zd⟩ := Z5.out.c4
  obtain ⟨va, vb, vc, vd⟩ := Z8.out.c4
  go_wp2_with (fail)
  clear za zb zc zd va vb vc vd
  refine (laws_equalQueue_same tq _ P5.out P6.out P7.out K5.out K6.out K7.out).mono ?_
  rintro e w4 ⟨rfl, hb⟩
  replace P5 := Lib.hid (P5.out.below hb (Nat.le_refl _))
  replace P6 := Lib.hid (P6.out.below hb (Nat.le_refl _))
  replace P7 := Lib.hid (P7.out.below hb (Nat.le_refl _))
  replace K5 := Lib.hid (K5.out.below hb (Nat.le_refl _))
  replace K6 := Lib.hid (K6.out.below hb (Nat.le_refl _))
  replace K7 := Lib.hid (K7.out.below hb (Nat.le_refl _))
  replace Y := Lib.hid (Y.out.on hb)
  replace Z5 := Lib.hid (Z5.out.on hb)
  replace Z8 := Lib.hid (Z8.out.on hb)
  replace B1 := Lib.hid (B1.out.trans (hb.mono B1.out.size))
  clear hb
  obtain ⟨za, zb, zc, zd⟩ := Z5.out.c4
  obtain ⟨ya, yb, yc⟩ := Y.out.c3
  go_wp2_with (fail)
  clear za zb zc zd ya yb yc
  refine (impl_PushEntry_any tq x _ P5.out P6.out P7.out (by omega) (by omega) (by omega)).mono ?_
  rintro e w6 ⟨A11, n11, c11, A12, n12, c12, A13, n13, c13, rfl, o11, o12, o13, _, _, _, hb⟩
  rw [HN.out]
  obtain ⟨tt, htt⟩ : ∃ v, puT (puX xs sh db t x) (puS xs sh db t x) (puD xs sh db t x) tq x = v := ⟨_, rfl⟩
  rw [htt]
  clear htt
  replace P5 := Lib.hid ((P5.out.below hb (Nat.le_refl _)).alloc (.cells #[.slice A11 n11 c11, .slice A12 n12 c12, .slice A13 n13 c13, .int .i64 tt] 26))
  replace P6 := Lib.hid ((P6.out.below hb (Nat.le_refl _)).alloc (.cells #[.slice A11 n11 c11, .slice A12 n12 c12, .slice A13 n13 c13, .int .i64 tt] 26))
  replace P7 := Lib.hid ((P7.out.below hb (Nat.le_refl _)).alloc (.cells #[.slice A11 n11 c11, .slice A12 n12 c12, .slice A13 n13 c13, .int .i64 tt] 26))
  replace Z5 := Lib.hid ((Z5.out.on hb).alloc (.cells #[.slice A11 n11 c11, .slice A12 n12 c12, .slice A13 n13 c13, .int .i64 tt] 26))
  replace B1 := Lib.hid ((B1.out.trans (hb.mono B1.out.size)).trans ((below_new w6 (.cells #[.slice A11 n11 c11, .slice A12 n12 c12, .slice A13 n13 c13, .int .i64 tt] 26)).mono (B1.out.trans (hb.mono B1.out.size)).size))
  clear o11 o12 o13 hb
  obtain ⟨za, zb, zc, zd⟩ := Z5.out.c4
  go_wp2_with (fail)
  clear za zb zc zd
  refine (call_b (impl_ValidQueue_any tq _ P5.out P6.out P7.out) HV.out).mono ?_
  rintro e w7 ⟨rfl, hb⟩
  replace B1 := Lib.hid (B1.out.trans (hb.mono B1.out.size))
  clear hb
  go_wp2_with (fail)
  go_ret
  exact ⟨rfl, B1.out⟩
end Go.Proofs.Ytdmkimgjochibaa
