/-
  The walk of FnAllocBlockCompact. (Its words were written by a program of my own.)
-/
import Derived.Test.YtleoncjdhlomaaaDrawA
import Derived.Test.YtleoncjdhlomaaaArY
import Derived.Test.YtleoncjdhlomaaaArR
import Derived.Test.YtleoncjdhlomaaaArC
import Derived.Test.YtleoncjdhlomaaaArD
import Derived.Test.YtleoncjdhlomaaaArN
import Derived.Test.YtleoncjdhlomaaaArE
import Derived.Test.YtleoncjdhlomaaaArU
import Derived.Test.YtleoncjdhlomaaaArL
import Derived.Deep.RegionHeld3
import Derived.Deep.DrawnRows
import Derived.Lib.QuietBelow
import Derived.BigQuiet
import Derived.Deep.DeepMust
import Derived.Deep.DeepCutAuto
namespace Go.Proofs.Ytleoncjdhlomaaa
open Go.RowKit
-- CALL: W s0
set_option maxHeartbeats 1600000 in
theorem walk_FnAllocBlockCompact {A : Option Addr} {n c : Nat} {zs : List Int} (w : World) (h : BS w A n c zs) :
    Calls Try.prog 10 #[.slice A n c] w fun e w' => e = .returned (.bool true) ∧ Below w.heap.size w w' := by
  have H := Lib.hid h
  clear h
  rcases Nat.lt_or_ge 1048576 n with h1 | h1
  · have h1' : (1048576 : Int) < (n : Int) := by omega
    go_enter Try.func10, Try.ntmps10
    go_wp2_with (fail)
    go_ret
    exact ⟨rfl, Below.refl _ _⟩
  have h1' : ¬ (1048576 : Int) < (n : Int) := by omega
  go_enter Try.func10, Try.ntmps10
  go_wp2_with (fail)
  refine (spec_DrawAllocBlock_any w H.out h1).mono ?_
  rintro e w1 ⟨s, xs, A1, n1, c1, nm, sz, rfl, hn1, ⟨hm0, hm1⟩, ⟨hz0, hz9⟩, ht, hb⟩
  have T1 := Lib.hid ht
  have B1 := Lib.hid hb
  have hz1 := B1.out.size
  clear hb ht
  replace T1 := Lib.hid (T1.out.alloc (.cells #[.int .i64 s, .slice A1 n1 c1] 25))
  replace B1 := Lib.hid (B1.out.alloc B1.out.size (.cells #[.int .i64 s, .slice A1 n1 c1] 25))
  have X := Lib.hid (Blk.new w1 25 #[.int .i64 s, .slice A1 n1 c1])
  have HXL := Lib.hid T1.out.len
  obtain ⟨ys, ey⟩ : ∃ v, alX s xs nm sz = v := ⟨_, rfl⟩
  obtain ⟨z, ez⟩ : ∃ v, alS s xs nm sz = v := ⟨_, rfl⟩
  obtain ⟨ok, eo⟩ : ∃ v, alOK s xs nm sz = v := ⟨_, rfl⟩
  have HY := Lib.hid ey
  have HZ := Lib.hid ez
  have HO := Lib.hid eo
  have hoo : (ok != ok) = false := by simp
  have hoo2 : (ok == ok) = true := by simp
  clear ey ez eo
  obtain ⟨x0, x1⟩ := X.out.c2
  go_wp2_with (fail)
  refine (ar_at (impl_AllocBlock_any s nm sz _ T1.out) HZ.out HY.out HO.out).mono ?_
  clear x0 x1
  rintro e w2 ⟨A2, n2, c2, rfl, ho, hb⟩
  have hl2 := ho.len
  have hb7 := hb
  replace T1 := Lib.hid (T1.out.below hb7 (Nat.le_refl _))
  replace X := Lib.hid (X.out.on hb7)
  replace B1 := Lib.hid (B1.out.trans (hb7.mono B1.out.size))
  have T2 := Lib.hid ho.ts
  clear ho hb hb7
  replace T1 := Lib.hid (T1.out.alloc (.cells #[.int .i64 z, .slice A2 n2 c2] 25))
  replace T2 := Lib.hid (T2.out.alloc (.cells #[.int .i64 z, .slice A2 n2 c2] 25))
  replace X := Lib.hid (X.out.alloc (.cells #[.int .i64 z, .slice A2 n2 c2] 25))
  replace B1 := Lib.hid (B1.out.alloc B1.out.size (.cells #[.int .i64 z, .slice A2 n2 c2] 25))
  have F := Lib.hid (Blk.new w2 25 #[.int .i64 z, .slice A2 n2 c2])
  obtain ⟨x0, x1⟩ := X.out.c2
  go_wp2_with (fail)
  refine (ar_at (spec_AllocBlock_any s nm sz _ T1.out) HZ.out HY.out HO.out).mono ?_
  clear x0 x1
  rintro e w3 ⟨A3, n3, c3, rfl, ho, hb⟩
  have hl3 := ho.len
  have hb7 := hb
  replace T1 := Lib.hid (T1.out.below hb7 (Nat.le_refl _))
  replace T2 := Lib.hid (T2.out.below hb7 (Nat.le_refl _))
  replace X := Lib.hid (X.out.on hb7)
  replace F := Lib.hid (F.out.on hb7)
  replace B1 := Lib.hid (B1.out.trans (hb7.mono B1.out.size))
  have T3 := Lib.hid ho.ts
  clear ho hb hb7
  replace T1 := Lib.hid (T1.out.alloc (.cells #[.int .i64 z, .slice A3 n3 c3] 25))
  replace T2 := Lib.hid (T2.out.alloc (.cells #[.int .i64 z, .slice A3 n3 c3] 25))
  replace T3 := Lib.hid (T3.out.alloc (.cells #[.int .i64 z, .slice A3 n3 c3] 25))
  replace X := Lib.hid (X.out.alloc (.cells #[.int .i64 z, .slice A3 n3 c3] 25))
  replace F := Lib.hid (F.out.alloc (.cells #[.int .i64 z, .slice A3 n3 c3] 25))
  replace B1 := Lib.hid (B1.out.alloc B1.out.size (.cells #[.int .i64 z, .slice A3 n3 c3] 25))
  have G := Lib.hid (Blk.new w3 25 #[.int .i64 z, .slice A3 n3 c3])
  rcases hv : validA s xs with _ | _
  · have HV := Lib.hid hv
    clear hv
    obtain ⟨x0, x1⟩ := X.out.c2
    go_wp2_with (fail)
    refine (ar_none (impl_CompactArena_any s _ T1.out) HV.out cm_no).mono ?_
    clear x0 x1
    rintro e w4 ⟨A4, n4, c4, rfl, ho, hb⟩
    have hl4 := ho.len
    have hb7 := hb
    replace T1 := Lib.hid (T1.out.below hb7 (Nat.le_refl _))
    replace T2 := Lib.hid (T2.out.below hb7 (Nat.le_refl _))
    replace T3 := Lib.hid (T3.out.below hb7 (Nat.le_refl _))
    replace X := Lib.hid (X.out.on hb7)
    replace F := Lib.hid (F.out.on hb7)
    replace G := Lib.hid (G.out.on hb7)
    replace B1 := Lib.hid (B1.out.trans (hb7.mono B1.out.size))
    have T4 := Lib.hid ho.ts
    clear ho hb hb7
    replace T1 := Lib.hid (T1.out.alloc (.cells #[.int .i64 0, .slice A4 n4 c4] 25))
    replace T2 := Lib.hid (T2.out.alloc (.cells #[.int .i64 0, .slice A4 n4 c4] 25))
    replace T3 := Lib.hid (T3.out.alloc (.cells #[.int .i64 0, .slice A4 n4 c4] 25))
    replace T4 := Lib.hid (T4.out.alloc (.cells #[.int .i64 0, .slice A4 n4 c4] 25))
    replace X := Lib.hid (X.out.alloc (.cells #[.int .i64 0, .slice A4 n4 c4] 25))
    replace F := Lib.hid (F.out.alloc (.cells #[.int .i64 0, .slice A4 n4 c4] 25))
    replace G := Lib.hid (G.out.alloc (.cells #[.int .i64 0, .slice A4 n4 c4] 25))
    replace B1 := Lib.hid (B1.out.alloc B1.out.size (.cells #[.int .i64 0, .slice A4 n4 c4] 25))
    have K := Lib.hid (Blk.new w4 25 #[.int .i64 0, .slice A4 n4 c4])
    obtain ⟨f0, f1⟩ := F.out.c2
    obtain ⟨g0, g1⟩ := G.out.c2
    go_wp2_with (fail)
    refine (laws_equalArena_same z _ T2.out T3.out).mono ?_
    clear f0 f1 g0 g1
    rintro e w5 ⟨rfl, hb⟩
    replace T1 := Lib.hid (T1.out.below hb (Nat.le_refl _))
    replace T2 := Lib.hid (T2.out.below hb (Nat.le_refl _))
    replace T3 := Lib.hid (T3.out.below hb (Nat.le_refl _))
    replace T4 := Lib.hid (T4.out.below hb (Nat.le_refl _))
    replace X := Lib.hid (X.out.on hb)
    replace F := Lib.hid (F.out.on hb)
    replace G := Lib.hid (G.out.on hb)
    replace K := Lib.hid (K.out.on hb)
    replace B1 := Lib.hid (B1.out.trans (hb.mono B1.out.size))
    clear hb
    obtain ⟨f0, f1⟩ := F.out.c2
    obtain ⟨g0, g1⟩ := G.out.c2
    go_wp2_with (fail)
    refine (laws_equalArena_same z _ T2.out T3.out).mono ?_
    clear f0 f1 g0 g1
    rintro e w6 ⟨rfl, hb⟩
    replace T1 := Lib.hid (T1.out.below hb (Nat.le_refl _))
    replace T2 := Lib.hid (T2.out.below hb (Nat.le_refl _))
    replace T3 := Lib.hid (T3.out.below hb (Nat.le_refl _))
    replace T4 := Lib.hid (T4.out.below hb (Nat.le_refl _))
    replace X := Lib.hid (X.out.on hb)
    replace F := Lib.hid (F.out.on hb)
    replace G := Lib.hid (G.out.on hb)
    replace K := Lib.hid (K.out.on hb)
    replace B1 := Lib.hid (B1.out.trans (hb.mono B1.out.size))
    clear hb
    go_wp2_with (fail)
    go_ret
    exact ⟨ret_bool (by first | rfl | (simp; done) | (simp; omega)), B1.out⟩
  have HV := Lib.hid hv
  clear hv
  obtain ⟨x0, x1⟩ := X.out.c2
  go_wp2_with (fail)
  refine (ar_at (impl_CompactArena_any s _ T1.out) (cm_yes HV.out).1 (cm_yes HV.out).2 HV.out).mono ?_
  clear x0 x1
  rintro e w4 ⟨A4, n4, c4, rfl, ho, hb⟩
  have hl4 := ho.len
  have hb7 := hb
  replace T1 := Lib.hid (T1.out.below hb7 (Nat.le_refl _))
  replace T2 := Lib.hid (T2.out.below hb7 (Nat.le_refl _))
  replace T3 := Lib.hid (T3.out.below hb7 (Nat.le_refl _))
  replace X := Lib.hid (X.out.on hb7)
  replace F := Lib.hid (F.out.on hb7)
  replace G := Lib.hid (G.out.on hb7)
  replace B1 := Lib.hid (B1.out.trans (hb7.mono B1.out.size))
  have T4 := Lib.hid ho.ts
  clear ho hb hb7
  replace T1 := Lib.hid (T1.out.alloc (.cells #[.int .i64 s, .slice A4 n4 c4] 25))
  replace T2 := Lib.hid (T2.out.alloc (.cells #[.int .i64 s, .slice A4 n4 c4] 25))
  replace T3 := Lib.hid (T3.out.alloc (.cells #[.int .i64 s, .slice A4 n4 c4] 25))
  replace T4 := Lib.hid (T4.out.alloc (.cells #[.int .i64 s, .slice A4 n4 c4] 25))
  replace X := Lib.hid (X.out.alloc (.cells #[.int .i64 s, .slice A4 n4 c4] 25))
  replace F := Lib.hid (F.out.alloc (.cells #[.int .i64 s, .slice A4 n4 c4] 25))
  replace G := Lib.hid (G.out.alloc (.cells #[.int .i64 s, .slice A4 n4 c4] 25))
  replace B1 := Lib.hid (B1.out.alloc B1.out.size (.cells #[.int .i64 s, .slice A4 n4 c4] 25))
  have K := Lib.hid (Blk.new w4 25 #[.int .i64 s, .slice A4 n4 c4])
  obtain ⟨f0, f1⟩ := F.out.c2
  obtain ⟨g0, g1⟩ := G.out.c2
  go_wp2_with (fail)
  refine (laws_equalArena_same z _ T2.out T3.out).mono ?_
  clear f0 f1 g0 g1
  rintro e w5 ⟨rfl, hb⟩
  replace T1 := Lib.hid (T1.out.below hb (Nat.le_refl _))
  replace T2 := Lib.hid (T2.out.below hb (Nat.le_refl _))
  replace T3 := Lib.hid (T3.out.below hb (Nat.le_refl _))
  replace T4 := Lib.hid (T4.out.below hb (Nat.le_refl _))
  replace X := Lib.hid (X.out.on hb)
  replace F := Lib.hid (F.out.on hb)
  replace G := Lib.hid (G.out.on hb)
  replace K := Lib.hid (K.out.on hb)
  replace B1 := Lib.hid (B1.out.trans (hb.mono B1.out.size))
  clear hb
  by_cases h162 : nm < 0
  · skip
    obtain ⟨f0, f1⟩ := F.out.c2
    obtain ⟨g0, g1⟩ := G.out.c2
    go_wp2_with (fail)
    refine (laws_equalArena_same z _ T2.out T3.out).mono ?_
    clear f0 f1 g0 g1
    rintro e w6 ⟨rfl, hb⟩
    replace T1 := Lib.hid (T1.out.below hb (Nat.le_refl _))
    replace T2 := Lib.hid (T2.out.below hb (Nat.le_refl _))
    replace T3 := Lib.hid (T3.out.below hb (Nat.le_refl _))
    replace T4 := Lib.hid (T4.out.below hb (Nat.le_refl _))
    replace X := Lib.hid (X.out.on hb)
    replace F := Lib.hid (F.out.on hb)
    replace G := Lib.hid (G.out.on hb)
    replace K := Lib.hid (K.out.on hb)
    replace B1 := Lib.hid (B1.out.trans (hb.mono B1.out.size))
    clear hb
    go_wp2_with (fail)
    go_ret
    exact ⟨ret_bool (by first | rfl | (simp; done) | (simp; omega)), B1.out⟩
  by_cases h183 : (99 : Int) < nm
  · skip
    obtain ⟨f0, f1⟩ := F.out.c2
    obtain ⟨g0, g1⟩ := G.out.c2
    go_wp2_with (fail)
    refine (laws_equalArena_same z _ T2.out T3.out).mono ?_
    clear f0 f1 g0 g1
    rintro e w6 ⟨rfl, hb⟩
    replace T1 := Lib.hid (T1.out.below hb (Nat.le_refl _))
    replace T2 := Lib.hid (T2.out.below hb (Nat.le_refl _))
    replace T3 := Lib.hid (T3.out.below hb (Nat.le_refl _))
    replace T4 := Lib.hid (T4.out.below hb (Nat.le_refl _))
    replace X := Lib.hid (X.out.on hb)
    replace F := Lib.hid (F.out.on hb)
    replace G := Lib.hid (G.out.on hb)
    replace K := Lib.hid (K.out.on hb)
    replace B1 := Lib.hid (B1.out.trans (hb.mono B1.out.size))
    clear hb
    go_wp2_with (fail)
    go_ret
    exact ⟨ret_bool (by first | rfl | (simp; done) | (simp; omega)), B1.out⟩
  by_cases h204 : sz < 1
  · skip
    obtain ⟨f0, f1⟩ := F.out.c2
    obtain ⟨g0, g1⟩ := G.out.c2
    go_wp2_with (fail)
    refine (laws_equalArena_same z _ T2.out T3.out).mono ?_
    clear f0 f1 g0 g1
    rintro e w6 ⟨rfl, hb⟩
    replace T1 := Lib.hid (T1.out.below hb (Nat.le_refl _))
    replace T2 := Lib.hid (T2.out.below hb (Nat.le_refl _))
    replace T3 := Lib.hid (T3.out.below hb (Nat.le_refl _))
    replace T4 := Lib.hid (T4.out.below hb (Nat.le_refl _))
    replace X := Lib.hid (X.out.on hb)
    replace F := Lib.hid (F.out.on hb)
    replace G := Lib.hid (G.out.on hb)
    replace K := Lib.hid (K.out.on hb)
    replace B1 := Lib.hid (B1.out.trans (hb.mono B1.out.size))
    clear hb
    go_wp2_with (fail)
    go_ret
    exact ⟨ret_bool (by first | rfl | (simp; done) | (simp; omega)), B1.out⟩
  by_cases h225 : (64 : Int) < sz
  · skip
    obtain ⟨f0, f1⟩ := F.out.c2
    obtain ⟨g0, g1⟩ := G.out.c2
    go_wp2_with (fail)
    refine (laws_equalArena_same z _ T2.out T3.out).mono ?_
    clear f0 f1 g0 g1
    rintro e w6 ⟨rfl, hb⟩
    replace T1 := Lib.hid (T1.out.below hb (Nat.le_refl _))
    replace T2 := Lib.hid (T2.out.below hb (Nat.le_refl _))
    replace T3 := Lib.hid (T3.out.below hb (Nat.le_refl _))
    replace T4 := Lib.hid (T4.out.below hb (Nat.le_refl _))
    replace X := Lib.hid (X.out.on hb)
    replace F := Lib.hid (F.out.on hb)
    replace G := Lib.hid (G.out.on hb)
    replace K := Lib.hid (K.out.on hb)
    replace B1 := Lib.hid (B1.out.trans (hb.mono B1.out.size))
    clear hb
    go_wp2_with (fail)
    go_ret
    exact ⟨ret_bool (by first | rfl | (simp; done) | (simp; omega)), B1.out⟩
  have HN : Hid (inR nm 0 99 = true) := Lib.hid (inR_iff.2 ⟨by omega, by omega⟩)
  have HS : Hid (inR sz 1 64 = true) := Lib.hid (inR_iff.2 ⟨by omega, by omega⟩)
  obtain ⟨u, hu⟩ : ∃ v, usedA s xs = v := ⟨_, rfl⟩
  obtain ⟨kn, hkn⟩ : ∃ v, frOK s xs nm = v := ⟨_, rfl⟩
  obtain ⟨fs, hfs⟩ : ∃ v, frS s xs nm = v := ⟨_, rfl⟩
  obtain ⟨gd, hgd⟩ : ∃ v, alOK s (cmpL xs) nm sz = v := ⟨_, rfl⟩
  obtain ⟨gs, hgs⟩ : ∃ v, alS s (cmpL xs) nm sz = v := ⟨_, rfl⟩
  have hub := used_bd HV.out
  have ha := al_cmp HV.out HN.out HS.out
  rw [hu, hkn, hgd] at ha
  rw [hu] at hub
  have HU := Lib.hid hu
  have HKN := Lib.hid hkn
  have HFS := Lib.hid hfs
  have HGD := Lib.hid hgd
  have HGS := Lib.hid hgs
  have HA := Lib.hid ha
  have hwu : IntKind.i64.wrap (u + sz) = u + sz := by rw [IntKind.wrap_i64]; omega
  clear hu hkn hfs ha hgd hgs
  obtain ⟨x0, x1⟩ := X.out.c2
  go_wp2_with (fail)
  refine (ar_at (impl_FreeBlock_any s nm _ T1.out) HFS.out rfl HKN.out).mono ?_
  clear x0 x1
  rintro e w6 ⟨A5, n5, c5, rfl, ho, hb⟩
  have hl5 := ho.len
  have hb7 := hb
  replace T1 := Lib.hid (T1.out.below hb7 (Nat.le_refl _))
  replace T2 := Lib.hid (T2.out.below hb7 (Nat.le_refl _))
  replace T3 := Lib.hid (T3.out.below hb7 (Nat.le_refl _))
  replace T4 := Lib.hid (T4.out.below hb7 (Nat.le_refl _))
  replace X := Lib.hid (X.out.on hb7)
  replace F := Lib.hid (F.out.on hb7)
  replace G := Lib.hid (G.out.on hb7)
  replace K := Lib.hid (K.out.on hb7)
  replace B1 := Lib.hid (B1.out.trans (hb7.mono B1.out.size))
  have T5 := Lib.hid ho.ts
  clear ho hb hb7
  replace T1 := Lib.hid (T1.out.alloc (.cells #[.int .i64 fs, .slice A5 n5 c5] 25))
  replace T2 := Lib.hid (T2.out.alloc (.cells #[.int .i64 fs, .slice A5 n5 c5] 25))
  replace T3 := Lib.hid (T3.out.alloc (.cells #[.int .i64 fs, .slice A5 n5 c5] 25))
  replace T4 := Lib.hid (T4.out.alloc (.cells #[.int .i64 fs, .slice A5 n5 c5] 25))
  replace T5 := Lib.hid (T5.out.alloc (.cells #[.int .i64 fs, .slice A5 n5 c5] 25))
  replace X := Lib.hid (X.out.alloc (.cells #[.int .i64 fs, .slice A5 n5 c5] 25))
  replace F := Lib.hid (F.out.alloc (.cells #[.int .i64 fs, .slice A5 n5 c5] 25))
  replace G := Lib.hid (G.out.alloc (.cells #[.int .i64 fs, .slice A5 n5 c5] 25))
  replace K := Lib.hid (K.out.alloc (.cells #[.int .i64 fs, .slice A5 n5 c5] 25))
  replace B1 := Lib.hid (B1.out.alloc B1.out.size (.cells #[.int .i64 fs, .slice A5 n5 c5] 25))
  have M := Lib.hid (Blk.new w6 25 #[.int .i64 fs, .slice A5 n5 c5])
  obtain ⟨k0, k1⟩ := K.out.c2
  go_wp2_with (fail)
  refine (ar_at (impl_AllocBlock_any s nm sz _ T4.out) HGS.out rfl HGD.out).mono ?_
  clear k0 k1
  rintro e w7 ⟨A6, n6, c6, rfl, ho, hb⟩
  have hl6 := ho.len
  have hb7 := hb
  replace T1 := Lib.hid (T1.out.below hb7 (Nat.le_refl _))
  replace T2 := Lib.hid (T2.out.below hb7 (Nat.le_refl _))
  replace T3 := Lib.hid (T3.out.below hb7 (Nat.le_refl _))
  replace T4 := Lib.hid (T4.out.below hb7 (Nat.le_refl _))
  replace T5 := Lib.hid (T5.out.below hb7 (Nat.le_refl _))
  replace X := Lib.hid (X.out.on hb7)
  replace F := Lib.hid (F.out.on hb7)
  replace G := Lib.hid (G.out.on hb7)
  replace K := Lib.hid (K.out.on hb7)
  replace M := Lib.hid (M.out.on hb7)
  replace B1 := Lib.hid (B1.out.trans (hb7.mono B1.out.size))
  have T6 := Lib.hid ho.ts
  clear ho hb hb7
  replace T1 := Lib.hid (T1.out.alloc (.cells #[.int .i64 gs, .slice A6 n6 c6] 25))
  replace T2 := Lib.hid (T2.out.alloc (.cells #[.int .i64 gs, .slice A6 n6 c6] 25))
  replace T3 := Lib.hid (T3.out.alloc (.cells #[.int .i64 gs, .slice A6 n6 c6] 25))
  replace T4 := Lib.hid (T4.out.alloc (.cells #[.int .i64 gs, .slice A6 n6 c6] 25))
  replace T5 := Lib.hid (T5.out.alloc (.cells #[.int .i64 gs, .slice A6 n6 c6] 25))
  replace T6 := Lib.hid (T6.out.alloc (.cells #[.int .i64 gs, .slice A6 n6 c6] 25))
  replace X := Lib.hid (X.out.alloc (.cells #[.int .i64 gs, .slice A6 n6 c6] 25))
  replace F := Lib.hid (F.out.alloc (.cells #[.int .i64 gs, .slice A6 n6 c6] 25))
  replace G := Lib.hid (G.out.alloc (.cells #[.int .i64 gs, .slice A6 n6 c6] 25))
  replace K := Lib.hid (K.out.alloc (.cells #[.int .i64 gs, .slice A6 n6 c6] 25))
  replace M := Lib.hid (M.out.alloc (.cells #[.int .i64 gs, .slice A6 n6 c6] 25))
  replace B1 := Lib.hid (B1.out.alloc B1.out.size (.cells #[.int .i64 gs, .slice A6 n6 c6] 25))
  have N := Lib.hid (Blk.new w7 25 #[.int .i64 gs, .slice A6 n6 c6])
  have C1 := Lib.hid (fun (d : Nat) (os : Array Obj) => call_int (impl_UsedPlaces_any s (Go.Sort.grow (redrawn (w7.alloc (.cells #[.int .i64 gs, .slice A6 n6 c6] 25)) d) os) (T1.out.regrown d os)) HU.out)
  rcases kn with _ | _
  · skip
    by_cases h9 : n1 < 10
    · have h9' : (n1 : Int) < 10 := by omega
      by_cases huz : u + sz ≤ s
      · obtain rfl : gd = true := by have h := HA.out; have := HXL.out; simpa [huz, show xs.length < 10 by omega] using h
        obtain ⟨x0, x1⟩ := X.out.c2
        have qx0 := fun d os => cell_regrown x0 d os
        have qx1 := fun d os => cell_regrown x1 d os
        have lX := X.out.lt
        go_wp2_with (fail)
        refine wp_region_quiet_below (by kernel_rfl) (by kernel_rfl) ?_
        repeat (first | go_big_quiet_step ((first | (go_at_call 22; with_reducible exact Calls.regrown_of (C1.out _ _)))) | quiet_step ((first | (go_at_call 22; with_reducible exact Calls.regrown_of (C1.out _ _)))))
        refine wpQuiet_nil ?_
        intro w8 hw'
        have hb : Below (w7.alloc (.cells #[.int .i64 gs, .slice A6 n6 c6] 25)).heap.size (w7.alloc (.cells #[.int .i64 gs, .slice A6 n6 c6] 25)) w8 := by obtain ⟨p, rfl⟩ := hw'; exact below_regrown _ _ _
        clear hw' qx0 qx1 x0 x1 lX
        replace T1 := Lib.hid (T1.out.below hb (Nat.le_refl _))
        replace T2 := Lib.hid (T2.out.below hb (Nat.le_refl _))
        replace T3 := Lib.hid (T3.out.below hb (Nat.le_refl _))
        replace T4 := Lib.hid (T4.out.below hb (Nat.le_refl _))
        replace T5 := Lib.hid (T5.out.below hb (Nat.le_refl _))
        replace T6 := Lib.hid (T6.out.below hb (Nat.le_refl _))
        replace X := Lib.hid (X.out.on hb)
        replace F := Lib.hid (F.out.on hb)
        replace G := Lib.hid (G.out.on hb)
        replace K := Lib.hid (K.out.on hb)
        replace M := Lib.hid (M.out.on hb)
        replace N := Lib.hid (N.out.on hb)
        replace B1 := Lib.hid (B1.out.trans (hb.mono B1.out.size))
        clear hb
        go_wp2_with (fail)
        go_ret
        exact ⟨ret_bool (by first | rfl | (simp; done) | (simp; omega)), B1.out⟩
      · obtain rfl : gd = false := by have h := HA.out; have := HXL.out; simpa [huz, show xs.length < 10 by omega] using h
        have huz2 : decide (u + sz ≤ s) = false := by simpa using huz
        obtain ⟨x0, x1⟩ := X.out.c2
        have qx0 := fun d os => cell_regrown x0 d os
        have qx1 := fun d os => cell_regrown x1 d os
        have lX := X.out.lt
        go_wp2_with (fail)
        refine wp_region_quiet_below (by kernel_rfl) (by kernel_rfl) ?_
        repeat (first | go_big_quiet_step ((first | (go_at_call 22; with_reducible exact Calls.regrown_of (C1.out _ _)))) | quiet_step ((first | (go_at_call 22; with_reducible exact Calls.regrown_of (C1.out _ _)))))
        refine wpQuiet_nil ?_
        intro w8 hw'
        have hb : Below (w7.alloc (.cells #[.int .i64 gs, .slice A6 n6 c6] 25)).heap.size (w7.alloc (.cells #[.int .i64 gs, .slice A6 n6 c6] 25)) w8 := by obtain ⟨p, rfl⟩ := hw'; exact below_regrown _ _ _
        clear hw' qx0 qx1 x0 x1 lX
        replace T1 := Lib.hid (T1.out.below hb (Nat.le_refl _))
        replace T2 := Lib.hid (T2.out.below hb (Nat.le_refl _))
        replace T3 := Lib.hid (T3.out.below hb (Nat.le_refl _))
        replace T4 := Lib.hid (T4.out.below hb (Nat.le_refl _))
        replace T5 := Lib.hid (T5.out.below hb (Nat.le_refl _))
        replace T6 := Lib.hid (T6.out.below hb (Nat.le_refl _))
        replace X := Lib.hid (X.out.on hb)
        replace F := Lib.hid (F.out.on hb)
        replace G := Lib.hid (G.out.on hb)
        replace K := Lib.hid (K.out.on hb)
        replace M := Lib.hid (M.out.on hb)
        replace N := Lib.hid (N.out.on hb)
        replace B1 := Lib.hid (B1.out.trans (hb.mono B1.out.size))
        clear hb
        go_wp2_with (fail)
        go_ret
        exact ⟨ret_bool (by first | rfl | (simp; done) | (simp; omega)), B1.out⟩
    · have h9' : decide ((n1 : Int) < 10) = false := by simp; omega
      have h9n : decide (n1 < 10) = false := by simp; omega
      obtain rfl : gd = false := by have h := HA.out; have := HXL.out; simpa [show ¬ xs.length < 10 by omega] using h
      obtain ⟨x0, x1⟩ := X.out.c2
      have qx0 := fun d os => cell_regrown x0 d os
      have qx1 := fun d os => cell_regrown x1 d os
      have lX := X.out.lt
      go_wp2_with (fail)
      refine wp_region_quiet_below (by kernel_rfl) (by kernel_rfl) ?_
      repeat (first | go_big_quiet_step ((first | (go_at_call 22; with_reducible exact Calls.regrown_of (C1.out _ _)))) | quiet_step ((first | (go_at_call 22; with_reducible exact Calls.regrown_of (C1.out _ _)))))
      refine wpQuiet_nil ?_
      intro w8 hw'
      have hb : Below (w7.alloc (.cells #[.int .i64 gs, .slice A6 n6 c6] 25)).heap.size (w7.alloc (.cells #[.int .i64 gs, .slice A6 n6 c6] 25)) w8 := by obtain ⟨p, rfl⟩ := hw'; exact below_regrown _ _ _
      clear hw' qx0 qx1 x0 x1 lX
      replace T1 := Lib.hid (T1.out.below hb (Nat.le_refl _))
      replace T2 := Lib.hid (T2.out.below hb (Nat.le_refl _))
      replace T3 := Lib.hid (T3.out.below hb (Nat.le_refl _))
      replace T4 := Lib.hid (T4.out.below hb (Nat.le_refl _))
      replace T5 := Lib.hid (T5.out.below hb (Nat.le_refl _))
      replace T6 := Lib.hid (T6.out.below hb (Nat.le_refl _))
      replace X := Lib.hid (X.out.on hb)
      replace F := Lib.hid (F.out.on hb)
      replace G := Lib.hid (G.out.on hb)
      replace K := Lib.hid (K.out.on hb)
      replace M := Lib.hid (M.out.on hb)
      replace N := Lib.hid (N.out.on hb)
      replace B1 := Lib.hid (B1.out.trans (hb.mono B1.out.size))
      clear hb
      go_wp2_with (fail)
      go_ret
      exact ⟨ret_bool (by first | rfl | (simp; done) | (simp; omega)), B1.out⟩
  obtain rfl : gd = false := by have h := HA.out; simpa using h
  obtain ⟨x0, x1⟩ := X.out.c2
  have qx0 := fun d os => cell_regrown x0 d os
  have qx1 := fun d os => cell_regrown x1 d os
  have lX := X.out.lt
  go_wp2_with (fail)
  refine wp_region_quiet_below (by kernel_rfl) (by kernel_rfl) ?_
  repeat (first | go_big_quiet_step ((first | (go_at_call 22; with_reducible exact Calls.regrown_of (C1.out _ _)))) | quiet_step ((first | (go_at_call 22; with_reducible exact Calls.regrown_of (C1.out _ _)))))
  refine wpQuiet_nil ?_
  intro w8 hw'
  have hb : Below (w7.alloc (.cells #[.int .i64 gs, .slice A6 n6 c6] 25)).heap.size (w7.alloc (.cells #[.int .i64 gs, .slice A6 n6 c6] 25)) w8 := by obtain ⟨p, rfl⟩ := hw'; exact below_regrown _ _ _
  clear hw' qx0 qx1 x0 x1 lX
  replace T1 := Lib.hid (T1.out.below hb (Nat.le_refl _))
  replace T2 := Lib.hid (T2.out.below hb (Nat.le_refl _))
  replace T3 := Lib.hid (T3.out.below hb (Nat.le_refl _))
  replace T4 := Lib.hid (T4.out.below hb (Nat.le_refl _))
  replace T5 := Lib.hid (T5.out.below hb (Nat.le_refl _))
  replace T6 := Lib.hid (T6.out.below hb (Nat.le_refl _))
  replace X := Lib.hid (X.out.on hb)
  replace F := Lib.hid (F.out.on hb)
  replace G := Lib.hid (G.out.on hb)
  replace K := Lib.hid (K.out.on hb)
  replace M := Lib.hid (M.out.on hb)
  replace N := Lib.hid (N.out.on hb)
  replace B1 := Lib.hid (B1.out.trans (hb.mono B1.out.size))
  clear hb
  go_wp2_with (fail)
  go_ret
  exact ⟨ret_bool (by first | rfl | (simp; done) | (simp; omega)), B1.out⟩
end Go.Proofs.Ytleoncjdhlomaaa
