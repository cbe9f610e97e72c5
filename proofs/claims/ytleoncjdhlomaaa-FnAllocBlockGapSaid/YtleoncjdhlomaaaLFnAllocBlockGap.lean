/-
  The walk of FnAllocBlockGap. (Its words were written by a program of my own.)
-/
import Derived.Test.YtleoncjdhlomaaaDrawA
import Derived.Test.YtleoncjdhlomaaaArY
import Derived.Test.YtleoncjdhlomaaaArR
import Derived.Test.YtleoncjdhlomaaaArC
import Derived.Test.YtleoncjdhlomaaaArD
import Derived.Test.YtleoncjdhlomaaaArN
import Derived.Test.YtleoncjdhlomaaaArE
import Derived.Test.YtleoncjdhlomaaaArU
import Derived.Test.YtleoncjdhlomaaaArL
import Derived.Deep.RegionHeld3
import Derived.Deep.DrawnRows
import Derived.Lib.QuietBelow
import Derived.BigQuiet
import Derived.Deep.DeepMust
import Derived.Deep.DeepCutAuto
namespace Go.Proofs.Ytleoncjdhlomaaa
open Go.RowKit
-- CALL: W s0
set_option maxHeartbeats 1600000 in
theorem walk_FnAllocBlockGap {A : Option Addr} {n c : Nat} {zs : List Int} (w : World) (h : BS w A n c zs) :
    Calls Try.prog 5 #[.slice A n c] w fun e w' => e = .returned (.bool true) ∧ Below w.heap.size w w' := by
  have H := Lib.hid h
  clear h
  rcases Nat.lt_or_ge 1048576 n with h1 | h1
  · have h1' : (1048576 : Int) < (n : Int) := by omega
    go_enter Try.func5, Try.ntmps5
    go_wp2_with (fail)
    go_ret
    exact ⟨rfl, Below.refl _ _⟩
  have h1' : ¬ (1048576 : Int) < (n : Int) := by omega
  go_enter Try.func5, Try.ntmps5
  go_wp2_with (fail)
  refine (spec_DrawAllocBlock_any w H.out h1).mono ?_
  rintro e w1 ⟨s, xs, A1, n1, c1, nm, sz, rfl, hn1, ⟨hm0, hm1⟩, ⟨hz0, hz9⟩, ht, hb⟩
  have T1 := Lib.hid ht
  have B1 := Lib.hid hb
  have hz1 := B1.out.size
  clear hb ht
  replace T1 := Lib.hid (T1.out.alloc (.cells #[.int .i64 s, .slice A1 n1 c1] 25))
  replace B1 := Lib.hid (B1.out.alloc B1.out.size (.cells #[.int .i64 s, .slice A1 n1 c1] 25))
  have X := Lib.hid (Blk.new w1 25 #[.int .i64 s, .slice A1 n1 c1])
  have HXL := Lib.hid T1.out.len
  obtain ⟨ys, ey⟩ : ∃ v, alX s xs nm sz = v := ⟨_, rfl⟩
  obtain ⟨z, ez⟩ : ∃ v, alS s xs nm sz = v := ⟨_, rfl⟩
  obtain ⟨ok, eo⟩ : ∃ v, alOK s xs nm sz = v := ⟨_, rfl⟩
  have HY := Lib.hid ey
  have HZ := Lib.hid ez
  have HO := Lib.hid eo
  have hoo : (ok != ok) = false := by simp
  have hoo2 : (ok == ok) = true := by simp
  clear ey ez eo
  obtain ⟨x0, x1⟩ := X.out.c2
  go_wp2_with (fail)
  refine (ar_at (impl_AllocBlock_any s nm sz _ T1.out) HZ.out HY.out HO.out).mono ?_
  clear x0 x1
  rintro e w2 ⟨A2, n2, c2, rfl, ho, hb⟩
  have hl2 := ho.len
  have hb7 := hb
  replace T1 := Lib.hid (T1.out.below hb7 (Nat.le_refl _))
  replace X := Lib.hid (X.out.on hb7)
  replace B1 := Lib.hid (B1.out.trans (hb7.mono B1.out.size))
  have T2 := Lib.hid ho.ts
  clear ho hb hb7
  replace T1 := Lib.hid (T1.out.alloc (.cells #[.int .i64 z, .slice A2 n2 c2] 25))
  replace T2 := Lib.hid (T2.out.alloc (.cells #[.int .i64 z, .slice A2 n2 c2] 25))
  replace X := Lib.hid (X.out.alloc (.cells #[.int .i64 z, .slice A2 n2 c2] 25))
  replace B1 := Lib.hid (B1.out.alloc B1.out.size (.cells #[.int .i64 z, .slice A2 n2 c2] 25))
  have F := Lib.hid (Blk.new w2 25 #[.int .i64 z, .slice A2 n2 c2])
  obtain ⟨x0, x1⟩ := X.out.c2
  go_wp2_with (fail)
  refine (ar_at (spec_AllocBlock_any s nm sz _ T1.out) HZ.out HY.out HO.out).mono ?_
  clear x0 x1
  rintro e w3 ⟨A3, n3, c3, rfl, ho, hb⟩
  have hl3 := ho.len
  have hb7 := hb
  replace T1 := Lib.hid (T1.out.below hb7 (Nat.le_refl _))
  replace T2 := Lib.hid (T2.out.below hb7 (Nat.le_refl _))
  replace X := Lib.hid (X.out.on hb7)
  replace F := Lib.hid (F.out.on hb7)
  replace B1 := Lib.hid (B1.out.trans (hb7.mono B1.out.size))
  have T3 := Lib.hid ho.ts
  clear ho hb hb7
  replace T1 := Lib.hid (T1.out.alloc (.cells #[.int .i64 z, .slice A3 n3 c3] 25))
  replace T2 := Lib.hid (T2.out.alloc (.cells #[.int .i64 z, .slice A3 n3 c3] 25))
  replace T3 := Lib.hid (T3.out.alloc (.cells #[.int .i64 z, .slice A3 n3 c3] 25))
  replace X := Lib.hid (X.out.alloc (.cells #[.int .i64 z, .slice A3 n3 c3] 25))
  replace F := Lib.hid (F.out.alloc (.cells #[.int .i64 z, .slice A3 n3 c3] 25))
  replace B1 := Lib.hid (B1.out.alloc B1.out.size (.cells #[.int .i64 z, .slice A3 n3 c3] 25))
  have G := Lib.hid (Blk.new w3 25 #[.int .i64 z, .slice A3 n3 c3])
  obtain ⟨f0, f1⟩ := F.out.c2
  obtain ⟨g0, g1⟩ := G.out.c2
  go_wp2_with (fail)
  refine (laws_equalArena_same z _ T2.out T3.out).mono ?_
  clear f0 f1 g0 g1
  rintro e w4 ⟨rfl, hb⟩
  replace T1 := Lib.hid (T1.out.below hb (Nat.le_refl _))
  replace T2 := Lib.hid (T2.out.below hb (Nat.le_refl _))
  replace T3 := Lib.hid (T3.out.below hb (Nat.le_refl _))
  replace X := Lib.hid (X.out.on hb)
  replace F := Lib.hid (F.out.on hb)
  replace G := Lib.hid (G.out.on hb)
  replace B1 := Lib.hid (B1.out.trans (hb.mono B1.out.size))
  clear hb
  rcases hv : validA s xs with _ | _
  · have HV := Lib.hid hv
    clear hv
    obtain ⟨x0, x1⟩ := X.out.c2
    go_wp2_with (fail)
    refine (call_b (impl_ValidArena_any s _ T1.out) HV.out).mono ?_
    clear x0 x1
    rintro e w5 ⟨rfl, hb⟩
    replace T1 := Lib.hid (T1.out.below hb (Nat.le_refl _))
    replace T2 := Lib.hid (T2.out.below hb (Nat.le_refl _))
    replace T3 := Lib.hid (T3.out.below hb (Nat.le_refl _))
    replace X := Lib.hid (X.out.on hb)
    replace F := Lib.hid (F.out.on hb)
    replace G := Lib.hid (G.out.on hb)
    replace B1 := Lib.hid (B1.out.trans (hb.mono B1.out.size))
    clear hb
    obtain ⟨f0, f1⟩ := F.out.c2
    obtain ⟨g0, g1⟩ := G.out.c2
    go_wp2_with (fail)
    refine (laws_equalArena_same z _ T2.out T3.out).mono ?_
    clear f0 f1 g0 g1
    rintro e w6 ⟨rfl, hb⟩
    replace T1 := Lib.hid (T1.out.below hb (Nat.le_refl _))
    replace T2 := Lib.hid (T2.out.below hb (Nat.le_refl _))
    replace T3 := Lib.hid (T3.out.below hb (Nat.le_refl _))
    replace X := Lib.hid (X.out.on hb)
    replace F := Lib.hid (F.out.on hb)
    replace G := Lib.hid (G.out.on hb)
    replace B1 := Lib.hid (B1.out.trans (hb.mono B1.out.size))
    clear hb
    go_wp2_with (fail)
    go_ret
    exact ⟨ret_bool (by first | rfl | (simp; done) | (simp; omega)), B1.out⟩
  have HV := Lib.hid hv
  clear hv
  obtain ⟨x0, x1⟩ := X.out.c2
  go_wp2_with (fail)
  refine (call_b (impl_ValidArena_any s _ T1.out) HV.out).mono ?_
  clear x0 x1
  rintro e w5 ⟨rfl, hb⟩
  replace T1 := Lib.hid (T1.out.below hb (Nat.le_refl _))
  replace T2 := Lib.hid (T2.out.below hb (Nat.le_refl _))
  replace T3 := Lib.hid (T3.out.below hb (Nat.le_refl _))
  replace X := Lib.hid (X.out.on hb)
  replace F := Lib.hid (F.out.on hb)
  replace G := Lib.hid (G.out.on hb)
  replace B1 := Lib.hid (B1.out.trans (hb.mono B1.out.size))
  clear hb
  by_cases h118 : nm < 0
  · skip
    obtain ⟨f0, f1⟩ := F.out.c2
    obtain ⟨g0, g1⟩ := G.out.c2
    go_wp2_with (fail)
    refine (laws_equalArena_same z _ T2.out T3.out).mono ?_
    clear f0 f1 g0 g1
    rintro e w6 ⟨rfl, hb⟩
    replace T1 := Lib.hid (T1.out.below hb (Nat.le_refl _))
    replace T2 := Lib.hid (T2.out.below hb (Nat.le_refl _))
    replace T3 := Lib.hid (T3.out.below hb (Nat.le_refl _))
    replace X := Lib.hid (X.out.on hb)
    replace F := Lib.hid (F.out.on hb)
    replace G := Lib.hid (G.out.on hb)
    replace B1 := Lib.hid (B1.out.trans (hb.mono B1.out.size))
    clear hb
    go_wp2_with (fail)
    go_ret
    exact ⟨ret_bool (by first | rfl | (simp; done) | (simp; omega)), B1.out⟩
  by_cases h137 : (99 : Int) < nm
  · skip
    obtain ⟨f0, f1⟩ := F.out.c2
    obtain ⟨g0, g1⟩ := G.out.c2
    go_wp2_with (fail)
    refine (laws_equalArena_same z _ T2.out T3.out).mono ?_
    clear f0 f1 g0 g1
    rintro e w6 ⟨rfl, hb⟩
    replace T1 := Lib.hid (T1.out.below hb (Nat.le_refl _))
    replace T2 := Lib.hid (T2.out.below hb (Nat.le_refl _))
    replace T3 := Lib.hid (T3.out.below hb (Nat.le_refl _))
    replace X := Lib.hid (X.out.on hb)
    replace F := Lib.hid (F.out.on hb)
    replace G := Lib.hid (G.out.on hb)
    replace B1 := Lib.hid (B1.out.trans (hb.mono B1.out.size))
    clear hb
    go_wp2_with (fail)
    go_ret
    exact ⟨ret_bool (by first | rfl | (simp; done) | (simp; omega)), B1.out⟩
  by_cases h156 : sz < 1
  · skip
    obtain ⟨f0, f1⟩ := F.out.c2
    obtain ⟨g0, g1⟩ := G.out.c2
    go_wp2_with (fail)
    refine (laws_equalArena_same z _ T2.out T3.out).mono ?_
    clear f0 f1 g0 g1
    rintro e w6 ⟨rfl, hb⟩
    replace T1 := Lib.hid (T1.out.below hb (Nat.le_refl _))
    replace T2 := Lib.hid (T2.out.below hb (Nat.le_refl _))
    replace T3 := Lib.hid (T3.out.below hb (Nat.le_refl _))
    replace X := Lib.hid (X.out.on hb)
    replace F := Lib.hid (F.out.on hb)
    replace G := Lib.hid (G.out.on hb)
    replace B1 := Lib.hid (B1.out.trans (hb.mono B1.out.size))
    clear hb
    go_wp2_with (fail)
    go_ret
    exact ⟨ret_bool (by first | rfl | (simp; done) | (simp; omega)), B1.out⟩
  by_cases h175 : (64 : Int) < sz
  · skip
    obtain ⟨f0, f1⟩ := F.out.c2
    obtain ⟨g0, g1⟩ := G.out.c2
    go_wp2_with (fail)
    refine (laws_equalArena_same z _ T2.out T3.out).mono ?_
    clear f0 f1 g0 g1
    rintro e w6 ⟨rfl, hb⟩
    replace T1 := Lib.hid (T1.out.below hb (Nat.le_refl _))
    replace T2 := Lib.hid (T2.out.below hb (Nat.le_refl _))
    replace T3 := Lib.hid (T3.out.below hb (Nat.le_refl _))
    replace X := Lib.hid (X.out.on hb)
    replace F := Lib.hid (F.out.on hb)
    replace G := Lib.hid (G.out.on hb)
    replace B1 := Lib.hid (B1.out.trans (hb.mono B1.out.size))
    clear hb
    go_wp2_with (fail)
    go_ret
    exact ⟨ret_bool (by first | rfl | (simp; done) | (simp; omega)), B1.out⟩
  have HN : Hid (inR nm 0 99 = true) := Lib.hid (inR_iff.2 ⟨by omega, by omega⟩)
  have HS : Hid (inR sz 1 64 = true) := Lib.hid (inR_iff.2 ⟨by omega, by omega⟩)
  obtain ⟨g, hg⟩ : ∃ v, gapA s xs = v := ⟨_, rfl⟩
  obtain ⟨kn, hkn⟩ : ∃ v, frOK s xs nm = v := ⟨_, rfl⟩
  obtain ⟨fs, hfs⟩ : ∃ v, frS s xs nm = v := ⟨_, rfl⟩
  have ha := al_when HV.out HN.out HS.out
  rw [hg, hkn, HO.out] at ha
  have HG := Lib.hid hg
  have HKN := Lib.hid hkn
  have HFS := Lib.hid hfs
  have HA := Lib.hid ha
  clear hg hkn hfs ha
  obtain ⟨x0, x1⟩ := X.out.c2
  go_wp2_with (fail)
  refine (ar_at (impl_FreeBlock_any s nm _ T1.out) HFS.out rfl HKN.out).mono ?_
  clear x0 x1
  rintro e w6 ⟨A4, n4, c4, rfl, ho, hb⟩
  have hl4 := ho.len
  have hb7 := hb
  replace T1 := Lib.hid (T1.out.below hb7 (Nat.le_refl _))
  replace T2 := Lib.hid (T2.out.below hb7 (Nat.le_refl _))
  replace T3 := Lib.hid (T3.out.below hb7 (Nat.le_refl _))
  replace X := Lib.hid (X.out.on hb7)
  replace F := Lib.hid (F.out.on hb7)
  replace G := Lib.hid (G.out.on hb7)
  replace B1 := Lib.hid (B1.out.trans (hb7.mono B1.out.size))
  have T4 := Lib.hid ho.ts
  clear ho hb hb7
  replace T1 := Lib.hid (T1.out.alloc (.cells #[.int .i64 fs, .slice A4 n4 c4] 25))
  replace T2 := Lib.hid (T2.out.alloc (.cells #[.int .i64 fs, .slice A4 n4 c4] 25))
  replace T3 := Lib.hid (T3.out.alloc (.cells #[.int .i64 fs, .slice A4 n4 c4] 25))
  replace T4 := Lib.hid (T4.out.alloc (.cells #[.int .i64 fs, .slice A4 n4 c4] 25))
  replace X := Lib.hid (X.out.alloc (.cells #[.int .i64 fs, .slice A4 n4 c4] 25))
  replace F := Lib.hid (F.out.alloc (.cells #[.int .i64 fs, .slice A4 n4 c4] 25))
  replace G := Lib.hid (G.out.alloc (.cells #[.int .i64 fs, .slice A4 n4 c4] 25))
  replace B1 := Lib.hid (B1.out.alloc B1.out.size (.cells #[.int .i64 fs, .slice A4 n4 c4] 25))
  have K := Lib.hid (Blk.new w6 25 #[.int .i64 fs, .slice A4 n4 c4])
  have h10 : (n1 : Int) < 10 ↔ xs.length < 10 := by have := HXL.out; omega
  rcases kn with _ | _
  · skip
    obtain ⟨x0, x1⟩ := X.out.c2
    go_wp2_with (fail)
    refine (call_int (impl_LargestGap_any s _ T1.out) HG.out).mono ?_
    clear x0 x1
    rintro e w7 ⟨rfl, hb⟩
    replace T1 := Lib.hid (T1.out.below hb (Nat.le_refl _))
    replace T2 := Lib.hid (T2.out.below hb (Nat.le_refl _))
    replace T3 := Lib.hid (T3.out.below hb (Nat.le_refl _))
    replace T4 := Lib.hid (T4.out.below hb (Nat.le_refl _))
    replace X := Lib.hid (X.out.on hb)
    replace F := Lib.hid (F.out.on hb)
    replace G := Lib.hid (G.out.on hb)
    replace K := Lib.hid (K.out.on hb)
    replace B1 := Lib.hid (B1.out.trans (hb.mono B1.out.size))
    clear hb
    by_cases hgz : sz ≤ g
    · have hgz' : g ≥ sz := hgz
      by_cases h9 : n1 < 10
      · have h9' : (n1 : Int) < 10 := by omega
        obtain rfl : ok = true := by have h := HA.out; have := HXL.out; simpa [hgz, show xs.length < 10 by omega] using h
        obtain ⟨x0, x1⟩ := X.out.c2
        go_wp2_with (fail)
        go_ret
        exact ⟨ret_bool (by first | rfl | (simp; done) | (simp; omega)), B1.out⟩
      · have h9' : ¬ (n1 : Int) < 10 := by omega
        obtain rfl : ok = false := by have h := HA.out; have := HXL.out; simpa [hgz, show ¬ xs.length < 10 by omega] using h
        obtain ⟨x0, x1⟩ := X.out.c2
        go_wp2_with (fail)
        go_ret
        exact ⟨ret_bool (by first | rfl | (simp; done) | (simp; omega)), B1.out⟩
    · have hgz' : ¬ g ≥ sz := hgz
      obtain rfl : ok = false := by have h := HA.out; simpa [hgz] using h
      obtain ⟨x0, x1⟩ := X.out.c2
      go_wp2_with (fail)
      go_ret
      exact ⟨ret_bool (by first | rfl | (simp; done) | (simp; omega)), B1.out⟩
  obtain rfl : ok = false := by have h := HA.out; simpa using h
  obtain ⟨x0, x1⟩ := X.out.c2
  go_wp2_with (fail)
  go_ret
  exact ⟨ret_bool (by first | rfl | (simp; done) | (simp; omega)), B1.out⟩
end Go.Proofs.Ytleoncjdhlomaaa
