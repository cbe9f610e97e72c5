/-
  The walk of FnFreeBlockOrder. (Its words were written by a program of my own.)
-/
import Derived.Test.YtleoncjdhlomaaaDrawA
import Derived.Test.YtleoncjdhlomaaaArY
import Derived.Test.YtleoncjdhlomaaaArR
import Derived.Test.YtleoncjdhlomaaaArC
import Derived.Test.YtleoncjdhlomaaaArD
import Derived.Test.YtleoncjdhlomaaaArN
import Derived.Test.YtleoncjdhlomaaaArE
import Derived.Test.YtleoncjdhlomaaaArU
import Derived.Test.YtleoncjdhlomaaaArL
import Derived.Deep.RegionHeld3
import Derived.Deep.DrawnRows
import Derived.Lib.QuietBelow
import Derived.BigQuiet
import Derived.Deep.DeepMust
import Derived.Deep.DeepCutAuto
namespace Go.Proofs.Ytleoncjdhlomaaa
open Go.RowKit
-- CALL: W s0
set_option maxHeartbeats 1600000 in
theorem walk_FnFreeBlockOrder {A : Option Addr} {n c : Nat} {zs : List Int} (w : World) (h : BS w A n c zs) :
    Calls Try.prog 11 #[.slice A n c] w fun e w' => e = .returned (.bool true) ∧ Below w.heap.size w w' := by
  have H := Lib.hid h
  clear h
  rcases Nat.lt_or_ge 1048576 n with h1 | h1
  · have h1' : (1048576 : Int) < (n : Int) := by omega
    go_enter Try.func11, Try.ntmps11
    go_wp2_with (fail)
    go_ret
    exact ⟨rfl, Below.refl _ _⟩
  have h1' : ¬ (1048576 : Int) < (n : Int) := by omega
  go_enter Try.func11, Try.ntmps11
  go_wp2_with (fail)
  refine (spec_DrawFreeBlock_any w H.out h1).mono ?_
  rintro e w1 ⟨s, xs, A1, n1, c1, nm, rfl, hn1, ht, hb⟩
  have T1 := Lib.hid ht
  have B1 := Lib.hid hb
  have hz1 := B1.out.size
  clear hb ht
  replace T1 := Lib.hid (T1.out.alloc (.cells #[.int .i64 s, .slice A1 n1 c1] 25))
  replace B1 := Lib.hid (B1.out.alloc B1.out.size (.cells #[.int .i64 s, .slice A1 n1 c1] 25))
  have X := Lib.hid (Blk.new w1 25 #[.int .i64 s, .slice A1 n1 c1])
  have HXL := Lib.hid T1.out.len
  rcases hk : frOK s xs nm with _ | _
  · skip
    have HK := Lib.hid hk
    clear hk
    obtain ⟨x0, x1⟩ := X.out.c2
    go_wp2_with (fail)
    refine (ar_none (impl_FreeBlock_any s nm _ T1.out) HK.out fr_no).mono ?_
    clear x0 x1
    rintro e w2 ⟨A2, n2, c2, rfl, ho, hb⟩
    have hl2 := ho.len
    have hb7 := hb
    replace T1 := Lib.hid (T1.out.below hb7 (Nat.le_refl _))
    replace X := Lib.hid (X.out.on hb7)
    replace B1 := Lib.hid (B1.out.trans (hb7.mono B1.out.size))
    have T2 := Lib.hid ho.ts
    clear ho hb hb7
    replace T1 := Lib.hid (T1.out.alloc (.cells #[.int .i64 0, .slice A2 n2 c2] 25))
    replace T2 := Lib.hid (T2.out.alloc (.cells #[.int .i64 0, .slice A2 n2 c2] 25))
    replace X := Lib.hid (X.out.alloc (.cells #[.int .i64 0, .slice A2 n2 c2] 25))
    replace B1 := Lib.hid (B1.out.alloc B1.out.size (.cells #[.int .i64 0, .slice A2 n2 c2] 25))
    have F := Lib.hid (Blk.new w2 25 #[.int .i64 0, .slice A2 n2 c2])
    obtain ⟨x0, x1⟩ := X.out.c2
    go_wp2_with (fail)
    refine (ar_none (spec_FreeBlock_any s nm _ T1.out) HK.out fr_no).mono ?_
    clear x0 x1
    rintro e w3 ⟨A3, n3, c3, rfl, ho, hb⟩
    have hl3 := ho.len
    have hb7 := hb
    replace T1 := Lib.hid (T1.out.below hb7 (Nat.le_refl _))
    replace T2 := Lib.hid (T2.out.below hb7 (Nat.le_refl _))
    replace X := Lib.hid (X.out.on hb7)
    replace F := Lib.hid (F.out.on hb7)
    replace B1 := Lib.hid (B1.out.trans (hb7.mono B1.out.size))
    have T3 := Lib.hid ho.ts
    clear ho hb hb7
    replace T1 := Lib.hid (T1.out.alloc (.cells #[.int .i64 0, .slice A3 n3 c3] 25))
    replace T2 := Lib.hid (T2.out.alloc (.cells #[.int .i64 0, .slice A3 n3 c3] 25))
    replace T3 := Lib.hid (T3.out.alloc (.cells #[.int .i64 0, .slice A3 n3 c3] 25))
    replace X := Lib.hid (X.out.alloc (.cells #[.int .i64 0, .slice A3 n3 c3] 25))
    replace F := Lib.hid (F.out.alloc (.cells #[.int .i64 0, .slice A3 n3 c3] 25))
    replace B1 := Lib.hid (B1.out.alloc B1.out.size (.cells #[.int .i64 0, .slice A3 n3 c3] 25))
    have G := Lib.hid (Blk.new w3 25 #[.int .i64 0, .slice A3 n3 c3])
    obtain ⟨f0, f1⟩ := F.out.c2
    obtain ⟨g0, g1⟩ := G.out.c2
    go_wp2_with (fail)
    refine (laws_equalArena_same 0 _ T2.out T3.out).mono ?_
    clear f0 f1 g0 g1
    rintro e w4 ⟨rfl, hb⟩
    replace T1 := Lib.hid (T1.out.below hb (Nat.le_refl _))
    replace T2 := Lib.hid (T2.out.below hb (Nat.le_refl _))
    replace T3 := Lib.hid (T3.out.below hb (Nat.le_refl _))
    replace X := Lib.hid (X.out.on hb)
    replace F := Lib.hid (F.out.on hb)
    replace G := Lib.hid (G.out.on hb)
    replace B1 := Lib.hid (B1.out.trans (hb.mono B1.out.size))
    clear hb
    obtain ⟨f0, f1⟩ := F.out.c2
    obtain ⟨g0, g1⟩ := G.out.c2
    go_wp2_with (fail)
    refine (laws_equalArena_same 0 _ T2.out T3.out).mono ?_
    clear f0 f1 g0 g1
    rintro e w5 ⟨rfl, hb⟩
    replace T1 := Lib.hid (T1.out.below hb (Nat.le_refl _))
    replace T2 := Lib.hid (T2.out.below hb (Nat.le_refl _))
    replace T3 := Lib.hid (T3.out.below hb (Nat.le_refl _))
    replace X := Lib.hid (X.out.on hb)
    replace F := Lib.hid (F.out.on hb)
    replace G := Lib.hid (G.out.on hb)
    replace B1 := Lib.hid (B1.out.trans (hb.mono B1.out.size))
    clear hb
    go_wp2_with (fail)
    go_ret
    exact ⟨ret_bool (rfl), B1.out⟩
  have HK := Lib.hid hk
  clear hk
  obtain ⟨ys, ey⟩ : ∃ v, frX s xs nm = v := ⟨_, rfl⟩
  have HY := Lib.hid ey
  have HS0 := Lib.hid (fr_facts HK.out).2.2.1
  clear ey
  obtain ⟨x0, x1⟩ := X.out.c2
  go_wp2_with (fail)
  refine (ar_at (impl_FreeBlock_any s nm _ T1.out) HS0.out HY.out HK.out).mono ?_
  clear x0 x1
  rintro e w2 ⟨A2, n2, c2, rfl, ho, hb⟩
  have hl2 := ho.len
  have hb7 := hb
  replace T1 := Lib.hid (T1.out.below hb7 (Nat.le_refl _))
  replace X := Lib.hid (X.out.on hb7)
  replace B1 := Lib.hid (B1.out.trans (hb7.mono B1.out.size))
  have T2 := Lib.hid ho.ts
  clear ho hb hb7
  replace T1 := Lib.hid (T1.out.alloc (.cells #[.int .i64 s, .slice A2 n2 c2] 25))
  replace T2 := Lib.hid (T2.out.alloc (.cells #[.int .i64 s, .slice A2 n2 c2] 25))
  replace X := Lib.hid (X.out.alloc (.cells #[.int .i64 s, .slice A2 n2 c2] 25))
  replace B1 := Lib.hid (B1.out.alloc B1.out.size (.cells #[.int .i64 s, .slice A2 n2 c2] 25))
  have F := Lib.hid (Blk.new w2 25 #[.int .i64 s, .slice A2 n2 c2])
  obtain ⟨x0, x1⟩ := X.out.c2
  go_wp2_with (fail)
  refine (ar_at (spec_FreeBlock_any s nm _ T1.out) HS0.out HY.out HK.out).mono ?_
  clear x0 x1
  rintro e w3 ⟨A3, n3, c3, rfl, ho, hb⟩
  have hl3 := ho.len
  have hb7 := hb
  replace T1 := Lib.hid (T1.out.below hb7 (Nat.le_refl _))
  replace T2 := Lib.hid (T2.out.below hb7 (Nat.le_refl _))
  replace X := Lib.hid (X.out.on hb7)
  replace F := Lib.hid (F.out.on hb7)
  replace B1 := Lib.hid (B1.out.trans (hb7.mono B1.out.size))
  have T3 := Lib.hid ho.ts
  clear ho hb hb7
  replace T1 := Lib.hid (T1.out.alloc (.cells #[.int .i64 s, .slice A3 n3 c3] 25))
  replace T2 := Lib.hid (T2.out.alloc (.cells #[.int .i64 s, .slice A3 n3 c3] 25))
  replace T3 := Lib.hid (T3.out.alloc (.cells #[.int .i64 s, .slice A3 n3 c3] 25))
  replace X := Lib.hid (X.out.alloc (.cells #[.int .i64 s, .slice A3 n3 c3] 25))
  replace F := Lib.hid (F.out.alloc (.cells #[.int .i64 s, .slice A3 n3 c3] 25))
  replace B1 := Lib.hid (B1.out.alloc B1.out.size (.cells #[.int .i64 s, .slice A3 n3 c3] 25))
  have G := Lib.hid (Blk.new w3 25 #[.int .i64 s, .slice A3 n3 c3])
  obtain ⟨f0, f1⟩ := F.out.c2
  obtain ⟨g0, g1⟩ := G.out.c2
  go_wp2_with (fail)
  refine (laws_equalArena_same s _ T2.out T3.out).mono ?_
  clear f0 f1 g0 g1
  rintro e w4 ⟨rfl, hb⟩
  replace T1 := Lib.hid (T1.out.below hb (Nat.le_refl _))
  replace T2 := Lib.hid (T2.out.below hb (Nat.le_refl _))
  replace T3 := Lib.hid (T3.out.below hb (Nat.le_refl _))
  replace X := Lib.hid (X.out.on hb)
  replace F := Lib.hid (F.out.on hb)
  replace G := Lib.hid (G.out.on hb)
  replace B1 := Lib.hid (B1.out.trans (hb.mono B1.out.size))
  clear hb
  by_cases h0 : n2 = 0
  · subst h0
    obtain ⟨f0, f1⟩ := F.out.c2
    obtain ⟨g0, g1⟩ := G.out.c2
    go_wp2_with (fail)
    refine (laws_equalArena_same s _ T2.out T3.out).mono ?_
    clear f0 f1 g0 g1
    rintro e w5 ⟨rfl, hb⟩
    replace T1 := Lib.hid (T1.out.below hb (Nat.le_refl _))
    replace T2 := Lib.hid (T2.out.below hb (Nat.le_refl _))
    replace T3 := Lib.hid (T3.out.below hb (Nat.le_refl _))
    replace X := Lib.hid (X.out.on hb)
    replace F := Lib.hid (F.out.on hb)
    replace G := Lib.hid (G.out.on hb)
    replace B1 := Lib.hid (B1.out.trans (hb.mono B1.out.size))
    clear hb
    go_wp2_with (fail)
    go_ret
    exact ⟨ret_bool (rfl), B1.out⟩
  have h0' : ((n2 : Int) == 0) = false := by simp; omega
  have h0i : (0 : Int) < (n2 : Int) := by omega
  have h0n : 0 < n2 := by omega
  obtain ⟨b, off, y, rfl, hy, ca, cb, cc⟩ := T2.out.at_ h0n
  simp only [Nat.zero_mul, Nat.add_zero] at ca cb cc
  obtain ⟨t1, t2, t3, t4⟩ := fr_two HK.out HY.out.symm hy
  obtain ⟨o, ho⟩ : ∃ v, y.a = v := ⟨_, rfl⟩
  rw [ho] at t1 t2 t3 t4 ca
  have HA1 := Lib.hid t1
  have HA2 := Lib.hid t2
  have HA3 := Lib.hid t3
  have HA4 := Lib.hid t4
  have HB1 := Lib.hid (fr_facts t1).2.2.1
  have HB2 := Lib.hid (fr_facts t2).2.2.1
  have HB3 := Lib.hid (fr_facts t3).2.2.1
  clear hy ho t1 t2 t3 t4 cb cc
  obtain ⟨f0, f1⟩ := F.out.c2
  go_wp2_with (fail)
  refine (ar_at (impl_FreeBlock_any s o _ T2.out) HB1.out rfl HA1.out).mono ?_
  clear f0 f1
  rintro e w5 ⟨A4, n4, c4, rfl, ho, hb⟩
  have hl4 := ho.len
  have hb7 := hb
  replace T1 := Lib.hid (T1.out.below hb7 (Nat.le_refl _))
  replace T2 := Lib.hid (T2.out.below hb7 (Nat.le_refl _))
  replace T3 := Lib.hid (T3.out.below hb7 (Nat.le_refl _))
  replace X := Lib.hid (X.out.on hb7)
  replace F := Lib.hid (F.out.on hb7)
  replace G := Lib.hid (G.out.on hb7)
  replace B1 := Lib.hid (B1.out.trans (hb7.mono B1.out.size))
  have T4 := Lib.hid ho.ts
  clear ho hb hb7
  replace T1 := Lib.hid (T1.out.alloc (.cells #[.int .i64 s, .slice A4 n4 c4] 25))
  replace T2 := Lib.hid (T2.out.alloc (.cells #[.int .i64 s, .slice A4 n4 c4] 25))
  replace T3 := Lib.hid (T3.out.alloc (.cells #[.int .i64 s, .slice A4 n4 c4] 25))
  replace T4 := Lib.hid (T4.out.alloc (.cells #[.int .i64 s, .slice A4 n4 c4] 25))
  replace X := Lib.hid (X.out.alloc (.cells #[.int .i64 s, .slice A4 n4 c4] 25))
  replace F := Lib.hid (F.out.alloc (.cells #[.int .i64 s, .slice A4 n4 c4] 25))
  replace G := Lib.hid (G.out.alloc (.cells #[.int .i64 s, .slice A4 n4 c4] 25))
  replace B1 := Lib.hid (B1.out.alloc B1.out.size (.cells #[.int .i64 s, .slice A4 n4 c4] 25))
  have K := Lib.hid (Blk.new w5 25 #[.int .i64 s, .slice A4 n4 c4])
  clear ca
  obtain ⟨x0, x1⟩ := X.out.c2
  go_wp2_with (fail)
  refine (ar_at (impl_FreeBlock_any s o _ T1.out) HB2.out rfl HA2.out).mono ?_
  clear x0 x1
  rintro e w6 ⟨A5, n5, c5, rfl, ho, hb⟩
  have hl5 := ho.len
  have hb7 := hb
  replace T1 := Lib.hid (T1.out.below hb7 (Nat.le_refl _))
  replace T2 := Lib.hid (T2.out.below hb7 (Nat.le_refl _))
  replace T3 := Lib.hid (T3.out.below hb7 (Nat.le_refl _))
  replace T4 := Lib.hid (T4.out.below hb7 (Nat.le_refl _))
  replace X := Lib.hid (X.out.on hb7)
  replace F := Lib.hid (F.out.on hb7)
  replace G := Lib.hid (G.out.on hb7)
  replace K := Lib.hid (K.out.on hb7)
  replace B1 := Lib.hid (B1.out.trans (hb7.mono B1.out.size))
  have T5 := Lib.hid ho.ts
  clear ho hb hb7
  replace T1 := Lib.hid (T1.out.alloc (.cells #[.int .i64 s, .slice A5 n5 c5] 25))
  replace T2 := Lib.hid (T2.out.alloc (.cells #[.int .i64 s, .slice A5 n5 c5] 25))
  replace T3 := Lib.hid (T3.out.alloc (.cells #[.int .i64 s, .slice A5 n5 c5] 25))
  replace T4 := Lib.hid (T4.out.alloc (.cells #[.int .i64 s, .slice A5 n5 c5] 25))
  replace T5 := Lib.hid (T5.out.alloc (.cells #[.int .i64 s, .slice A5 n5 c5] 25))
  replace X := Lib.hid (X.out.alloc (.cells #[.int .i64 s, .slice A5 n5 c5] 25))
  replace F := Lib.hid (F.out.alloc (.cells #[.int .i64 s, .slice A5 n5 c5] 25))
  replace G := Lib.hid (G.out.alloc (.cells #[.int .i64 s, .slice A5 n5 c5] 25))
  replace K := Lib.hid (K.out.alloc (.cells #[.int .i64 s, .slice A5 n5 c5] 25))
  replace B1 := Lib.hid (B1.out.alloc B1.out.size (.cells #[.int .i64 s, .slice A5 n5 c5] 25))
  have M := Lib.hid (Blk.new w6 25 #[.int .i64 s, .slice A5 n5 c5])
  obtain ⟨m0, m1⟩ := M.out.c2
  go_wp2_with (fail)
  refine (ar_at (impl_FreeBlock_any s nm _ T5.out) HB3.out HA4.out HA3.out).mono ?_
  clear m0 m1
  rintro e w7 ⟨A6, n6, c6, rfl, ho, hb⟩
  have hl6 := ho.len
  have hb7 := hb
  replace T1 := Lib.hid (T1.out.below hb7 (Nat.le_refl _))
  replace T2 := Lib.hid (T2.out.below hb7 (Nat.le_refl _))
  replace T3 := Lib.hid (T3.out.below hb7 (Nat.le_refl _))
  replace T4 := Lib.hid (T4.out.below hb7 (Nat.le_refl _))
  replace T5 := Lib.hid (T5.out.below hb7 (Nat.le_refl _))
  replace X := Lib.hid (X.out.on hb7)
  replace F := Lib.hid (F.out.on hb7)
  replace G := Lib.hid (G.out.on hb7)
  replace K := Lib.hid (K.out.on hb7)
  replace M := Lib.hid (M.out.on hb7)
  replace B1 := Lib.hid (B1.out.trans (hb7.mono B1.out.size))
  have T6 := Lib.hid ho.ts
  clear ho hb hb7
  replace T1 := Lib.hid (T1.out.alloc (.cells #[.int .i64 s, .slice A6 n6 c6] 25))
  replace T2 := Lib.hid (T2.out.alloc (.cells #[.int .i64 s, .slice A6 n6 c6] 25))
  replace T3 := Lib.hid (T3.out.alloc (.cells #[.int .i64 s, .slice A6 n6 c6] 25))
  replace T4 := Lib.hid (T4.out.alloc (.cells #[.int .i64 s, .slice A6 n6 c6] 25))
  replace T5 := Lib.hid (T5.out.alloc (.cells #[.int .i64 s, .slice A6 n6 c6] 25))
  replace T6 := Lib.hid (T6.out.alloc (.cells #[.int .i64 s, .slice A6 n6 c6] 25))
  replace X := Lib.hid (X.out.alloc (.cells #[.int .i64 s, .slice A6 n6 c6] 25))
  replace F := Lib.hid (F.out.alloc (.cells #[.int .i64 s, .slice A6 n6 c6] 25))
  replace G := Lib.hid (G.out.alloc (.cells #[.int .i64 s, .slice A6 n6 c6] 25))
  replace K := Lib.hid (K.out.alloc (.cells #[.int .i64 s, .slice A6 n6 c6] 25))
  replace M := Lib.hid (M.out.alloc (.cells #[.int .i64 s, .slice A6 n6 c6] 25))
  replace B1 := Lib.hid (B1.out.alloc B1.out.size (.cells #[.int .i64 s, .slice A6 n6 c6] 25))
  have N := Lib.hid (Blk.new w7 25 #[.int .i64 s, .slice A6 n6 c6])
  obtain ⟨k0, k1⟩ := K.out.c2
  obtain ⟨n0, n1⟩ := N.out.c2
  go_wp2_with (fail)
  refine (laws_equalArena_same s _ T4.out T6.out).mono ?_
  clear k0 k1 n0 n1
  rintro e w8 ⟨rfl, hb⟩
  replace T1 := Lib.hid (T1.out.below hb (Nat.le_refl _))
  replace T2 := Lib.hid (T2.out.below hb (Nat.le_refl _))
  replace T3 := Lib.hid (T3.out.below hb (Nat.le_refl _))
  replace T4 := Lib.hid (T4.out.below hb (Nat.le_refl _))
  replace T5 := Lib.hid (T5.out.below hb (Nat.le_refl _))
  replace T6 := Lib.hid (T6.out.below hb (Nat.le_refl _))
  replace X := Lib.hid (X.out.on hb)
  replace F := Lib.hid (F.out.on hb)
  replace G := Lib.hid (G.out.on hb)
  replace K := Lib.hid (K.out.on hb)
  replace M := Lib.hid (M.out.on hb)
  replace N := Lib.hid (N.out.on hb)
  replace B1 := Lib.hid (B1.out.trans (hb.mono B1.out.size))
  clear hb
  go_wp2_with (fail)
  go_ret
  exact ⟨ret_bool (by first | rfl | (simp; done) | (simp; omega)), B1.out⟩
end Go.Proofs.Ytleoncjdhlomaaa
