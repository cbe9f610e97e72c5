/-
  The walk of FnCompactArenaTwice. (Its words were written by a program of my own.)
-/
import Derived.Test.YtleoncjdhlomaaaDrawA
import Derived.Test.YtleoncjdhlomaaaArY
import Derived.Test.YtleoncjdhlomaaaArR
import Derived.Test.YtleoncjdhlomaaaArC
import Derived.Test.YtleoncjdhlomaaaArD
import Derived.Test.YtleoncjdhlomaaaArN
import Derived.Test.YtleoncjdhlomaaaArE
import Derived.Test.YtleoncjdhlomaaaArU
import Derived.Test.YtleoncjdhlomaaaArL
import Derived.Deep.RegionHeld3
import Derived.Deep.DrawnRows
import Derived.Lib.QuietBelow
import Derived.BigQuiet
import Derived.Deep.DeepMust
import Derived.Deep.DeepCutAuto
namespace Go.Proofs.Ytleoncjdhlomaaa
open Go.RowKit
-- CALL: W s0
set_option maxHeartbeats 1600000 in
theorem walk_FnCompactArenaTwice {A : Option Addr} {n c : Nat} {zs : List Int} (w : World) (h : BS w A n c zs) :
    Calls Try.prog 8 #[.slice A n c] w fun e w' => e = .returned (.bool true) ∧ Below w.heap.size w w' := by
  have H := Lib.hid h
  clear h
  rcases Nat.lt_or_ge 1048576 n with h1 | h1
  · have h1' : (1048576 : Int) < (n : Int) := by omega
    go_enter Try.func8, Try.ntmps8
    go_wp2_with (fail)
    go_ret
    exact ⟨rfl, Below.refl _ _⟩
  have h1' : ¬ (1048576 : Int) < (n : Int) := by omega
  go_enter Try.func8, Try.ntmps8
  go_wp2_with (fail)
  refine (spec_DrawCompactArena_any w H.out h1).mono ?_
  rintro e w1 ⟨s, xs, A1, n1, c1, rfl, hn1, ht, hb⟩
  have T1 := Lib.hid ht
  have B1 := Lib.hid hb
  have hz1 := B1.out.size
  clear hb ht
  replace T1 := Lib.hid (T1.out.alloc (.cells #[.int .i64 s, .slice A1 n1 c1] 25))
  replace B1 := Lib.hid (B1.out.alloc B1.out.size (.cells #[.int .i64 s, .slice A1 n1 c1] 25))
  have X := Lib.hid (Blk.new w1 25 #[.int .i64 s, .slice A1 n1 c1])
  have HXL := Lib.hid T1.out.len
  rcases hk : validA s xs with _ | _
  · skip
    have HK := Lib.hid hk
    clear hk
    obtain ⟨x0, x1⟩ := X.out.c2
    go_wp2_with (fail)
    refine (ar_none (impl_CompactArena_any s _ T1.out) HK.out cm_no).mono ?_
    clear x0 x1
    rintro e w2 ⟨A2, n2, c2, rfl, ho, hb⟩
    have hl2 := ho.len
    have hb7 := hb
    replace T1 := Lib.hid (T1.out.below hb7 (Nat.le_refl _))
    replace X := Lib.hid (X.out.on hb7)
    replace B1 := Lib.hid (B1.out.trans (hb7.mono B1.out.size))
    have T2 := Lib.hid ho.ts
    clear ho hb hb7
    replace T1 := Lib.hid (T1.out.alloc (.cells #[.int .i64 0, .slice A2 n2 c2] 25))
    replace T2 := Lib.hid (T2.out.alloc (.cells #[.int .i64 0, .slice A2 n2 c2] 25))
    replace X := Lib.hid (X.out.alloc (.cells #[.int .i64 0, .slice A2 n2 c2] 25))
    replace B1 := Lib.hid (B1.out.alloc B1.out.size (.cells #[.int .i64 0, .slice A2 n2 c2] 25))
    have F := Lib.hid (Blk.new w2 25 #[.int .i64 0, .slice A2 n2 c2])
    obtain ⟨x0, x1⟩ := X.out.c2
    go_wp2_with (fail)
    refine (ar_none (spec_CompactArena_any s _ T1.out) HK.out cm_no).mono ?_
    clear x0 x1
    rintro e w3 ⟨A3, n3, c3, rfl, ho, hb⟩
    have hl3 := ho.len
    have hb7 := hb
    replace T1 := Lib.hid (T1.out.below hb7 (Nat.le_refl _))
    replace T2 := Lib.hid (T2.out.below hb7 (Nat.le_refl _))
    replace X := Lib.hid (X.out.on hb7)
    replace F := Lib.hid (F.out.on hb7)
    replace B1 := Lib.hid (B1.out.trans (hb7.mono B1.out.size))
    have T3 := Lib.hid ho.ts
    clear ho hb hb7
    replace T1 := Lib.hid (T1.out.alloc (.cells #[.int .i64 0, .slice A3 n3 c3] 25))
    replace T2 := Lib.hid (T2.out.alloc (.cells #[.int .i64 0, .slice A3 n3 c3] 25))
    replace T3 := Lib.hid (T3.out.alloc (.cells #[.int .i64 0, .slice A3 n3 c3] 25))
    replace X := Lib.hid (X.out.alloc (.cells #[.int .i64 0, .slice A3 n3 c3] 25))
    replace F := Lib.hid (F.out.alloc (.cells #[.int .i64 0, .slice A3 n3 c3] 25))
    replace B1 := Lib.hid (B1.out.alloc B1.out.size (.cells #[.int .i64 0, .slice A3 n3 c3] 25))
    have G := Lib.hid (Blk.new w3 25 #[.int .i64 0, .slice A3 n3 c3])
    obtain ⟨f0, f1⟩ := F.out.c2
    obtain ⟨g0, g1⟩ := G.out.c2
    go_wp2_with (fail)
    refine (laws_equalArena_same 0 _ T2.out T3.out).mono ?_
    clear f0 f1 g0 g1
    rintro e w4 ⟨rfl, hb⟩
    replace T1 := Lib.hid (T1.out.below hb (Nat.le_refl _))
    replace T2 := Lib.hid (T2.out.below hb (Nat.le_refl _))
    replace T3 := Lib.hid (T3.out.below hb (Nat.le_refl _))
    replace X := Lib.hid (X.out.on hb)
    replace F := Lib.hid (F.out.on hb)
    replace G := Lib.hid (G.out.on hb)
    replace B1 := Lib.hid (B1.out.trans (hb.mono B1.out.size))
    clear hb
    obtain ⟨f0, f1⟩ := F.out.c2
    obtain ⟨g0, g1⟩ := G.out.c2
    go_wp2_with (fail)
    refine (laws_equalArena_same 0 _ T2.out T3.out).mono ?_
    clear f0 f1 g0 g1
    rintro e w5 ⟨rfl, hb⟩
    replace T1 := Lib.hid (T1.out.below hb (Nat.le_refl _))
    replace T2 := Lib.hid (T2.out.below hb (Nat.le_refl _))
    replace T3 := Lib.hid (T3.out.below hb (Nat.le_refl _))
    replace X := Lib.hid (X.out.on hb)
    replace F := Lib.hid (F.out.on hb)
    replace G := Lib.hid (G.out.on hb)
    replace B1 := Lib.hid (B1.out.trans (hb.mono B1.out.size))
    clear hb
    go_wp2_with (fail)
    go_ret
    exact ⟨ret_bool (rfl), B1.out⟩
  have HK := Lib.hid hk
  clear hk
  obtain ⟨t1, t2, t3, t4, t5, t6, t7⟩ := cmp_facts HK.out
  have HV := Lib.hid t1
  have HE := Lib.hid t5
  obtain ⟨g1, hg1⟩ : ∃ v, gapA s xs = v := ⟨_, rfl⟩
  obtain ⟨g2, hg2⟩ : ∃ v, gapA s (cmpL xs) = v := ⟨_, rfl⟩
  rw [hg1, hg2] at t4
  have HG1 := Lib.hid hg1
  have HG2 := Lib.hid hg2
  have hgi : g2 ≥ g1 := t4
  clear t1 t2 t3 t5 t6 t7 hg1 hg2
  obtain ⟨x0, x1⟩ := X.out.c2
  go_wp2_with (fail)
  refine (ar_at (impl_CompactArena_any s _ T1.out) (cm_yes HK.out).1 (cm_yes HK.out).2 HK.out).mono ?_
  clear x0 x1
  rintro e w2 ⟨A2, n2, c2, rfl, ho, hb⟩
  have hl2 := ho.len
  have hb7 := hb
  replace T1 := Lib.hid (T1.out.below hb7 (Nat.le_refl _))
  replace X := Lib.hid (X.out.on hb7)
  replace B1 := Lib.hid (B1.out.trans (hb7.mono B1.out.size))
  have T2 := Lib.hid ho.ts
  clear ho hb hb7
  replace T1 := Lib.hid (T1.out.alloc (.cells #[.int .i64 s, .slice A2 n2 c2] 25))
  replace T2 := Lib.hid (T2.out.alloc (.cells #[.int .i64 s, .slice A2 n2 c2] 25))
  replace X := Lib.hid (X.out.alloc (.cells #[.int .i64 s, .slice A2 n2 c2] 25))
  replace B1 := Lib.hid (B1.out.alloc B1.out.size (.cells #[.int .i64 s, .slice A2 n2 c2] 25))
  have F := Lib.hid (Blk.new w2 25 #[.int .i64 s, .slice A2 n2 c2])
  obtain ⟨x0, x1⟩ := X.out.c2
  go_wp2_with (fail)
  refine (ar_at (spec_CompactArena_any s _ T1.out) (cm_yes HK.out).1 (cm_yes HK.out).2 HK.out).mono ?_
  clear x0 x1
  rintro e w3 ⟨A3, n3, c3, rfl, ho, hb⟩
  have hl3 := ho.len
  have hb7 := hb
  replace T1 := Lib.hid (T1.out.below hb7 (Nat.le_refl _))
  replace T2 := Lib.hid (T2.out.below hb7 (Nat.le_refl _))
  replace X := Lib.hid (X.out.on hb7)
  replace F := Lib.hid (F.out.on hb7)
  replace B1 := Lib.hid (B1.out.trans (hb7.mono B1.out.size))
  have T3 := Lib.hid ho.ts
  clear ho hb hb7
  replace T1 := Lib.hid (T1.out.alloc (.cells #[.int .i64 s, .slice A3 n3 c3] 25))
  replace T2 := Lib.hid (T2.out.alloc (.cells #[.int .i64 s, .slice A3 n3 c3] 25))
  replace T3 := Lib.hid (T3.out.alloc (.cells #[.int .i64 s, .slice A3 n3 c3] 25))
  replace X := Lib.hid (X.out.alloc (.cells #[.int .i64 s, .slice A3 n3 c3] 25))
  replace F := Lib.hid (F.out.alloc (.cells #[.int .i64 s, .slice A3 n3 c3] 25))
  replace B1 := Lib.hid (B1.out.alloc B1.out.size (.cells #[.int .i64 s, .slice A3 n3 c3] 25))
  have G := Lib.hid (Blk.new w3 25 #[.int .i64 s, .slice A3 n3 c3])
  obtain ⟨f0, f1⟩ := F.out.c2
  obtain ⟨g0, g1⟩ := G.out.c2
  go_wp2_with (fail)
  refine (laws_equalArena_same s _ T2.out T3.out).mono ?_
  clear f0 f1 g0 g1
  rintro e w4 ⟨rfl, hb⟩
  replace T1 := Lib.hid (T1.out.below hb (Nat.le_refl _))
  replace T2 := Lib.hid (T2.out.below hb (Nat.le_refl _))
  replace T3 := Lib.hid (T3.out.below hb (Nat.le_refl _))
  replace X := Lib.hid (X.out.on hb)
  replace F := Lib.hid (F.out.on hb)
  replace G := Lib.hid (G.out.on hb)
  replace B1 := Lib.hid (B1.out.trans (hb.mono B1.out.size))
  clear hb
  obtain ⟨f0, f1⟩ := F.out.c2
  go_wp2_with (fail)
  refine (ar_at (impl_CompactArena_any s _ T2.out) (cm_yes HV.out).1 ((cm_yes HV.out).2.trans HE.out) HV.out).mono ?_
  clear f0 f1
  rintro e w5 ⟨A4, n4, c4, rfl, ho, hb⟩
  have hl4 := ho.len
  have hb7 := hb
  replace T1 := Lib.hid (T1.out.below hb7 (Nat.le_refl _))
  replace T2 := Lib.hid (T2.out.below hb7 (Nat.le_refl _))
  replace T3 := Lib.hid (T3.out.below hb7 (Nat.le_refl _))
  replace X := Lib.hid (X.out.on hb7)
  replace F := Lib.hid (F.out.on hb7)
  replace G := Lib.hid (G.out.on hb7)
  replace B1 := Lib.hid (B1.out.trans (hb7.mono B1.out.size))
  have T4 := Lib.hid ho.ts
  clear ho hb hb7
  replace T1 := Lib.hid (T1.out.alloc (.cells #[.int .i64 s, .slice A4 n4 c4] 25))
  replace T2 := Lib.hid (T2.out.alloc (.cells #[.int .i64 s, .slice A4 n4 c4] 25))
  replace T3 := Lib.hid (T3.out.alloc (.cells #[.int .i64 s, .slice A4 n4 c4] 25))
  replace T4 := Lib.hid (T4.out.alloc (.cells #[.int .i64 s, .slice A4 n4 c4] 25))
  replace X := Lib.hid (X.out.alloc (.cells #[.int .i64 s, .slice A4 n4 c4] 25))
  replace F := Lib.hid (F.out.alloc (.cells #[.int .i64 s, .slice A4 n4 c4] 25))
  replace G := Lib.hid (G.out.alloc (.cells #[.int .i64 s, .slice A4 n4 c4] 25))
  replace B1 := Lib.hid (B1.out.alloc B1.out.size (.cells #[.int .i64 s, .slice A4 n4 c4] 25))
  have K := Lib.hid (Blk.new w5 25 #[.int .i64 s, .slice A4 n4 c4])
  have C1 := Lib.hid (fun (d : Nat) (os : Array Obj) => laws_equalArena_same s (Go.Sort.grow (redrawn (w5.alloc (.cells #[.int .i64 s, .slice A4 n4 c4] 25)) d) os) (T4.out.regrown d os) (T2.out.regrown d os))
  have C2 := Lib.hid (fun (d : Nat) (os : Array Obj) => call_int (impl_LargestGap_any s (Go.Sort.grow (redrawn (w5.alloc (.cells #[.int .i64 s, .slice A4 n4 c4] 25)) d) os) (T2.out.regrown d os)) HG2.out)
  have C3 := Lib.hid (fun (d : Nat) (os : Array Obj) => call_int (impl_LargestGap_any s (Go.Sort.grow (redrawn (w5.alloc (.cells #[.int .i64 s, .slice A4 n4 c4] 25)) d) os) (T1.out.regrown d os)) HG1.out)
  obtain ⟨k0, k1⟩ := K.out.c2
  obtain ⟨x0, x1⟩ := X.out.c2
  obtain ⟨f0, f1⟩ := F.out.c2
  have qk0 := fun d os => cell_regrown k0 d os
  have qk1 := fun d os => cell_regrown k1 d os
  have qx0 := fun d os => cell_regrown x0 d os
  have qx1 := fun d os => cell_regrown x1 d os
  have qf0 := fun d os => cell_regrown f0 d os
  have qf1 := fun d os => cell_regrown f1 d os
  have lK := K.out.lt
  have lX := X.out.lt
  have lF := F.out.lt
  go_wp2_with (fail)
  refine wp_region_quiet_below (by kernel_rfl) (by kernel_rfl) ?_
  repeat (first | go_big_quiet_step ((first | (go_at_call 20; with_reducible exact Calls.regrown_of (C1.out _ _)) | (go_at_call 23; with_reducible exact Calls.regrown_of (C2.out _ _)) | (go_at_call 23; with_reducible exact Calls.regrown_of (C3.out _ _)))) | quiet_step ((first | (go_at_call 20; with_reducible exact Calls.regrown_of (C1.out _ _)) | (go_at_call 23; with_reducible exact Calls.regrown_of (C2.out _ _)) | (go_at_call 23; with_reducible exact Calls.regrown_of (C3.out _ _)))))
  refine wpQuiet_nil ?_
  intro w6 hw'
  have hb : Below (w5.alloc (.cells #[.int .i64 s, .slice A4 n4 c4] 25)).heap.size (w5.alloc (.cells #[.int .i64 s, .slice A4 n4 c4] 25)) w6 := by obtain ⟨p, rfl⟩ := hw'; exact below_regrown _ _ _
  clear hw' qk0 qk1 qx0 qx1 qf0 qf1 k0 k1 x0 x1 f0 f1 lK lX lF
  replace T1 := Lib.hid (T1.out.below hb (Nat.le_refl _))
  replace T2 := Lib.hid (T2.out.below hb (Nat.le_refl _))
  replace T3 := Lib.hid (T3.out.below hb (Nat.le_refl _))
  replace T4 := Lib.hid (T4.out.below hb (Nat.le_refl _))
  replace X := Lib.hid (X.out.on hb)
  replace F := Lib.hid (F.out.on hb)
  replace G := Lib.hid (G.out.on hb)
  replace K := Lib.hid (K.out.on hb)
  replace B1 := Lib.hid (B1.out.trans (hb.mono B1.out.size))
  clear hb
  go_wp2_with (fail)
  go_ret
  exact ⟨ret_bool (by first | rfl | (simp; done) | (simp; omega)), B1.out⟩
end Go.Proofs.Ytleoncjdhlomaaa
