/-
  The walk of FnAllocBlock. (Its words were written by a program of my own.)
-/
import Derived.Test.YtleoncjdhlomaaaDrawA
import Derived.Test.YtleoncjdhlomaaaArY
import Derived.Test.YtleoncjdhlomaaaArR
import Derived.Test.YtleoncjdhlomaaaArC
import Derived.Test.YtleoncjdhlomaaaArD
import Derived.Test.YtleoncjdhlomaaaArN
import Derived.Test.YtleoncjdhlomaaaArE
import Derived.Test.YtleoncjdhlomaaaArU
import Derived.Test.YtleoncjdhlomaaaArL
import Derived.Deep.RegionHeld3
import Derived.Deep.DrawnRows
import Derived.Lib.QuietBelow
import Derived.BigQuiet
import Derived.Deep.DeepMust
import Derived.Deep.DeepCutAuto
namespace Go.Proofs.Ytleoncjdhlomaaa
open Go.RowKit
-- CALL: W s0
set_option maxHeartbeats 1600000 in
theorem walk_FnAllocBlock {A : Option Addr} {n c : Nat} {zs : List Int} (w : World) (h : BS w A n c zs) :
    Calls Try.prog 4 #[.slice A n c] w fun e w' => e = .returned (.bool true) ∧ Below w.heap.size w w' := by
  have H := Lib.hid h
  clear h
  rcases Nat.lt_or_ge 1048576 n with h1 | h1
  · have h1' : (1048576 : Int) < (n : Int) := by omega
    go_enter Try.func4, Try.ntmps4
    go_wp2_with (fail)
    go_ret
    exact ⟨rfl, Below.refl _ _⟩
  have h1' : ¬ (1048576 : Int) < (n : Int) := by omega
  go_enter Try.func4, Try.ntmps4
  go_wp2_with (fail)
  refine (spec_DrawAllocBlock_any w H.out h1).mono ?_
  rintro e w1 ⟨s, xs, A1, n1, c1, nm, sz, rfl, hn1, ⟨hm0, hm1⟩, ⟨hz0, hz9⟩, ht, hb⟩
  have T1 := Lib.hid ht
  have B1 := Lib.hid hb
  have hz1 := B1.out.size
  clear hb ht
  replace T1 := Lib.hid (T1.out.alloc (.cells #[.int .i64 s, .slice A1 n1 c1] 25))
  replace B1 := Lib.hid (B1.out.alloc B1.out.size (.cells #[.int .i64 s, .slice A1 n1 c1] 25))
  have X := Lib.hid (Blk.new w1 25 #[.int .i64 s, .slice A1 n1 c1])
  have HXL := Lib.hid T1.out.len
  rcases hk : alOK s xs nm sz with _ | _
  · skip
    have HK := Lib.hid hk
    clear hk
    obtain ⟨x0, x1⟩ := X.out.c2
    go_wp2_with (fail)
    refine (ar_none (impl_AllocBlock_any s nm sz _ T1.out) HK.out al_no).mono ?_
    clear x0 x1
    rintro e w2 ⟨A2, n2, c2, rfl, ho, hb⟩
    have hl2 := ho.len
    have hb7 := hb
    replace T1 := Lib.hid (T1.out.below hb7 (Nat.le_refl _))
    replace X := Lib.hid (X.out.on hb7)
    replace B1 := Lib.hid (B1.out.trans (hb7.mono B1.out.size))
    have T2 := Lib.hid ho.ts
    clear ho hb hb7
    replace T1 := Lib.hid (T1.out.alloc (.cells #[.int .i64 0, .slice A2 n2 c2] 25))
    replace T2 := Lib.hid (T2.out.alloc (.cells #[.int .i64 0, .slice A2 n2 c2] 25))
    replace X := Lib.hid (X.out.alloc (.cells #[.int .i64 0, .slice A2 n2 c2] 25))
    replace B1 := Lib.hid (B1.out.alloc B1.out.size (.cells #[.int .i64 0, .slice A2 n2 c2] 25))
    have F := Lib.hid (Blk.new w2 25 #[.int .i64 0, .slice A2 n2 c2])
    obtain ⟨x0, x1⟩ := X.out.c2
    go_wp2_with (fail)
    refine (ar_none (spec_AllocBlock_any s nm sz _ T1.out) HK.out al_no).mono ?_
    clear x0 x1
    rintro e w3 ⟨A3, n3, c3, rfl, ho, hb⟩
    have hl3 := ho.len
    have hb7 := hb
    replace T1 := Lib.hid (T1.out.below hb7 (Nat.le_refl _))
    replace T2 := Lib.hid (T2.out.below hb7 (Nat.le_refl _))
    replace X := Lib.hid (X.out.on hb7)
    replace F := Lib.hid (F.out.on hb7)
    replace B1 := Lib.hid (B1.out.trans (hb7.mono B1.out.size))
    have T3 := Lib.hid ho.ts
    clear ho hb hb7
    replace T1 := Lib.hid (T1.out.alloc (.cells #[.int .i64 0, .slice A3 n3 c3] 25))
    replace T2 := Lib.hid (T2.out.alloc (.cells #[.int .i64 0, .slice A3 n3 c3] 25))
    replace T3 := Lib.hid (T3.out.alloc (.cells #[.int .i64 0, .slice A3 n3 c3] 25))
    replace X := Lib.hid (X.out.alloc (.cells #[.int .i64 0, .slice A3 n3 c3] 25))
    replace F := Lib.hid (F.out.alloc (.cells #[.int .i64 0, .slice A3 n3 c3] 25))
    replace B1 := Lib.hid (B1.out.alloc B1.out.size (.cells #[.int .i64 0, .slice A3 n3 c3] 25))
    have G := Lib.hid (Blk.new w3 25 #[.int .i64 0, .slice A3 n3 c3])
    obtain ⟨f0, f1⟩ := F.out.c2
    obtain ⟨g0, g1⟩ := G.out.c2
    go_wp2_with (fail)
    refine (laws_equalArena_same 0 _ T2.out T3.out).mono ?_
    clear f0 f1 g0 g1
    rintro e w4 ⟨rfl, hb⟩
    replace T1 := Lib.hid (T1.out.below hb (Nat.le_refl _))
    replace T2 := Lib.hid (T2.out.below hb (Nat.le_refl _))
    replace T3 := Lib.hid (T3.out.below hb (Nat.le_refl _))
    replace X := Lib.hid (X.out.on hb)
    replace F := Lib.hid (F.out.on hb)
    replace G := Lib.hid (G.out.on hb)
    replace B1 := Lib.hid (B1.out.trans (hb.mono B1.out.size))
    clear hb
    obtain ⟨f0, f1⟩ := F.out.c2
    obtain ⟨g0, g1⟩ := G.out.c2
    go_wp2_with (fail)
    refine (laws_equalArena_same 0 _ T2.out T3.out).mono ?_
    clear f0 f1 g0 g1
    rintro e w5 ⟨rfl, hb⟩
    replace T1 := Lib.hid (T1.out.below hb (Nat.le_refl _))
    replace T2 := Lib.hid (T2.out.below hb (Nat.le_refl _))
    replace T3 := Lib.hid (T3.out.below hb (Nat.le_refl _))
    replace X := Lib.hid (X.out.on hb)
    replace F := Lib.hid (F.out.on hb)
    replace G := Lib.hid (G.out.on hb)
    replace B1 := Lib.hid (B1.out.trans (hb.mono B1.out.size))
    clear hb
    go_wp2_with (fail)
    go_ret
    exact ⟨ret_bool (rfl), B1.out⟩
  have HK := Lib.hid hk
  clear hk
  obtain ⟨ys, ey⟩ : ∃ v, alX s xs nm sz = v := ⟨_, rfl⟩
  obtain ⟨t1, t2, t3, t4, t5, t6, t7⟩ := al_more HK.out ey.symm
  have HY := Lib.hid ey
  have HS0 := Lib.hid t1
  have HF1 := Lib.hid t2
  have HF2 := Lib.hid t3
  have HF3 := Lib.hid t4
  have HV := Lib.hid t6
  have HV0 := Lib.hid (show validA s xs = true by obtain ⟨_, _, _, h, _⟩ := al_facts HK.out; exact h)
  obtain ⟨u, hu⟩ : ∃ v, usedA s xs = v := ⟨_, rfl⟩
  have hub := used_bd HV0.out
  rw [hu] at t5 hub
  have HU := Lib.hid hu
  have HU2 := Lib.hid t5
  have hwu : IntKind.i64.wrap (u + sz) = u + sz := by rw [IntKind.wrap_i64]; omega
  clear ey t1 t2 t3 t4 t5 t6 t7 hu
  obtain ⟨x0, x1⟩ := X.out.c2
  go_wp2_with (fail)
  refine (ar_at (impl_AllocBlock_any s nm sz _ T1.out) HS0.out HY.out HK.out).mono ?_
  clear x0 x1
  rintro e w2 ⟨A2, n2, c2, rfl, ho, hb⟩
  have hl2 := ho.len
  have hb7 := hb
  replace T1 := Lib.hid (T1.out.below hb7 (Nat.le_refl _))
  replace X := Lib.hid (X.out.on hb7)
  replace B1 := Lib.hid (B1.out.trans (hb7.mono B1.out.size))
  have T2 := Lib.hid ho.ts
  clear ho hb hb7
  replace T1 := Lib.hid (T1.out.alloc (.cells #[.int .i64 s, .slice A2 n2 c2] 25))
  replace T2 := Lib.hid (T2.out.alloc (.cells #[.int .i64 s, .slice A2 n2 c2] 25))
  replace X := Lib.hid (X.out.alloc (.cells #[.int .i64 s, .slice A2 n2 c2] 25))
  replace B1 := Lib.hid (B1.out.alloc B1.out.size (.cells #[.int .i64 s, .slice A2 n2 c2] 25))
  have F := Lib.hid (Blk.new w2 25 #[.int .i64 s, .slice A2 n2 c2])
  obtain ⟨x0, x1⟩ := X.out.c2
  go_wp2_with (fail)
  refine (ar_at (spec_AllocBlock_any s nm sz _ T1.out) HS0.out HY.out HK.out).mono ?_
  clear x0 x1
  rintro e w3 ⟨A3, n3, c3, rfl, ho, hb⟩
  have hl3 := ho.len
  have hb7 := hb
  replace T1 := Lib.hid (T1.out.below hb7 (Nat.le_refl _))
  replace T2 := Lib.hid (T2.out.below hb7 (Nat.le_refl _))
  replace X := Lib.hid (X.out.on hb7)
  replace F := Lib.hid (F.out.on hb7)
  replace B1 := Lib.hid (B1.out.trans (hb7.mono B1.out.size))
  have T3 := Lib.hid ho.ts
  clear ho hb hb7
  replace T1 := Lib.hid (T1.out.alloc (.cells #[.int .i64 s, .slice A3 n3 c3] 25))
  replace T2 := Lib.hid (T2.out.alloc (.cells #[.int .i64 s, .slice A3 n3 c3] 25))
  replace T3 := Lib.hid (T3.out.alloc (.cells #[.int .i64 s, .slice A3 n3 c3] 25))
  replace X := Lib.hid (X.out.alloc (.cells #[.int .i64 s, .slice A3 n3 c3] 25))
  replace F := Lib.hid (F.out.alloc (.cells #[.int .i64 s, .slice A3 n3 c3] 25))
  replace B1 := Lib.hid (B1.out.alloc B1.out.size (.cells #[.int .i64 s, .slice A3 n3 c3] 25))
  have G := Lib.hid (Blk.new w3 25 #[.int .i64 s, .slice A3 n3 c3])
  obtain ⟨f0, f1⟩ := F.out.c2
  obtain ⟨g0, g1⟩ := G.out.c2
  go_wp2_with (fail)
  refine (laws_equalArena_same s _ T2.out T3.out).mono ?_
  clear f0 f1 g0 g1
  rintro e w4 ⟨rfl, hb⟩
  replace T1 := Lib.hid (T1.out.below hb (Nat.le_refl _))
  replace T2 := Lib.hid (T2.out.below hb (Nat.le_refl _))
  replace T3 := Lib.hid (T3.out.below hb (Nat.le_refl _))
  replace X := Lib.hid (X.out.on hb)
  replace F := Lib.hid (F.out.on hb)
  replace G := Lib.hid (G.out.on hb)
  replace B1 := Lib.hid (B1.out.trans (hb.mono B1.out.size))
  clear hb
  obtain ⟨f0, f1⟩ := F.out.c2
  go_wp2_with (fail)
  refine (ar_at (impl_FreeBlock_any s nm _ T2.out) HF3.out HF2.out HF1.out).mono ?_
  clear f0 f1
  rintro e w5 ⟨A4, n4, c4, rfl, ho, hb⟩
  have hl4 := ho.len
  have hb7 := hb
  replace T1 := Lib.hid (T1.out.below hb7 (Nat.le_refl _))
  replace T2 := Lib.hid (T2.out.below hb7 (Nat.le_refl _))
  replace T3 := Lib.hid (T3.out.below hb7 (Nat.le_refl _))
  replace X := Lib.hid (X.out.on hb7)
  replace F := Lib.hid (F.out.on hb7)
  replace G := Lib.hid (G.out.on hb7)
  replace B1 := Lib.hid (B1.out.trans (hb7.mono B1.out.size))
  have T4 := Lib.hid ho.ts
  clear ho hb hb7
  replace T1 := Lib.hid (T1.out.alloc (.cells #[.int .i64 s, .slice A4 n4 c4] 25))
  replace T2 := Lib.hid (T2.out.alloc (.cells #[.int .i64 s, .slice A4 n4 c4] 25))
  replace T3 := Lib.hid (T3.out.alloc (.cells #[.int .i64 s, .slice A4 n4 c4] 25))
  replace T4 := Lib.hid (T4.out.alloc (.cells #[.int .i64 s, .slice A4 n4 c4] 25))
  replace X := Lib.hid (X.out.alloc (.cells #[.int .i64 s, .slice A4 n4 c4] 25))
  replace F := Lib.hid (F.out.alloc (.cells #[.int .i64 s, .slice A4 n4 c4] 25))
  replace G := Lib.hid (G.out.alloc (.cells #[.int .i64 s, .slice A4 n4 c4] 25))
  replace B1 := Lib.hid (B1.out.alloc B1.out.size (.cells #[.int .i64 s, .slice A4 n4 c4] 25))
  have K := Lib.hid (Blk.new w5 25 #[.int .i64 s, .slice A4 n4 c4])
  have C1 := Lib.hid (fun (d : Nat) (os : Array Obj) => laws_equalArena_same s (Go.Sort.grow (redrawn (w5.alloc (.cells #[.int .i64 s, .slice A4 n4 c4] 25)) d) os) (T4.out.regrown d os) (T1.out.regrown d os))
  have C2 := Lib.hid (fun (d : Nat) (os : Array Obj) => call_int (impl_UsedPlaces_any s (Go.Sort.grow (redrawn (w5.alloc (.cells #[.int .i64 s, .slice A4 n4 c4] 25)) d) os) (T2.out.regrown d os)) HU2.out)
  have C3 := Lib.hid (fun (d : Nat) (os : Array Obj) => call_int (impl_UsedPlaces_any s (Go.Sort.grow (redrawn (w5.alloc (.cells #[.int .i64 s, .slice A4 n4 c4] 25)) d) os) (T1.out.regrown d os)) HU.out)
  have C4 := Lib.hid (fun (d : Nat) (os : Array Obj) => call_b (impl_ValidArena_any s (Go.Sort.grow (redrawn (w5.alloc (.cells #[.int .i64 s, .slice A4 n4 c4] 25)) d) os) (T2.out.regrown d os)) HV.out)
  obtain ⟨k0, k1⟩ := K.out.c2
  obtain ⟨x0, x1⟩ := X.out.c2
  obtain ⟨f0, f1⟩ := F.out.c2
  have qk0 := fun d os => cell_regrown k0 d os
  have qk1 := fun d os => cell_regrown k1 d os
  have qx0 := fun d os => cell_regrown x0 d os
  have qx1 := fun d os => cell_regrown x1 d os
  have qf0 := fun d os => cell_regrown f0 d os
  have qf1 := fun d os => cell_regrown f1 d os
  have lK := K.out.lt
  have lX := X.out.lt
  have lF := F.out.lt
  go_wp2_with (fail)
  refine wp_region_quiet_below (by kernel_rfl) (by kernel_rfl) ?_
  repeat (first | go_big_quiet_step ((first | (go_at_call 20; with_reducible exact Calls.regrown_of (C1.out _ _)) | (go_at_call 22; with_reducible exact Calls.regrown_of (C2.out _ _)) | (go_at_call 22; with_reducible exact Calls.regrown_of (C3.out _ _)) | (go_at_call 15; with_reducible exact Calls.regrown_of (C4.out _ _)))) | quiet_step ((first | (go_at_call 20; with_reducible exact Calls.regrown_of (C1.out _ _)) | (go_at_call 22; with_reducible exact Calls.regrown_of (C2.out _ _)) | (go_at_call 22; with_reducible exact Calls.regrown_of (C3.out _ _)) | (go_at_call 15; with_reducible exact Calls.regrown_of (C4.out _ _)))))
  refine wpQuiet_nil ?_
  intro w6 hw'
  have hb : Below (w5.alloc (.cells #[.int .i64 s, .slice A4 n4 c4] 25)).heap.size (w5.alloc (.cells #[.int .i64 s, .slice A4 n4 c4] 25)) w6 := by obtain ⟨p, rfl⟩ := hw'; exact below_regrown _ _ _
  clear hw' qk0 qk1 qx0 qx1 qf0 qf1 k0 k1 x0 x1 f0 f1 lK lX lF
  replace T1 := Lib.hid (T1.out.below hb (Nat.le_refl _))
  replace T2 := Lib.hid (T2.out.below hb (Nat.le_refl _))
  replace T3 := Lib.hid (T3.out.below hb (Nat.le_refl _))
  replace T4 := Lib.hid (T4.out.below hb (Nat.le_refl _))
  replace X := Lib.hid (X.out.on hb)
  replace F := Lib.hid (F.out.on hb)
  replace G := Lib.hid (G.out.on hb)
  replace K := Lib.hid (K.out.on hb)
  replace B1 := Lib.hid (B1.out.trans (hb.mono B1.out.size))
  clear hb
  go_wp2_with (fail)
  go_ret
  exact ⟨ret_bool (by first | rfl | (simp; done) | (simp; omega)), B1.out⟩
end Go.Proofs.Ytleoncjdhlomaaa
