/-
  The walk of FnCompactArena. (Its words were written by a program of my own.)
-/
import Derived.Test.YtleoncjdhlomaaaDrawA
import Derived.Test.YtleoncjdhlomaaaArY
import Derived.Test.YtleoncjdhlomaaaArR
import Derived.Test.YtleoncjdhlomaaaArC
import Derived.Test.YtleoncjdhlomaaaArD
import Derived.Test.YtleoncjdhlomaaaArN
import Derived.Test.YtleoncjdhlomaaaArE
import Derived.Test.YtleoncjdhlomaaaArU
import Derived.Test.YtleoncjdhlomaaaArL
import Derived.Deep.RegionHeld3
import Derived.Deep.DrawnRows
import Derived.Deep.QuietTactic
import Derived.Lib.QuietBelow
import Derived.BigQuiet
import Derived.Deep.DeepMust
import Derived.Deep.DeepCutAuto
namespace Go.Proofs.Ytleoncjdhlomaaa
open Go.RowKit
-- CALL: W s0
set_option maxRecDepth 100000 in
set_option maxHeartbeats 1600000 in
theorem walk_FnCompactArena {A : Option Addr} {n c : Nat} {zs : List Int} (w : World) (h : BS w A n c zs) :
    Calls Try.prog 7 #[.slice A n c] w fun e w' => e = .returned (.bool true) ∧ Below w.heap.size w w' := by
  have H := Lib.hid h
  clear h
  rcases Nat.lt_or_ge 1048576 n with h1 | h1
  · have h1' : (1048576 : Int) < (n : Int) := by omega
    go_enter Try.func7, Try.ntmps7
    go_wp2_with (fail)
    go_ret
    exact ⟨rfl, Below.refl _ _⟩
  have h1' : ¬ (1048576 : Int) < (n : Int) := by omega
  go_enter Try.func7, Try.ntmps7
  go_wp2_with (fail)
  refine (spec_DrawCompactArena_any w H.out h1).mono ?_
  rintro e w1 ⟨s, xs, A1, n1, c1, rfl, hn1, ht, hb⟩
  have T1 := Lib.hid ht
  have B1 := Lib.hid hb
  have hz1 := B1.out.size
  clear hb ht
  replace T1 := Lib.hid (T1.out.alloc (.cells #[.int .i64 s, .slice A1 n1 c1] 25))
  replace B1 := Lib.hid (B1.out.alloc B1.out.size (.cells #[.int .i64 s, .slice A1 n1 c1] 25))
  have X := Lib.hid (Blk.new w1 25 #[.int .i64 s, .slice A1 n1 c1])
  have HXL := Lib.hid T1.out.len
  rcases hk : validA s xs with _ | _
  · skip
    have HK := Lib.hid hk
    clear hk
    obtain ⟨x0, x1⟩ := X.out.c2
    go_wp2_with (fail)
    refine (ar_none (impl_CompactArena_any s _ T1.out) HK.out cm_no).mono ?_
    clear x0 x1
    rintro e w2 ⟨A2, n2, c2, rfl, ho, hb⟩
    have hl2 := ho.len
    have hb7 := hb
    replace T1 := Lib.hid (T1.out.below hb7 (Nat.le_refl _))
    replace X := Lib.hid (X.out.on hb7)
    replace B1 := Lib.hid (B1.out.trans (hb7.mono B1.out.size))
    have T2 := Lib.hid ho.ts
    clear ho hb hb7
    replace T1 := Lib.hid (T1.out.alloc (.cells #[.int .i64 0, .slice A2 n2 c2] 25))
    replace T2 := Lib.hid (T2.out.alloc (.cells #[.int .i64 0, .slice A2 n2 c2] 25))
    replace X := Lib.hid (X.out.alloc (.cells #[.int .i64 0, .slice A2 n2 c2] 25))
    replace B1 := Lib.hid (B1.out.alloc B1.out.size (.cells #[.int .i64 0, .slice A2 n2 c2] 25))
    have F := Lib.hid (Blk.new w2 25 #[.int .i64 0, .slice A2 n2 c2])
    obtain ⟨x0, x1⟩ := X.out.c2
    go_wp2_with (fail)
    refine (ar_none (spec_CompactArena_any s _ T1.out) HK.out cm_no).mono ?_
    clear x0 x1
    rintro e w3 ⟨A3, n3, c3, rfl, ho, hb⟩
    have hl3 := ho.len
    have hb7 := hb
    replace T1 := Lib.hid (T1.out.below hb7 (Nat.le_refl _))
    replace T2 := Lib.hid (T2.out.below hb7 (Nat.le_refl _))
    replace X := Lib.hid (X.out.on hb7)
    replace F := Lib.hid (F.out.on hb7)
    replace B1 := Lib.hid (B1.out.trans (hb7.mono B1.out.size))
    have T3 := Lib.hid ho.ts
    clear ho hb hb7
    replace T1 := Lib.hid (T1.out.alloc (.cells #[.int .i64 0, .slice A3 n3 c3] 25))
    replace T2 := Lib.hid (T2.out.alloc (.cells #[.int .i64 0, .slice A3 n3 c3] 25))
    replace T3 := Lib.hid (T3.out.alloc (.cells #[.int .i64 0, .slice A3 n3 c3] 25))
    replace X := Lib.hid (X.out.alloc (.cells #[.int .i64 0, .slice A3 n3 c3] 25))
    replace F := Lib.hid (F.out.alloc (.cells #[.int .i64 0, .slice A3 n3 c3] 25))
    replace B1 := Lib.hid (B1.out.alloc B1.out.size (.cells #[.int .i64 0, .slice A3 n3 c3] 25))
    have G := Lib.hid (Blk.new w3 25 #[.int .i64 0, .slice A3 n3 c3])
    obtain ⟨f0, f1⟩ := F.out.c2
    obtain ⟨g0, g1⟩ := G.out.c2
    go_wp2_with (fail)
    refine (laws_equalArena_same 0 _ T2.out T3.out).mono ?_
    clear f0 f1 g0 g1
    rintro e w4 ⟨rfl, hb⟩
    replace T1 := Lib.hid (T1.out.below hb (Nat.le_refl _))
    replace T2 := Lib.hid (T2.out.below hb (Nat.le_refl _))
    replace T3 := Lib.hid (T3.out.below hb (Nat.le_refl _))
    replace X := Lib.hid (X.out.on hb)
    replace F := Lib.hid (F.out.on hb)
    replace G := Lib.hid (G.out.on hb)
    replace B1 := Lib.hid (B1.out.trans (hb.mono B1.out.size))
    clear hb
    obtain ⟨f0, f1⟩ := F.out.c2
    obtain ⟨g0, g1⟩ := G.out.c2
    go_wp2_with (fail)
    refine (laws_equalArena_same 0 _ T2.out T3.out).mono ?_
    clear f0 f1 g0 g1
    rintro e w5 ⟨rfl, hb⟩
    replace T1 := Lib.hid (T1.out.below hb (Nat.le_refl _))
    replace T2 := Lib.hid (T2.out.below hb (Nat.le_refl _))
    replace T3 := Lib.hid (T3.out.below hb (Nat.le_refl _))
    replace X := Lib.hid (X.out.on hb)
    replace F := Lib.hid (F.out.on hb)
    replace G := Lib.hid (G.out.on hb)
    replace B1 := Lib.hid (B1.out.trans (hb.mono B1.out.size))
    clear hb
    go_wp2_with (fail)
    go_ret
    exact ⟨ret_bool (rfl), B1.out⟩
  have HK := Lib.hid hk
  clear hk
  obtain ⟨t1, t2, t3, t4, t5, t6, t7⟩ := cmp_facts HK.out
  have HV := Lib.hid t1
  obtain ⟨u, hu⟩ : ∃ v, usedA s xs = v := ⟨_, rfl⟩
  rw [hu] at t2 t3 t6 t7
  have HU := Lib.hid hu
  have HU2 := Lib.hid t3
  have HG2 := Lib.hid t2
  have hs := (validA_iff.1 HK.out).1
  have hwu : IntKind.i64.wrap (s - u) = s - u := by rw [IntKind.wrap_i64]; omega
  clear t1 t2 t3 t4 t5 hu
  obtain ⟨x0, x1⟩ := X.out.c2
  go_wp2_with (fail)
  refine (ar_at (impl_CompactArena_any s _ T1.out) (cm_yes HK.out).1 (cm_yes HK.out).2 HK.out).mono ?_
  clear x0 x1
  rintro e w2 ⟨A2, n2, c2, rfl, ho, hb⟩
  have hl2 := ho.len
  have hb7 := hb
  replace T1 := Lib.hid (T1.out.below hb7 (Nat.le_refl _))
  replace X := Lib.hid (X.out.on hb7)
  replace B1 := Lib.hid (B1.out.trans (hb7.mono B1.out.size))
  have T2 := Lib.hid ho.ts
  clear ho hb hb7
  replace T1 := Lib.hid (T1.out.alloc (.cells #[.int .i64 s, .slice A2 n2 c2] 25))
  replace T2 := Lib.hid (T2.out.alloc (.cells #[.int .i64 s, .slice A2 n2 c2] 25))
  replace X := Lib.hid (X.out.alloc (.cells #[.int .i64 s, .slice A2 n2 c2] 25))
  replace B1 := Lib.hid (B1.out.alloc B1.out.size (.cells #[.int .i64 s, .slice A2 n2 c2] 25))
  have F := Lib.hid (Blk.new w2 25 #[.int .i64 s, .slice A2 n2 c2])
  obtain ⟨x0, x1⟩ := X.out.c2
  go_wp2_with (fail)
  refine (ar_at (spec_CompactArena_any s _ T1.out) (cm_yes HK.out).1 (cm_yes HK.out).2 HK.out).mono ?_
  clear x0 x1
  rintro e w3 ⟨A3, n3, c3, rfl, ho, hb⟩
  have hl3 := ho.len
  have hb7 := hb
  replace T1 := Lib.hid (T1.out.below hb7 (Nat.le_refl _))
  replace T2 := Lib.hid (T2.out.below hb7 (Nat.le_refl _))
  replace X := Lib.hid (X.out.on hb7)
  replace F := Lib.hid (F.out.on hb7)
  replace B1 := Lib.hid (B1.out.trans (hb7.mono B1.out.size))
  have T3 := Lib.hid ho.ts
  clear ho hb hb7
  replace T1 := Lib.hid (T1.out.alloc (.cells #[.int .i64 s, .slice A3 n3 c3] 25))
  replace T2 := Lib.hid (T2.out.alloc (.cells #[.int .i64 s, .slice A3 n3 c3] 25))
  replace T3 := Lib.hid (T3.out.alloc (.cells #[.int .i64 s, .slice A3 n3 c3] 25))
  replace X := Lib.hid (X.out.alloc (.cells #[.int .i64 s, .slice A3 n3 c3] 25))
  replace F := Lib.hid (F.out.alloc (.cells #[.int .i64 s, .slice A3 n3 c3] 25))
  replace B1 := Lib.hid (B1.out.alloc B1.out.size (.cells #[.int .i64 s, .slice A3 n3 c3] 25))
  have G := Lib.hid (Blk.new w3 25 #[.int .i64 s, .slice A3 n3 c3])
  obtain ⟨f0, f1⟩ := F.out.c2
  obtain ⟨g0, g1⟩ := G.out.c2
  go_wp2_with (fail)
  refine (laws_equalArena_same s _ T2.out T3.out).mono ?_
  clear f0 f1 g0 g1
  rintro e w4 ⟨rfl, hb⟩
  replace T1 := Lib.hid (T1.out.below hb (Nat.le_refl _))
  replace T2 := Lib.hid (T2.out.below hb (Nat.le_refl _))
  replace T3 := Lib.hid (T3.out.below hb (Nat.le_refl _))
  replace X := Lib.hid (X.out.on hb)
  replace F := Lib.hid (F.out.on hb)
  replace G := Lib.hid (G.out.on hb)
  replace B1 := Lib.hid (B1.out.trans (hb.mono B1.out.size))
  clear hb
  have HN : Hid (n2 = n1) := Lib.hid (by have h1 := T2.out.len; rw [cmpL_len] at h1; have h2 := HXL.out; omega)
  obtain ⟨x0, x1⟩ := X.out.c2
  obtain ⟨f0, f1⟩ := F.out.c2
  go_wp2_with (fail)
  go_loopw [8] (fun i wq => ∃ (j mm : Nat), j ≤ n1 ∧ i = .int .i64 (j : Int) ∧ wq = w4.drewN mm) (fun i _ => n1 - (intOf i).toNat)
  case atStart => exact ⟨0, 0, Nat.zero_le _, rfl, rfl⟩
  case round =>
    obtain ⟨j, mm, hj, rfl, rfl⟩ := hrel
    by_cases hlt : j < n1
    · have hlt' : (j : Int) < (n1 : Int) := by omega
      have zk : (0 : Int) ≤ (j : Int) := by omega
      have hlt2 : j < n2 := by have := HN.out; omega
      have hge : decide (n2 ≤ j) = false := by simp; omega
      have hge2 : ¬ (j : Int) ≥ (n2 : Int) := by omega
      have hge3 : (j : Int) < (n2 : Int) := by omega
      obtain ⟨b, off, x, rfl, hx, ca, cb, cc⟩ := T1.out.at_ hlt
      obtain ⟨b2, off2, y, rfl, hy, da, db, dc⟩ := T2.out.at_ hlt2
      obtain ⟨y', hy', ea, ec, eb⟩ := cmp_get HK.out hx
      obtain rfl : y = y' := by rw [hy] at hy'; injection hy'
      have e1 : (y.a != x.a) = false := by simp [ea]
      have e2 : (y.c != x.c) = false := by simp [ec]
      have e3 : decide (x.b < y.b) = false := by simp; omega
      have e4 : decide (y.b > x.b) = false := by simp; omega
      clear hx hy hy' ea ec
      go_wp2_with (fail)
      go_quiet (fail)
      go_wp2_with (fail)
      go_roundw
      case rel => exact ⟨j + 1, _, by omega, by first | rfl | go_num, rfl⟩
      case measure => simp [intOf]; omega
    · have hlt' : ¬ (j : Int) < (n1 : Int) := by omega
      clear x0 x1 f0 f1
      obtain ⟨w5, ew5⟩ : ∃ v : World, v = w4.drewN mm := ⟨_, rfl⟩
      replace T1 := Lib.hid (show TS w5 A1 n1 c1 xs by rw [ew5]; exact T1.out.drewN mm)
      replace T2 := Lib.hid (show TS w5 A2 n2 c2 (cmpL xs) by rw [ew5]; exact T2.out.drewN mm)
      replace T3 := Lib.hid (show TS w5 A3 n3 c3 (cmpL xs) by rw [ew5]; exact T3.out.drewN mm)
      replace X := Lib.hid (show Blk w5 (w1.heap.size) 25 #[.int .i64 s, .slice A1 n1 c1] by rw [ew5]; exact X.out)
      replace F := Lib.hid (show Blk w5 (w2.heap.size) 25 #[.int .i64 s, .slice A2 n2 c2] by rw [ew5]; exact F.out)
      replace G := Lib.hid (show Blk w5 (w3.heap.size) 25 #[.int .i64 s, .slice A3 n3 c3] by rw [ew5]; exact G.out)
      replace B1 := Lib.hid (show Below w.heap.size w w5 by rw [ew5]; exact below_drewN B1.out mm)
      rw [← ew5]
      clear ew5
      have hnn : ((n2 : Int) == (n1 : Int)) = true := by have := HN.out; simp; omega
      have hsu : (s - u == s - u) = true := by simp
      have huu : (u == u) = true := by simp
      have C1 := Lib.hid (fun (d : Nat) (os : Array Obj) => call_int (impl_LargestGap_any s (Go.Sort.grow (redrawn w5 d) os) (T2.out.regrown d os)) HG2.out)
      have C2 := Lib.hid (fun (d : Nat) (os : Array Obj) => call_int (impl_UsedPlaces_any s (Go.Sort.grow (redrawn w5 d) os) (T1.out.regrown d os)) HU.out)
      have C3 := Lib.hid (fun (d : Nat) (os : Array Obj) => call_int (impl_UsedPlaces_any s (Go.Sort.grow (redrawn w5 d) os) (T2.out.regrown d os)) HU2.out)
      have C4 := Lib.hid (fun (d : Nat) (os : Array Obj) => call_b (impl_ValidArena_any s (Go.Sort.grow (redrawn w5 d) os) (T2.out.regrown d os)) HV.out)
      obtain ⟨x0, x1⟩ := X.out.c2
      obtain ⟨f0, f1⟩ := F.out.c2
      have qx0 := fun d os => cell_regrown x0 d os
      have qx1 := fun d os => cell_regrown x1 d os
      have qf0 := fun d os => cell_regrown f0 d os
      have qf1 := fun d os => cell_regrown f1 d os
      have lX := X.out.lt
      have lF := F.out.lt
      go_wp2_with (fail)
      refine wp_region_quiet_below (by kernel_rfl) (by kernel_rfl) ?_
      repeat (first | go_big_quiet_step ((first | (go_at_call 23; with_reducible exact Calls.regrown_of (C1.out _ _)) | (go_at_call 22; with_reducible exact Calls.regrown_of (C2.out _ _)) | (go_at_call 22; with_reducible exact Calls.regrown_of (C3.out _ _)) | (go_at_call 15; with_reducible exact Calls.regrown_of (C4.out _ _)))) | quiet_step ((first | (go_at_call 23; with_reducible exact Calls.regrown_of (C1.out _ _)) | (go_at_call 22; with_reducible exact Calls.regrown_of (C2.out _ _)) | (go_at_call 22; with_reducible exact Calls.regrown_of (C3.out _ _)) | (go_at_call 15; with_reducible exact Calls.regrown_of (C4.out _ _)))))
      refine wpQuiet_nil ?_
      intro w6 hw'
      have hb : Below w5.heap.size w5 w6 := by obtain ⟨p, rfl⟩ := hw'; exact below_regrown _ _ _
      clear hw' qx0 qx1 qf0 qf1 x0 x1 f0 f1 lX lF
      replace T1 := Lib.hid (T1.out.below hb (Nat.le_refl _))
      replace T2 := Lib.hid (T2.out.below hb (Nat.le_refl _))
      replace T3 := Lib.hid (T3.out.below hb (Nat.le_refl _))
      replace X := Lib.hid (X.out.on hb)
      replace F := Lib.hid (F.out.on hb)
      replace G := Lib.hid (G.out.on hb)
      replace B1 := Lib.hid (B1.out.trans (hb.mono B1.out.size))
      clear hb
      go_wp2_with (fail)
      go_ret
      exact ⟨ret_bool (by first | rfl | (simp; done) | (simp; omega)), B1.out⟩
end Go.Proofs.Ytleoncjdhlomaaa
