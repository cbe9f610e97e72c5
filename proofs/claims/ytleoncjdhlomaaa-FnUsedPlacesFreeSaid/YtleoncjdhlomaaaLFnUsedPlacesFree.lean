/-
  The walk of FnUsedPlacesFree. (Its words were written by a program of my own.)
-/
import Derived.Test.YtleoncjdhlomaaaDrawA
import Derived.Test.YtleoncjdhlomaaaArY
import Derived.Test.YtleoncjdhlomaaaArR
import Derived.Test.YtleoncjdhlomaaaArC
import Derived.Test.YtleoncjdhlomaaaArD
import Derived.Test.YtleoncjdhlomaaaArN
import Derived.Test.YtleoncjdhlomaaaArE
import Derived.Test.YtleoncjdhlomaaaArU
import Derived.Test.YtleoncjdhlomaaaArL
import Derived.Deep.RegionHeld3
import Derived.Deep.DrawnRows
import Derived.Lib.QuietBelow
import Derived.BigQuiet
import Derived.Deep.DeepMust
import Derived.Deep.DeepCutAuto
namespace Go.Proofs.Ytleoncjdhlomaaa
open Go.RowKit
-- CALL: W s0
set_option maxHeartbeats 1600000 in
theorem walk_FnUsedPlacesFree {A : Option Addr} {n c : Nat} {zs : List Int} (w : World) (h : BS w A n c zs) :
    Calls Try.prog 12 #[.slice A n c] w fun e w' => e = .returned (.bool true) ∧ Below w.heap.size w w' := by
  have H := Lib.hid h
  clear h
  rcases Nat.lt_or_ge 1048576 n with h1 | h1
  · have h1' : (1048576 : Int) < (n : Int) := by omega
    go_enter Try.func12, Try.ntmps12
    go_wp2_with (fail)
    go_ret
    exact ⟨rfl, Below.refl _ _⟩
  have h1' : ¬ (1048576 : Int) < (n : Int) := by omega
  go_enter Try.func12, Try.ntmps12
  go_wp2_with (fail)
  refine (spec_DrawUsedPlaces_any w H.out h1).mono ?_
  rintro e w1 ⟨s, xs, A1, n1, c1, rfl, hn1, ht, hb⟩
  have T1 := Lib.hid ht
  have B1 := Lib.hid hb
  have hz1 := B1.out.size
  clear hb ht
  replace T1 := Lib.hid (T1.out.alloc (.cells #[.int .i64 s, .slice A1 n1 c1] 25))
  replace B1 := Lib.hid (B1.out.alloc B1.out.size (.cells #[.int .i64 s, .slice A1 n1 c1] 25))
  have X := Lib.hid (Blk.new w1 25 #[.int .i64 s, .slice A1 n1 c1])
  have HXL := Lib.hid T1.out.len
  rcases hk : validA s xs with _ | _
  · have hu : usedA s xs = -1 := by simp [usedA, hk]
    obtain ⟨x0, x1⟩ := X.out.c2
    go_wp2_with (fail)
    refine (call_int (impl_UsedPlaces_any s _ T1.out) hu).mono ?_
    clear x0 x1
    rintro e w2 ⟨rfl, hb⟩
    replace T1 := Lib.hid (T1.out.below hb (Nat.le_refl _))
    replace X := Lib.hid (X.out.on hb)
    replace B1 := Lib.hid (B1.out.trans (hb.mono B1.out.size))
    clear hb
    obtain ⟨x0, x1⟩ := X.out.c2
    go_wp2_with (fail)
    refine (call_int (spec_UsedPlaces_any s _ T1.out) hu).mono ?_
    clear x0 x1
    rintro e w3 ⟨rfl, hb⟩
    replace T1 := Lib.hid (T1.out.below hb (Nat.le_refl _))
    replace X := Lib.hid (X.out.on hb)
    replace B1 := Lib.hid (B1.out.trans (hb.mono B1.out.size))
    clear hb
    obtain ⟨x0, x1⟩ := X.out.c2
    go_wp2_with (fail)
    refine (call_int (spec_UsedPlaces_any s _ T1.out) hu).mono ?_
    clear x0 x1
    rintro e w4 ⟨rfl, hb⟩
    replace T1 := Lib.hid (T1.out.below hb (Nat.le_refl _))
    replace X := Lib.hid (X.out.on hb)
    replace B1 := Lib.hid (B1.out.trans (hb.mono B1.out.size))
    clear hb
    go_wp2_with (fail)
    go_ret
    exact ⟨ret_bool (by first | rfl | (simp; done) | (simp; omega)), B1.out⟩
  obtain ⟨u, hu⟩ : ∃ v, usedA s xs = v := ⟨_, rfl⟩
  have hub := used_bd hk
  have huz := used_zero hk
  rw [hu] at hub huz
  have HU := Lib.hid hu
  obtain ⟨z1, z2⟩ := used_none (s := s) ⟨by omega, by omega⟩
  have HZ1 := Lib.hid z1
  have HZ2 := Lib.hid z2
  have hun : ¬ u < 0 := by omega
  have hun2 : decide (u < 0) = false := by simpa using hun
  have huu : (u != u) = false := by simp
  have hss : (s == s) = true := by simp
  have hen : ((u == 0) == ((n1 : Int) == 0)) = true := by
    have h2 := HXL.out
    by_cases h3 : u = 0
    · have : n1 = 0 := by omega
      simp [h3, this]
    · have e1 : (u == 0) = false := by simpa using h3
      have e2 : ((n1 : Int) == 0) = false := by simp; omega
      rw [e1, e2]; rfl
  clear hk hu z1 z2 huz
  obtain ⟨x0, x1⟩ := X.out.c2
  go_wp2_with (fail)
  refine (call_int (impl_UsedPlaces_any s _ T1.out) HU.out).mono ?_
  clear x0 x1
  rintro e w2 ⟨rfl, hb⟩
  replace T1 := Lib.hid (T1.out.below hb (Nat.le_refl _))
  replace X := Lib.hid (X.out.on hb)
  replace B1 := Lib.hid (B1.out.trans (hb.mono B1.out.size))
  clear hb
  obtain ⟨x0, x1⟩ := X.out.c2
  go_wp2_with (fail)
  refine (call_int (spec_UsedPlaces_any s _ T1.out) HU.out).mono ?_
  clear x0 x1
  rintro e w3 ⟨rfl, hb⟩
  replace T1 := Lib.hid (T1.out.below hb (Nat.le_refl _))
  replace X := Lib.hid (X.out.on hb)
  replace B1 := Lib.hid (B1.out.trans (hb.mono B1.out.size))
  clear hb
  obtain ⟨x0, x1⟩ := X.out.c2
  go_upto_region 8 with (fail)
  clear x0 x1
  replace T1 := Lib.hid (T1.out.alloc (.cells #[.int .i64 s, .slice none 0 0] 25))
  replace X := Lib.hid (X.out.alloc (.cells #[.int .i64 s, .slice none 0 0] 25))
  replace B1 := Lib.hid (B1.out.alloc B1.out.size (.cells #[.int .i64 s, .slice none 0 0] 25))
  have F := Lib.hid (Blk.new w3 25 #[.int .i64 s, .slice none 0 0])
  have T2 := Lib.hid (TS.nil (w3.alloc (.cells #[.int .i64 s, .slice none 0 0] 25)))
  have C2 := Lib.hid (fun (d : Nat) (os : Array Obj) => call_int (impl_UsedPlaces_any s (Go.Sort.grow (redrawn (w3.alloc (.cells #[.int .i64 s, .slice none 0 0] 25)) d) os) (T2.out.regrown d os)) HZ1.out)
  have C3 := Lib.hid (fun (d : Nat) (os : Array Obj) => call_int (impl_LargestGap_any s (Go.Sort.grow (redrawn (w3.alloc (.cells #[.int .i64 s, .slice none 0 0] 25)) d) os) (T2.out.regrown d os)) HZ2.out)
  obtain ⟨x0, x1⟩ := X.out.c2
  obtain ⟨f0, f1⟩ := F.out.c2
  have qx0 := fun d os => cell_regrown x0 d os
  have qx1 := fun d os => cell_regrown x1 d os
  have qf0 := fun d os => cell_regrown f0 d os
  have qf1 := fun d os => cell_regrown f1 d os
  have lX := X.out.lt
  have lF := F.out.lt
  go_wp2_with (fail)
  refine wp_region_quiet_below (by kernel_rfl) (by kernel_rfl) ?_
  repeat (first | go_big_quiet_step ((first | (go_at_call 22; with_reducible exact Calls.regrown_of (C2.out _ _)) | (go_at_call 23; with_reducible exact Calls.regrown_of (C3.out _ _)))) | quiet_step ((first | (go_at_call 22; with_reducible exact Calls.regrown_of (C2.out _ _)) | (go_at_call 23; with_reducible exact Calls.regrown_of (C3.out _ _)))))
  refine wpQuiet_nil ?_
  intro w4 hw'
  have hb : Below (w3.alloc (.cells #[.int .i64 s, .slice none 0 0] 25)).heap.size (w3.alloc (.cells #[.int .i64 s, .slice none 0 0] 25)) w4 := by obtain ⟨p, rfl⟩ := hw'; exact below_regrown _ _ _
  clear hw' qx0 qx1 qf0 qf1 x0 x1 f0 f1 lX lF
  replace T1 := Lib.hid (T1.out.below hb (Nat.le_refl _))
  replace T2 := Lib.hid (T2.out.below hb (Nat.le_refl _))
  replace X := Lib.hid (X.out.on hb)
  replace F := Lib.hid (F.out.on hb)
  replace B1 := Lib.hid (B1.out.trans (hb.mono B1.out.size))
  clear hb
  go_wp2_with (fail)
  go_ret
  exact ⟨ret_bool (by first | rfl | (simp; done) | (simp; omega)), B1.out⟩
end Go.Proofs.Ytleoncjdhlomaaa
