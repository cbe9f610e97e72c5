/-
  The walk of FnValidArenaSize. (Its words were written by a program of my own.)
-/
import Derived.Test.YtleoncjdhlomaaaDrawA
import Derived.Test.YtleoncjdhlomaaaArY
import Derived.Test.YtleoncjdhlomaaaArR
import Derived.Test.YtleoncjdhlomaaaArC
import Derived.Test.YtleoncjdhlomaaaArD
import Derived.Test.YtleoncjdhlomaaaArN
import Derived.Test.YtleoncjdhlomaaaArE
import Derived.Test.YtleoncjdhlomaaaArU
import Derived.Test.YtleoncjdhlomaaaArL
import Derived.Deep.RegionHeld3
import Derived.Deep.DrawnRows
import Derived.Lib.QuietBelow
import Derived.BigQuiet
import Derived.Deep.DeepMust
import Derived.Deep.DeepCutAuto
namespace Go.Proofs.Ytleoncjdhlomaaa
open Go.RowKit
-- CALL: W s0
set_option maxHeartbeats 1600000 in
theorem walk_FnValidArenaSize {A : Option Addr} {n c : Nat} {zs : List Int} (w : World) (h : BS w A n c zs) :
    Calls Try.prog 9 #[.slice A n c] w fun e w' => e = .returned (.bool true) ∧ Below w.heap.size w w' := by
  have H := Lib.hid h
  clear h
  rcases Nat.lt_or_ge 1048576 n with h1 | h1
  · have h1' : (1048576 : Int) < (n : Int) := by omega
    go_enter Try.func9, Try.ntmps9
    go_wp2_with (fail)
    go_ret
    exact ⟨rfl, Below.refl _ _⟩
  have h1' : ¬ (1048576 : Int) < (n : Int) := by omega
  go_enter Try.func9, Try.ntmps9
  go_wp2_with (fail)
  refine (spec_DrawValidArena_any w H.out h1).mono ?_
  rintro e w1 ⟨s, xs, A1, n1, c1, rfl, hn1, ht, hb⟩
  have T1 := Lib.hid ht
  have B1 := Lib.hid hb
  have hz1 := B1.out.size
  clear hb ht
  replace T1 := Lib.hid (T1.out.alloc (.cells #[.int .i64 s, .slice A1 n1 c1] 25))
  replace B1 := Lib.hid (B1.out.alloc B1.out.size (.cells #[.int .i64 s, .slice A1 n1 c1] 25))
  have X := Lib.hid (Blk.new w1 25 #[.int .i64 s, .slice A1 n1 c1])
  have HXL := Lib.hid T1.out.len
  rcases hk : validA s xs with _ | _
  · skip
    obtain ⟨x0, x1⟩ := X.out.c2
    go_wp2_with (fail)
    refine (call_b (impl_ValidArena_any s _ T1.out) hk).mono ?_
    clear x0 x1
    rintro e w2 ⟨rfl, hb⟩
    replace T1 := Lib.hid (T1.out.below hb (Nat.le_refl _))
    replace X := Lib.hid (X.out.on hb)
    replace B1 := Lib.hid (B1.out.trans (hb.mono B1.out.size))
    clear hb
    obtain ⟨x0, x1⟩ := X.out.c2
    go_wp2_with (fail)
    refine (call_b (spec_ValidArena_any s _ T1.out) hk).mono ?_
    clear x0 x1
    rintro e w3 ⟨rfl, hb⟩
    replace T1 := Lib.hid (T1.out.below hb (Nat.le_refl _))
    replace X := Lib.hid (X.out.on hb)
    replace B1 := Lib.hid (B1.out.trans (hb.mono B1.out.size))
    clear hb
    obtain ⟨x0, x1⟩ := X.out.c2
    go_wp2_with (fail)
    refine (call_b (spec_ValidArena_any s _ T1.out) hk).mono ?_
    clear x0 x1
    rintro e w4 ⟨rfl, hb⟩
    replace T1 := Lib.hid (T1.out.below hb (Nat.le_refl _))
    replace X := Lib.hid (X.out.on hb)
    replace B1 := Lib.hid (B1.out.trans (hb.mono B1.out.size))
    clear hb
    go_wp2_with (fail)
    go_ret
    exact ⟨ret_bool (by first | rfl | (simp; done) | (simp; omega)), B1.out⟩
  have HK := Lib.hid hk
  have HV := Lib.hid (show validA 64 xs = true from valid_size hk (validA_iff.1 hk).1.2 (Int.le_refl _))
  have HW := Lib.hid (valid_big (xs := xs))
  clear hk
  obtain ⟨x0, x1⟩ := X.out.c2
  go_wp2_with (fail)
  refine (call_b (impl_ValidArena_any s _ T1.out) HK.out).mono ?_
  clear x0 x1
  rintro e w2 ⟨rfl, hb⟩
  replace T1 := Lib.hid (T1.out.below hb (Nat.le_refl _))
  replace X := Lib.hid (X.out.on hb)
  replace B1 := Lib.hid (B1.out.trans (hb.mono B1.out.size))
  clear hb
  obtain ⟨x0, x1⟩ := X.out.c2
  go_wp2_with (fail)
  refine (call_b (spec_ValidArena_any s _ T1.out) HK.out).mono ?_
  clear x0 x1
  rintro e w3 ⟨rfl, hb⟩
  replace T1 := Lib.hid (T1.out.below hb (Nat.le_refl _))
  replace X := Lib.hid (X.out.on hb)
  replace B1 := Lib.hid (B1.out.trans (hb.mono B1.out.size))
  clear hb
  obtain ⟨x0, x1⟩ := X.out.c2
  go_wp2_with (fail)
  refine (call_b (impl_ValidArena_any 64 _ T1.out) HV.out).mono ?_
  clear x0 x1
  rintro e w4 ⟨rfl, hb⟩
  replace T1 := Lib.hid (T1.out.below hb (Nat.le_refl _))
  replace X := Lib.hid (X.out.on hb)
  replace B1 := Lib.hid (B1.out.trans (hb.mono B1.out.size))
  clear hb
  obtain ⟨x0, x1⟩ := X.out.c2
  go_wp2_with (fail)
  refine (call_b (impl_ValidArena_any 65 _ T1.out) HW.out).mono ?_
  clear x0 x1
  rintro e w5 ⟨rfl, hb⟩
  replace T1 := Lib.hid (T1.out.below hb (Nat.le_refl _))
  replace X := Lib.hid (X.out.on hb)
  replace B1 := Lib.hid (B1.out.trans (hb.mono B1.out.size))
  clear hb
  go_wp2_with (fail)
  go_ret
  exact ⟨ret_bool (by first | rfl | (simp; done) | (simp; omega)), B1.out⟩
end Go.Proofs.Ytleoncjdhlomaaa
