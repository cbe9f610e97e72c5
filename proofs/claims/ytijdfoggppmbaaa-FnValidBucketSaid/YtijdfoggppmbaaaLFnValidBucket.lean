/-
  The walk of FnValidBucket. (Its words were written by a program of my own.)
-/
import Derived.Test.YtijdfoggppmbaaaDrawBkT
import Derived.Test.YtijdfoggppmbaaaBkP
import Derived.Test.YtijdfoggppmbaaaBkN
import Derived.Deep.RegionHeld3
import Derived.Deep.DeepMust
import Derived.Deep.DeepCutAuto
namespace Go.Proofs.Ytijdfoggppmbaaa
open Go.RowKit
-- CALL: W s0
set_option maxHeartbeats 1600000 in
theorem walk_FnValidBucket {A : Option Addr} {n c : Nat} {zs : List Int} (w : World) (h : BS w A n c zs) :
    Calls Try.prog 3 #[.slice A n c] w fun e w' => e = .returned (.bool true) ∧ Below w.heap.size w w' := by
  have H := Lib.hid h
  clear h
  rcases Nat.lt_or_ge 1048576 n with h1 | h1
  · have h1' : (1048576 : Int) < (n : Int) := by omega
    go_enter Try.func3, Try.ntmps3
    go_wp2_with (fail)
    go_ret
    exact ⟨rfl, Below.refl _ _⟩
  have h1' : ¬ (1048576 : Int) < (n : Int) := by omega
  go_enter Try.func3, Try.ntmps3
  go_wp2_with (fail)
  refine (spec_DrawValidBucket_any w H.out h1).mono ?_
  rintro e w1 ⟨s, p, l, t, rfl, ⟨hs0, hs1⟩, ⟨hp0, hp1⟩, ⟨hl0, hl1⟩, ⟨ht0, ht1⟩, hb⟩
  have B1 := Lib.hid hb
  have hz1 := B1.out.size
  clear hb 
  replace B1 := Lib.hid (B1.out.alloc B1.out.size (.cells #[.int .i64 s, .int .i64 p, .int .i64 l, .int .i64 t] 24))
  have Q := Lib.hid (Blk.new w1 24 #[.int .i64 s, .int .i64 p, .int .i64 l, .int .i64 t])
  rcases hv : bkV s p l t with _ | _
  · skip
    obtain ⟨q0, q1, q2, q3⟩ := Q.out.c4
    go_wp2_with (fail)
    refine (call_bool (impl_ValidBucket_any s p l t _) hv).mono ?_
    clear q0 q1 q2 q3
    rintro e w2 ⟨rfl, hb⟩
    replace Q := Lib.hid (Q.out.on hb)
    replace B1 := Lib.hid (B1.out.trans (hb.mono B1.out.size))
    clear hb
    obtain ⟨q0, q1, q2, q3⟩ := Q.out.c4
    go_wp2_with (fail)
    refine (call_bool (spec_ValidBucket_any s p l t _) hv).mono ?_
    clear q0 q1 q2 q3
    rintro e w3 ⟨rfl, hb⟩
    replace Q := Lib.hid (Q.out.on hb)
    replace B1 := Lib.hid (B1.out.trans (hb.mono B1.out.size))
    clear hb
    obtain ⟨q0, q1, q2, q3⟩ := Q.out.c4
    go_wp2_with (fail)
    refine (call_bool (spec_ValidBucket_any s p l t _) hv).mono ?_
    clear q0 q1 q2 q3
    rintro e w4 ⟨rfl, hb⟩
    replace Q := Lib.hid (Q.out.on hb)
    replace B1 := Lib.hid (B1.out.trans (hb.mono B1.out.size))
    clear hb
    go_wp2_with (fail)
    go_ret
    exact ⟨ret_bool (by first | rfl | (simp; done) | (simp; omega)), B1.out⟩
  have hk := bkV_in hv
  have V1 : Hid (bkV s p s t = true) := Lib.hid (bkV_of hk.1 hk.2.1 (by omega) hk.2.2.2)
  have V2 : Hid (bkV s p 0 t = true) := Lib.hid (bkV_of hk.1 hk.2.1 (by omega) hk.2.2.2)
  obtain ⟨q0, q1, q2, q3⟩ := Q.out.c4
  go_wp2_with (fail)
  refine (call_bool (impl_ValidBucket_any s p l t _) hv).mono ?_
  clear q0 q1 q2 q3
  rintro e w2 ⟨rfl, hb⟩
  replace Q := Lib.hid (Q.out.on hb)
  replace B1 := Lib.hid (B1.out.trans (hb.mono B1.out.size))
  clear hb
  obtain ⟨q0, q1, q2, q3⟩ := Q.out.c4
  go_wp2_with (fail)
  refine (call_bool (spec_ValidBucket_any s p l t _) hv).mono ?_
  clear q0 q1 q2 q3
  rintro e w3 ⟨rfl, hb⟩
  replace Q := Lib.hid (Q.out.on hb)
  replace B1 := Lib.hid (B1.out.trans (hb.mono B1.out.size))
  clear hb
  obtain ⟨q0, q1, q2, q3⟩ := Q.out.c4
  go_wp2_with (fail)
  refine (call_bool (impl_ValidBucket_any s p s t _) V1.out).mono ?_
  clear q0 q1 q2 q3
  rintro e w4 ⟨rfl, hb⟩
  replace Q := Lib.hid (Q.out.on hb)
  replace B1 := Lib.hid (B1.out.trans (hb.mono B1.out.size))
  clear hb
  obtain ⟨q0, q1, q2, q3⟩ := Q.out.c4
  go_wp2_with (fail)
  refine (call_bool (impl_ValidBucket_any s p 0 t _) V2.out).mono ?_
  clear q0 q1 q2 q3
  rintro e w5 ⟨rfl, hb⟩
  replace Q := Lib.hid (Q.out.on hb)
  replace B1 := Lib.hid (B1.out.trans (hb.mono B1.out.size))
  clear hb
  go_wp2_with (fail)
  go_ret
  exact ⟨ret_bool (by first | rfl | (simp; done) | (simp; omega)), B1.out⟩
end Go.Proofs.Ytijdfoggppmbaaa
