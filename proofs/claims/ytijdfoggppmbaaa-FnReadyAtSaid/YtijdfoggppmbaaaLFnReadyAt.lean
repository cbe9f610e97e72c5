/-
  The walk of FnReadyAt. (Its words were written by a program of my own.)
-/
import Derived.Test.YtijdfoggppmbaaaDrawBkT
import Derived.Test.YtijdfoggppmbaaaBkP
import Derived.Test.YtijdfoggppmbaaaBkN
import Derived.Deep.RegionHeld3
import Derived.Deep.DeepMust
import Derived.Deep.DeepCutAuto
namespace Go.Proofs.Ytijdfoggppmbaaa
open Go.RowKit
-- CALL: W s0
set_option maxHeartbeats 1600000 in
theorem walk_FnReadyAt {A : Option Addr} {n c : Nat} {zs : List Int} (w : World) (h : BS w A n c zs) :
    Calls Try.prog 8 #[.slice A n c] w fun e w' => e = .returned (.bool true) ∧ Below w.heap.size w w' := by
  have H := Lib.hid h
  clear h
  rcases Nat.lt_or_ge 1048576 n with h1 | h1
  · have h1' : (1048576 : Int) < (n : Int) := by omega
    go_enter Try.func8, Try.ntmps8
    go_wp2_with (fail)
    go_ret
    exact ⟨rfl, Below.refl _ _⟩
  have h1' : ¬ (1048576 : Int) < (n : Int) := by omega
  go_enter Try.func8, Try.ntmps8
  go_wp2_with (fail)
  refine (spec_DrawReadyAt_any w H.out h1).mono ?_
  rintro e w1 ⟨s, p, l, t, x, rfl, ⟨hs0, hs1⟩, ⟨hp0, hp1⟩, ⟨hl0, hl1⟩, ⟨ht0, ht1⟩, ⟨hx0, hx1⟩, hb⟩
  have B1 := Lib.hid hb
  have hz1 := B1.out.size
  clear hb 
  replace B1 := Lib.hid (B1.out.alloc B1.out.size (.cells #[.int .i64 s, .int .i64 p, .int .i64 l, .int .i64 t] 24))
  have Q := Lib.hid (Blk.new w1 24 #[.int .i64 s, .int .i64 p, .int .i64 l, .int .i64 t])
  obtain ⟨v, hv⟩ : ∃ v, rdV s p l t x = v := ⟨_, rfl⟩
  have HV := Lib.hid hv
  clear hv
  by_cases h0 : v < 0
  · skip
    obtain ⟨q0, q1, q2, q3⟩ := Q.out.c4
    go_wp2_with (fail)
    refine (call_int (impl_ReadyAt_any _ _ _ _ _ _) HV.out).mono ?_
    clear q0 q1 q2 q3
    rintro e w2 ⟨rfl, hb⟩
    replace Q := Lib.hid (Q.out.on hb)
    replace B1 := Lib.hid (B1.out.trans (hb.mono B1.out.size))
    clear hb
    obtain ⟨q0, q1, q2, q3⟩ := Q.out.c4
    go_wp2_with (fail)
    refine (call_int (spec_ReadyAt_any _ _ _ _ _ _) HV.out).mono ?_
    clear q0 q1 q2 q3
    rintro e w3 ⟨rfl, hb⟩
    replace Q := Lib.hid (Q.out.on hb)
    replace B1 := Lib.hid (B1.out.trans (hb.mono B1.out.size))
    clear hb
    obtain ⟨q0, q1, q2, q3⟩ := Q.out.c4
    go_wp2_with (fail)
    refine (call_int (spec_ReadyAt_any _ _ _ _ _ _) HV.out).mono ?_
    clear q0 q1 q2 q3
    rintro e w4 ⟨rfl, hb⟩
    replace Q := Lib.hid (Q.out.on hb)
    replace B1 := Lib.hid (B1.out.trans (hb.mono B1.out.size))
    clear hb
    go_wp2_with (fail)
    go_ret
    exact ⟨ret_bool (by first | rfl | (simp; done) | (simp; omega)), B1.out⟩
  have h0n : ¬ v < 0 := h0
  clear h0
  by_cases hm : 1000 < v
  · skip
    obtain ⟨q0, q1, q2, q3⟩ := Q.out.c4
    go_wp2_with (fail)
    refine (call_int (impl_ReadyAt_any _ _ _ _ _ _) HV.out).mono ?_
    clear q0 q1 q2 q3
    rintro e w2 ⟨rfl, hb⟩
    replace Q := Lib.hid (Q.out.on hb)
    replace B1 := Lib.hid (B1.out.trans (hb.mono B1.out.size))
    clear hb
    obtain ⟨q0, q1, q2, q3⟩ := Q.out.c4
    go_wp2_with (fail)
    refine (call_int (spec_ReadyAt_any _ _ _ _ _ _) HV.out).mono ?_
    clear q0 q1 q2 q3
    rintro e w3 ⟨rfl, hb⟩
    replace Q := Lib.hid (Q.out.on hb)
    replace B1 := Lib.hid (B1.out.trans (hb.mono B1.out.size))
    clear hb
    obtain ⟨q0, q1, q2, q3⟩ := Q.out.c4
    go_wp2_with (fail)
    refine (call_int (spec_ReadyAt_any _ _ _ _ _ _) HV.out).mono ?_
    clear q0 q1 q2 q3
    rintro e w4 ⟨rfl, hb⟩
    replace Q := Lib.hid (Q.out.on hb)
    replace B1 := Lib.hid (B1.out.trans (hb.mono B1.out.size))
    clear hb
    go_wp2_with (fail)
    go_ret
    exact ⟨ret_bool (by first | rfl | (simp; done) | (simp; omega)), B1.out⟩
  have hm' : ¬ 1000 < v := hm
  clear hm
  have HB : Hid (bkV s p l t = true) := Lib.hid (by
    rcases h : bkV s p l t with _ | _
    · have := HV.out; simp [rdV, h] at this; omega
    · rfl)
  have HX : Hid (inR x 0 s = true) := Lib.hid (by
    rcases h : inR x 0 s with _ | _
    · have := HV.out; simp [rdV, h] at this; omega
    · rfl)
  have hra := rd_at HB.out HX.out HV.out
  have HRA := Lib.hid hra.2.2
  have hra1 := hra.1
  have hra2 := hra.2.1
  clear hra
  have hw1 : IntKind.i64.wrap (x + 1) = x + 1 := by rw [IntKind.wrap_i64]; omega
  have hw2 : IntKind.i64.wrap (v - 1) = v - 1 := by rw [IntKind.wrap_i64]; omega
  obtain ⟨y, hy⟩ : ∃ y, lvV s p l t v = y := ⟨_, rfl⟩
  have hxy : x ≤ y := by have := (HRA.out (by omega)).2.1; omega
  have HY := Lib.hid hy
  clear hy
  by_cases hvt : v = t
  · skip
    have hvt' : (v == t) = true := by simp [hvt]
    clear hvt
    obtain ⟨q0, q1, q2, q3⟩ := Q.out.c4
    go_wp2_with (fail)
    refine (call_int (impl_ReadyAt_any s p l t x _) HV.out).mono ?_
    clear q0 q1 q2 q3
    rintro e w2 ⟨rfl, hb⟩
    replace Q := Lib.hid (Q.out.on hb)
    replace B1 := Lib.hid (B1.out.trans (hb.mono B1.out.size))
    clear hb
    obtain ⟨q0, q1, q2, q3⟩ := Q.out.c4
    go_wp2_with (fail)
    refine (call_int (spec_ReadyAt_any s p l t x _) HV.out).mono ?_
    clear q0 q1 q2 q3
    rintro e w3 ⟨rfl, hb⟩
    replace Q := Lib.hid (Q.out.on hb)
    replace B1 := Lib.hid (B1.out.trans (hb.mono B1.out.size))
    clear hb
    obtain ⟨q0, q1, q2, q3⟩ := Q.out.c4
    go_wp2_with (fail)
    refine (call_int (impl_LevelAt_any s p l t v _) HY.out).mono ?_
    clear q0 q1 q2 q3
    rintro e w4 ⟨rfl, hb⟩
    replace Q := Lib.hid (Q.out.on hb)
    replace B1 := Lib.hid (B1.out.trans (hb.mono B1.out.size))
    clear hb
    obtain ⟨q0, q1, q2, q3⟩ := Q.out.c4
    go_wp2_with (fail)
    go_ret
    exact ⟨ret_bool (by first | rfl | (simp; done) | (simp; omega)), B1.out⟩
  have hvt' : (v == t) = false := by simp [hvt]
  obtain ⟨z, hz⟩ : ∃ z, lvV s p l t (v - 1) = z := ⟨_, rfl⟩
  have hzx : z < x := by have := ((HRA.out (by omega)).2.2 hvt).2; omega
  have HZ := Lib.hid hz
  clear hz hvt
  obtain ⟨q0, q1, q2, q3⟩ := Q.out.c4
  go_wp2_with (fail)
  refine (call_int (impl_ReadyAt_any s p l t x _) HV.out).mono ?_
  clear q0 q1 q2 q3
  rintro e w2 ⟨rfl, hb⟩
  replace Q := Lib.hid (Q.out.on hb)
  replace B1 := Lib.hid (B1.out.trans (hb.mono B1.out.size))
  clear hb
  obtain ⟨q0, q1, q2, q3⟩ := Q.out.c4
  go_wp2_with (fail)
  refine (call_int (spec_ReadyAt_any s p l t x _) HV.out).mono ?_
  clear q0 q1 q2 q3
  rintro e w3 ⟨rfl, hb⟩
  replace Q := Lib.hid (Q.out.on hb)
  replace B1 := Lib.hid (B1.out.trans (hb.mono B1.out.size))
  clear hb
  obtain ⟨q0, q1, q2, q3⟩ := Q.out.c4
  go_wp2_with (fail)
  refine (call_int (impl_LevelAt_any s p l t v _) HY.out).mono ?_
  clear q0 q1 q2 q3
  rintro e w4 ⟨rfl, hb⟩
  replace Q := Lib.hid (Q.out.on hb)
  replace B1 := Lib.hid (B1.out.trans (hb.mono B1.out.size))
  clear hb
  obtain ⟨q0, q1, q2, q3⟩ := Q.out.c4
  go_wp2_with (fail)
  refine (call_int (impl_LevelAt_any s p l t (v - 1) _) HZ.out).mono ?_
  clear q0 q1 q2 q3
  rintro e w5 ⟨rfl, hb⟩
  replace Q := Lib.hid (Q.out.on hb)
  replace B1 := Lib.hid (B1.out.trans (hb.mono B1.out.size))
  clear hb
  go_wp2_with (fail)
  go_ret
  exact ⟨ret_bool (by first | rfl | (simp; done) | (simp; omega)), B1.out⟩
end Go.Proofs.Ytijdfoggppmbaaa
