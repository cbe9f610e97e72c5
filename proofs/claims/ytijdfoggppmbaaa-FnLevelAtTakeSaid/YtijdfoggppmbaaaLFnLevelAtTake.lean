/-
  The walk of FnLevelAtTake. (Its words were written by a program of my own.)
-/
import Derived.Test.YtijdfoggppmbaaaDrawBkT
import Derived.Test.YtijdfoggppmbaaaBkP
import Derived.Test.YtijdfoggppmbaaaBkN
import Derived.Deep.RegionHeld3
import Derived.Deep.DeepMust
import Derived.Deep.DeepCutAuto
namespace Go.Proofs.Ytijdfoggppmbaaa
open Go.RowKit
-- CALL: W s0
set_option maxHeartbeats 1600000 in
theorem walk_FnLevelAtTake {A : Option Addr} {n c : Nat} {zs : List Int} (w : World) (h : BS w A n c zs) :
    Calls Try.prog 5 #[.slice A n c] w fun e w' => e = .returned (.bool true) ∧ Below w.heap.size w w' := by
  have H := Lib.hid h
  clear h
  rcases Nat.lt_or_ge 1048576 n with h1 | h1
  · have h1' : (1048576 : Int) < (n : Int) := by omega
    go_enter Try.func5, Try.ntmps5
    go_wp2_with (fail)
    go_ret
    exact ⟨rfl, Below.refl _ _⟩
  have h1' : ¬ (1048576 : Int) < (n : Int) := by omega
  go_enter Try.func5, Try.ntmps5
  go_wp2_with (fail)
  refine (spec_DrawLevelAt_any w H.out h1).mono ?_
  rintro e w1 ⟨s, p, l, t, u, rfl, ⟨hs0, hs1⟩, ⟨hp0, hp1⟩, ⟨hl0, hl1⟩, ⟨ht0, ht1⟩, ⟨hu0, hu1⟩, hb⟩
  have B1 := Lib.hid hb
  have hz1 := B1.out.size
  clear hb 
  replace B1 := Lib.hid (B1.out.alloc B1.out.size (.cells #[.int .i64 s, .int .i64 p, .int .i64 l, .int .i64 t] 24))
  have Q := Lib.hid (Blk.new w1 24 #[.int .i64 s, .int .i64 p, .int .i64 l, .int .i64 t])
  obtain ⟨v, hv⟩ : ∃ v, lvV s p l t u = v := ⟨_, rfl⟩
  have hvb := lvV_bd s p l t u
  rw [hv] at hvb
  have HV := Lib.hid hv
  clear hv
  have hw1 : IntKind.i64.wrap (u + 1) = u + 1 := by rw [IntKind.wrap_i64]; omega
  have hw2 : IntKind.i64.wrap (v + p) = v + p := by rw [IntKind.wrap_i64]; omega
  have hw3 : IntKind.i64.wrap (t + u) = t + u := by rw [IntKind.wrap_i64]; omega
  have hw4 : IntKind.i64.wrap (t + s) = t + s := by rw [IntKind.wrap_i64]; omega
  by_cases h0 : v < 0
  · skip
    obtain ⟨q0, q1, q2, q3⟩ := Q.out.c4
    go_wp2_with (fail)
    refine (call_int (impl_LevelAt_any _ _ _ _ _ _) HV.out).mono ?_
    clear q0 q1 q2 q3
    rintro e w2 ⟨rfl, hb⟩
    replace Q := Lib.hid (Q.out.on hb)
    replace B1 := Lib.hid (B1.out.trans (hb.mono B1.out.size))
    clear hb
    obtain ⟨q0, q1, q2, q3⟩ := Q.out.c4
    go_wp2_with (fail)
    refine (call_int (spec_LevelAt_any _ _ _ _ _ _) HV.out).mono ?_
    clear q0 q1 q2 q3
    rintro e w3 ⟨rfl, hb⟩
    replace Q := Lib.hid (Q.out.on hb)
    replace B1 := Lib.hid (B1.out.trans (hb.mono B1.out.size))
    clear hb
    obtain ⟨q0, q1, q2, q3⟩ := Q.out.c4
    go_wp2_with (fail)
    refine (call_int (spec_LevelAt_any _ _ _ _ _ _) HV.out).mono ?_
    clear q0 q1 q2 q3
    rintro e w4 ⟨rfl, hb⟩
    replace Q := Lib.hid (Q.out.on hb)
    replace B1 := Lib.hid (B1.out.trans (hb.mono B1.out.size))
    clear hb
    go_wp2_with (fail)
    go_ret
    exact ⟨ret_bool (by first | rfl | (simp; done) | (simp; omega)), B1.out⟩
  have h0n : ¬ v < 0 := h0
  clear h0
  have HB : Hid (bkV s p l t = true) := Lib.hid (by
    rcases h : bkV s p l t with _ | _
    · have := HV.out; rw [lvV_b h] at this; omega
    · rfl)
  have HN : Hid (inR u t 1000 = true) := Lib.hid (by
    rcases h : inR u t 1000 with _ | _
    · have := HV.out; rw [lvV_n h] at this; omega
    · rfl)
  have hvs : v ≤ s := by have h1 := lvN_bd HB.out HN.out; have h2 := lvV_t HB.out HN.out; have h3 := HV.out; omega
  obtain ⟨q0, q1, q2, q3⟩ := Q.out.c4
  go_wp2_with (fail)
  refine (call_int (impl_LevelAt_any s p l t u _) HV.out).mono ?_
  clear q0 q1 q2 q3
  rintro e w2 ⟨rfl, hb⟩
  replace Q := Lib.hid (Q.out.on hb)
  replace B1 := Lib.hid (B1.out.trans (hb.mono B1.out.size))
  clear hb
  obtain ⟨q0, q1, q2, q3⟩ := Q.out.c4
  go_wp2_with (fail)
  refine (call_int (spec_LevelAt_any s p l t u _) HV.out).mono ?_
  clear q0 q1 q2 q3
  rintro e w3 ⟨rfl, hb⟩
  replace Q := Lib.hid (Q.out.on hb)
  replace B1 := Lib.hid (B1.out.trans (hb.mono B1.out.size))
  clear hb
  obtain ⟨m, hm⟩ : ∃ m, (t + u).tdiv 2 = m := ⟨_, rfl⟩
  obtain ⟨k1, k2⟩ := lv_take HB.out HN.out HV.out hm.symm
  have hmb : -1010 ≤ m ∧ m ≤ 3010 := by
    have hb := bkV_in HB.out
    have hn := inR_iff.1 HN.out
    have := tdiv_bd (a := t + u) (b := 2) (m := 3003) (by omega) (by omega) (by omega)
    omega
  have hw5 : IntKind.i64.wrap m = m := by rw [IntKind.wrap_i64]; omega
  obtain ⟨y, hy⟩ : ∃ y, lvV s p l t m - 0 = y := ⟨_, rfl⟩
  rw [hy] at k2
  have HK := Lib.hid k1
  have HY := Lib.hid hy
  have HE := Lib.hid k2
  clear k1 hy k2
  obtain ⟨q0, q1, q2, q3⟩ := Q.out.c4
  go_wp2_with (fail)
  refine (tk_yes (impl_TakeFrom_any s p l t 0 m _) HK.out HY.out).mono ?_
  clear q0 q1 q2 q3
  rintro e w4 ⟨rfl, hb⟩
  replace Q := Lib.hid (Q.out.on hb)
  replace B1 := Lib.hid (B1.out.trans (hb.mono B1.out.size))
  clear hb
  replace Q := Lib.hid (Q.out.alloc (.cells #[.int .i64 s, .int .i64 p, .int .i64 y, .int .i64 m] 24))
  replace B1 := Lib.hid (B1.out.alloc B1.out.size (.cells #[.int .i64 s, .int .i64 p, .int .i64 y, .int .i64 m] 24))
  have M := Lib.hid (Blk.new w4 24 #[.int .i64 s, .int .i64 p, .int .i64 y, .int .i64 m])
  obtain ⟨m0, m1, m2, m3⟩ := M.out.c4
  go_wp2_with (fail)
  refine (call_int (impl_LevelAt_any s p y m u _) HE.out).mono ?_
  clear m0 m1 m2 m3
  rintro e w5 ⟨rfl, hb⟩
  replace Q := Lib.hid (Q.out.on hb)
  replace M := Lib.hid (M.out.on hb)
  replace B1 := Lib.hid (B1.out.trans (hb.mono B1.out.size))
  clear hb
  go_wp2_with (fail)
  go_ret
  exact ⟨ret_bool (by first | rfl | (simp; done) | (simp; omega)), B1.out⟩
end Go.Proofs.Ytijdfoggppmbaaa
