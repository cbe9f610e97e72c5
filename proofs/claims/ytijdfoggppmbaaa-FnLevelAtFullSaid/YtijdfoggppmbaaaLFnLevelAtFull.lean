/-
  The walk of FnLevelAtFull. (Its words were written by a program of my own.)
-/
import Derived.Test.YtijdfoggppmbaaaDrawBkT
import Derived.Test.YtijdfoggppmbaaaBkP
import Derived.Test.YtijdfoggppmbaaaBkN
import Derived.Deep.RegionHeld3
import Derived.Deep.DeepMust
import Derived.Deep.DeepCutAuto
namespace Go.Proofs.Ytijdfoggppmbaaa
open Go.RowKit
-- CALL: W s0
set_option maxHeartbeats 1600000 in
theorem walk_FnLevelAtFull {A : Option Addr} {n c : Nat} {zs : List Int} (w : World) (h : BS w A n c zs) :
    Calls Try.prog 10 #[.slice A n c] w fun e w' => e = .returned (.bool true) ∧ Below w.heap.size w w' := by
  have H := Lib.hid h
  clear h
  rcases Nat.lt_or_ge 1048576 n with h1 | h1
  · have h1' : (1048576 : Int) < (n : Int) := by omega
    go_enter Try.func10, Try.ntmps10
    go_wp2_with (fail)
    go_ret
    exact ⟨rfl, Below.refl _ _⟩
  have h1' : ¬ (1048576 : Int) < (n : Int) := by omega
  go_enter Try.func10, Try.ntmps10
  go_wp2_with (fail)
  refine (spec_DrawLevelAt_any w H.out h1).mono ?_
  rintro e w1 ⟨s, p, l, t, u, rfl, ⟨hs0, hs1⟩, ⟨hp0, hp1⟩, ⟨hl0, hl1⟩, ⟨ht0, ht1⟩, ⟨hu0, hu1⟩, hb⟩
  have B1 := Lib.hid hb
  have hz1 := B1.out.size
  clear hb 
  replace B1 := Lib.hid (B1.out.alloc B1.out.size (.cells #[.int .i64 s, .int .i64 p, .int .i64 l, .int .i64 t] 24))
  have Q := Lib.hid (Blk.new w1 24 #[.int .i64 s, .int .i64 p, .int .i64 l, .int .i64 t])
  obtain ⟨v, hv⟩ : ∃ v, lvV s p l t u = v := ⟨_, rfl⟩
  have hvb := lvV_bd s p l t u
  rw [hv] at hvb
  have HV := Lib.hid hv
  clear hv
  have hw1 : IntKind.i64.wrap (u + 1) = u + 1 := by rw [IntKind.wrap_i64]; omega
  have hw2 : IntKind.i64.wrap (v + p) = v + p := by rw [IntKind.wrap_i64]; omega
  have hw3 : IntKind.i64.wrap (t + u) = t + u := by rw [IntKind.wrap_i64]; omega
  have hw4 : IntKind.i64.wrap (t + s) = t + s := by rw [IntKind.wrap_i64]; omega
  by_cases h0 : v < 0
  · skip
    obtain ⟨q0, q1, q2, q3⟩ := Q.out.c4
    go_wp2_with (fail)
    refine (call_int (impl_LevelAt_any _ _ _ _ _ _) HV.out).mono ?_
    clear q0 q1 q2 q3
    rintro e w2 ⟨rfl, hb⟩
    replace Q := Lib.hid (Q.out.on hb)
    replace B1 := Lib.hid (B1.out.trans (hb.mono B1.out.size))
    clear hb
    obtain ⟨q0, q1, q2, q3⟩ := Q.out.c4
    go_wp2_with (fail)
    refine (call_int (spec_LevelAt_any _ _ _ _ _ _) HV.out).mono ?_
    clear q0 q1 q2 q3
    rintro e w3 ⟨rfl, hb⟩
    replace Q := Lib.hid (Q.out.on hb)
    replace B1 := Lib.hid (B1.out.trans (hb.mono B1.out.size))
    clear hb
    obtain ⟨q0, q1, q2, q3⟩ := Q.out.c4
    go_wp2_with (fail)
    refine (call_int (spec_LevelAt_any _ _ _ _ _ _) HV.out).mono ?_
    clear q0 q1 q2 q3
    rintro e w4 ⟨rfl, hb⟩
    replace Q := Lib.hid (Q.out.on hb)
    replace B1 := Lib.hid (B1.out.trans (hb.mono B1.out.size))
    clear hb
    go_wp2_with (fail)
    go_ret
    exact ⟨ret_bool (by first | rfl | (simp; done) | (simp; omega)), B1.out⟩
  have h0n : ¬ v < 0 := h0
  clear h0
  by_cases hm : 1000 < t + s
  · skip
    obtain ⟨q0, q1, q2, q3⟩ := Q.out.c4
    go_wp2_with (fail)
    refine (call_int (impl_LevelAt_any _ _ _ _ _ _) HV.out).mono ?_
    clear q0 q1 q2 q3
    rintro e w2 ⟨rfl, hb⟩
    replace Q := Lib.hid (Q.out.on hb)
    replace B1 := Lib.hid (B1.out.trans (hb.mono B1.out.size))
    clear hb
    obtain ⟨q0, q1, q2, q3⟩ := Q.out.c4
    go_wp2_with (fail)
    refine (call_int (spec_LevelAt_any _ _ _ _ _ _) HV.out).mono ?_
    clear q0 q1 q2 q3
    rintro e w3 ⟨rfl, hb⟩
    replace Q := Lib.hid (Q.out.on hb)
    replace B1 := Lib.hid (B1.out.trans (hb.mono B1.out.size))
    clear hb
    obtain ⟨q0, q1, q2, q3⟩ := Q.out.c4
    go_wp2_with (fail)
    refine (call_int (spec_LevelAt_any _ _ _ _ _ _) HV.out).mono ?_
    clear q0 q1 q2 q3
    rintro e w4 ⟨rfl, hb⟩
    replace Q := Lib.hid (Q.out.on hb)
    replace B1 := Lib.hid (B1.out.trans (hb.mono B1.out.size))
    clear hb
    go_wp2_with (fail)
    go_ret
    exact ⟨ret_bool (by first | rfl | (simp; done) | (simp; omega)), B1.out⟩
  have hm' : ¬ 1000 < t + s := hm
  clear hm
  have HB : Hid (bkV s p l t = true) := Lib.hid (by
    rcases h : bkV s p l t with _ | _
    · have := HV.out; rw [lvV_b h] at this; omega
    · rfl)
  have HN : Hid (inR u t 1000 = true) := Lib.hid (by
    rcases h : inR u t 1000 with _ | _
    · have := HV.out; rw [lvV_n h] at this; omega
    · rfl)
  have hvs : v ≤ s := by have h1 := lvN_bd HB.out HN.out; have h2 := lvV_t HB.out HN.out; have h3 := HV.out; omega
  obtain ⟨q0, q1, q2, q3⟩ := Q.out.c4
  go_wp2_with (fail)
  refine (call_int (impl_LevelAt_any s p l t u _) HV.out).mono ?_
  clear q0 q1 q2 q3
  rintro e w2 ⟨rfl, hb⟩
  replace Q := Lib.hid (Q.out.on hb)
  replace B1 := Lib.hid (B1.out.trans (hb.mono B1.out.size))
  clear hb
  obtain ⟨q0, q1, q2, q3⟩ := Q.out.c4
  go_wp2_with (fail)
  refine (call_int (spec_LevelAt_any s p l t u _) HV.out).mono ?_
  clear q0 q1 q2 q3
  rintro e w3 ⟨rfl, hb⟩
  replace Q := Lib.hid (Q.out.on hb)
  replace B1 := Lib.hid (B1.out.trans (hb.mono B1.out.size))
  clear hb
  have HM := Lib.hid (lv_full HB.out (by omega)).2
  obtain ⟨q0, q1, q2, q3⟩ := Q.out.c4
  go_wp2_with (fail)
  go_region_held3 (fun w' => w'.cell? ⟨w1.heap.size, 0, none⟩ = some (.int .i64 s) ∧ w'.cell? ⟨w1.heap.size, 1, none⟩ = some (.int .i64 p) ∧ w'.cell? ⟨w1.heap.size, 2, none⟩ = some (.int .i64 l) ∧ w'.cell? ⟨w1.heap.size, 3, none⟩ = some (.int .i64 t))
    (refine And.intro ?_ (And.intro ?_ (And.intro ?_ ?_)) <;> ((first | with_reducible refine cell_up (w := w3) ?_ q0 | with_reducible refine cell_up (w := w3) ?_ q1 | with_reducible refine cell_up (w := w3) ?_ q2 | with_reducible refine cell_up (w := w3) ?_ q3); (repeat' (first | with_reducible exact HW0.out | with_reducible exact Below.refl _ _ | with_reducible refine Below.drew ?_ | with_reducible refine Below.alloc ?_ (by first | omega | (simp; done) | (simp; omega)) _))))
    (first | (go_at_call 15; (with_reducible refine (call_int (impl_LevelAt_any s p l t (t + s) _) HM.out).mono ?_); rintro e v0 ⟨rfl, hb⟩; have HW0 : Hid (Below w3.heap.size w3 v0) := Lib.hid (by first | exact (Below.refl w3.heap.size w3).trans (hb.mono (Below.size (Below.refl w3.heap.size w3))) | exact (Below.drew (Below.refl w3.heap.size w3)).trans (hb.mono (Below.size (Below.drew (Below.refl w3.heap.size w3))))); clear hb))
  all_goals clear q0 q1 q2 q3
  all_goals (
    go_wp2_with (fail)
    go_ret
    exact ⟨ret_bool (by first | rfl | (simp; done) | (simp; omega)), by first | exact B1.out.trans (HW0.out.mono B1.out.size) | exact (B1.out.trans (HW0.out.mono B1.out.size)).drew | exact below_drewN (B1.out.trans (HW0.out.mono B1.out.size)) _⟩)
end Go.Proofs.Ytijdfoggppmbaaa
