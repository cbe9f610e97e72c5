/-
  The walk of FnReadyAtMore. (Its words were written by a program of my own.)
-/
import Derived.Test.YtijdfoggppmbaaaDrawBkT
import Derived.Test.YtijdfoggppmbaaaBkP
import Derived.Test.YtijdfoggppmbaaaBkN
import Derived.Deep.RegionHeld3
import Derived.Deep.DeepMust
import Derived.Deep.DeepCutAuto
namespace Go.Proofs.Ytijdfoggppmbaaa
open Go.RowKit
-- CALL: W s0
set_option maxHeartbeats 1600000 in
theorem walk_FnReadyAtMore {A : Option Addr} {n c : Nat} {zs : List Int} (w : World) (h : BS w A n c zs) :
    Calls Try.prog 9 #[.slice A n c] w fun e w' => e = .returned (.bool true) ∧ Below w.heap.size w w' := by
  have H := Lib.hid h
  clear h
  rcases Nat.lt_or_ge 1048576 n with h1 | h1
  · have h1' : (1048576 : Int) < (n : Int) := by omega
    go_enter Try.func9, Try.ntmps9
    go_wp2_with (fail)
    go_ret
    exact ⟨rfl, Below.refl _ _⟩
  have h1' : ¬ (1048576 : Int) < (n : Int) := by omega
  go_enter Try.func9, Try.ntmps9
  go_wp2_with (fail)
  refine (spec_DrawReadyAt_any w H.out h1).mono ?_
  rintro e w1 ⟨s, p, l, t, x, rfl, ⟨hs0, hs1⟩, ⟨hp0, hp1⟩, ⟨hl0, hl1⟩, ⟨ht0, ht1⟩, ⟨hx0, hx1⟩, hb⟩
  have B1 := Lib.hid hb
  have hz1 := B1.out.size
  clear hb 
  replace B1 := Lib.hid (B1.out.alloc B1.out.size (.cells #[.int .i64 s, .int .i64 p, .int .i64 l, .int .i64 t] 24))
  have Q := Lib.hid (Blk.new w1 24 #[.int .i64 s, .int .i64 p, .int .i64 l, .int .i64 t])
  obtain ⟨v, hv⟩ : ∃ v, rdV s p l t x = v := ⟨_, rfl⟩
  have HV := Lib.hid hv
  clear hv
  by_cases h0 : v < 0
  · skip
    obtain ⟨q0, q1, q2, q3⟩ := Q.out.c4
    go_wp2_with (fail)
    refine (call_int (impl_ReadyAt_any _ _ _ _ _ _) HV.out).mono ?_
    clear q0 q1 q2 q3
    rintro e w2 ⟨rfl, hb⟩
    replace Q := Lib.hid (Q.out.on hb)
    replace B1 := Lib.hid (B1.out.trans (hb.mono B1.out.size))
    clear hb
    obtain ⟨q0, q1, q2, q3⟩ := Q.out.c4
    go_wp2_with (fail)
    refine (call_int (spec_ReadyAt_any _ _ _ _ _ _) HV.out).mono ?_
    clear q0 q1 q2 q3
    rintro e w3 ⟨rfl, hb⟩
    replace Q := Lib.hid (Q.out.on hb)
    replace B1 := Lib.hid (B1.out.trans (hb.mono B1.out.size))
    clear hb
    obtain ⟨q0, q1, q2, q3⟩ := Q.out.c4
    go_wp2_with (fail)
    refine (call_int (spec_ReadyAt_any _ _ _ _ _ _) HV.out).mono ?_
    clear q0 q1 q2 q3
    rintro e w4 ⟨rfl, hb⟩
    replace Q := Lib.hid (Q.out.on hb)
    replace B1 := Lib.hid (B1.out.trans (hb.mono B1.out.size))
    clear hb
    go_wp2_with (fail)
    go_ret
    exact ⟨ret_bool (by first | rfl | (simp; done) | (simp; omega)), B1.out⟩
  have h0n : ¬ v < 0 := h0
  clear h0
  by_cases hm : x = s
  · skip
    subst hm
    obtain ⟨q0, q1, q2, q3⟩ := Q.out.c4
    go_wp2_with (fail)
    refine (call_int (impl_ReadyAt_any _ _ _ _ _ _) HV.out).mono ?_
    clear q0 q1 q2 q3
    rintro e w2 ⟨rfl, hb⟩
    replace Q := Lib.hid (Q.out.on hb)
    replace B1 := Lib.hid (B1.out.trans (hb.mono B1.out.size))
    clear hb
    obtain ⟨q0, q1, q2, q3⟩ := Q.out.c4
    go_wp2_with (fail)
    refine (call_int (spec_ReadyAt_any _ _ _ _ _ _) HV.out).mono ?_
    clear q0 q1 q2 q3
    rintro e w3 ⟨rfl, hb⟩
    replace Q := Lib.hid (Q.out.on hb)
    replace B1 := Lib.hid (B1.out.trans (hb.mono B1.out.size))
    clear hb
    obtain ⟨q0, q1, q2, q3⟩ := Q.out.c4
    go_wp2_with (fail)
    refine (call_int (spec_ReadyAt_any _ _ _ _ _ _) HV.out).mono ?_
    clear q0 q1 q2 q3
    rintro e w4 ⟨rfl, hb⟩
    replace Q := Lib.hid (Q.out.on hb)
    replace B1 := Lib.hid (B1.out.trans (hb.mono B1.out.size))
    clear hb
    go_wp2_with (fail)
    go_ret
    exact ⟨ret_bool (by first | rfl | (simp; done) | (simp; omega)), B1.out⟩
  have hm' : (x == s) = false := by simp [hm]
  have hm0 := Lib.hid hm
  clear hm
  have HB : Hid (bkV s p l t = true) := Lib.hid (by
    rcases h : bkV s p l t with _ | _
    · have := HV.out; simp [rdV, h] at this; omega
    · rfl)
  have HX : Hid (inR x 0 s = true) := Lib.hid (by
    rcases h : inR x 0 s with _ | _
    · have := HV.out; simp [rdV, h] at this; omega
    · rfl)
  have hra := rd_at HB.out HX.out HV.out
  have HRA := Lib.hid hra.2.2
  have hra1 := hra.1
  have hra2 := hra.2.1
  clear hra
  have hw1 : IntKind.i64.wrap (x + 1) = x + 1 := by rw [IntKind.wrap_i64]; omega
  have hw2 : IntKind.i64.wrap (v - 1) = v - 1 := by rw [IntKind.wrap_i64]; omega
  obtain ⟨_, m1, m2, _, m3⟩ := rd_more HB.out HX.out hm0.out
  obtain ⟨y, hy⟩ : ∃ y, rdV s p l t (x + 1) = y := ⟨_, rfl⟩
  rw [hy] at m1 m2
  rw [HV.out] at m1
  have hge : v ≤ y := m1
  have hge' : decide (v ≤ y) = true := by simp; omega
  have HY := Lib.hid hy
  have HT := Lib.hid m3
  clear hy m1 m3
  obtain ⟨q0, q1, q2, q3⟩ := Q.out.c4
  go_wp2_with (fail)
  refine (call_int (impl_ReadyAt_any s p l t x _) HV.out).mono ?_
  clear q0 q1 q2 q3
  rintro e w2 ⟨rfl, hb⟩
  replace Q := Lib.hid (Q.out.on hb)
  replace B1 := Lib.hid (B1.out.trans (hb.mono B1.out.size))
  clear hb
  obtain ⟨q0, q1, q2, q3⟩ := Q.out.c4
  go_wp2_with (fail)
  refine (call_int (spec_ReadyAt_any s p l t x _) HV.out).mono ?_
  clear q0 q1 q2 q3
  rintro e w3 ⟨rfl, hb⟩
  replace Q := Lib.hid (Q.out.on hb)
  replace B1 := Lib.hid (B1.out.trans (hb.mono B1.out.size))
  clear hb
  obtain ⟨q0, q1, q2, q3⟩ := Q.out.c4
  go_wp2_with (fail)
  go_region_held3 (fun w' => w'.cell? ⟨w1.heap.size, 0, none⟩ = some (.int .i64 s) ∧ w'.cell? ⟨w1.heap.size, 1, none⟩ = some (.int .i64 p) ∧ w'.cell? ⟨w1.heap.size, 2, none⟩ = some (.int .i64 l) ∧ w'.cell? ⟨w1.heap.size, 3, none⟩ = some (.int .i64 t))
    (refine And.intro ?_ (And.intro ?_ (And.intro ?_ ?_)) <;> ((first | with_reducible refine cell_up (w := w3) ?_ q0 | with_reducible refine cell_up (w := w3) ?_ q1 | with_reducible refine cell_up (w := w3) ?_ q2 | with_reducible refine cell_up (w := w3) ?_ q3); (repeat' (first | with_reducible exact HW1.out | with_reducible exact HW0.out | with_reducible exact Below.refl _ _ | with_reducible refine Below.drew ?_ | with_reducible refine Below.alloc ?_ (by first | omega | (simp; done) | (simp; omega)) _))))
    (first | (go_at_call 21; (with_reducible refine (call_int (impl_ReadyAt_any s p l t (x + 1) _) HY.out).mono ?_); rintro e v0 ⟨rfl, hb⟩; have HW0 : Hid (Below w3.heap.size w3 v0) := Lib.hid (by first | exact (Below.refl w3.heap.size w3).trans (hb.mono (Below.size (Below.refl w3.heap.size w3))) | exact (Below.drew (Below.refl w3.heap.size w3)).trans (hb.mono (Below.size (Below.drew (Below.refl w3.heap.size w3))))); clear hb) | (go_at_call 21; (with_reducible refine (call_int (impl_ReadyAt_any s p l t l _) HT.out).mono ?_); rintro e v1 ⟨rfl, hb⟩; have HW1 : Hid (Below w3.heap.size w3 v1) := Lib.hid (by first | exact (HW0.out).trans (hb.mono (Below.size (HW0.out))) | exact (Below.drew (HW0.out)).trans (hb.mono (Below.size (Below.drew (HW0.out))))); clear hb))
  all_goals clear q0 q1 q2 q3
  all_goals (
    go_wp2_with (fail)
    go_ret
    exact ⟨ret_bool (by first | rfl | (simp; done) | (simp; omega)), by first | exact B1.out.trans (HW1.out.mono B1.out.size) | exact (B1.out.trans (HW1.out.mono B1.out.size)).drew | exact below_drewN (B1.out.trans (HW1.out.mono B1.out.size)) _⟩)
end Go.Proofs.Ytijdfoggppmbaaa
