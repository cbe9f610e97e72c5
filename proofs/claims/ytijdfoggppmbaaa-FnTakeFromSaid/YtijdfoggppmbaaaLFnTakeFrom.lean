/-
  The walk of FnTakeFrom. (Its words were written by a program of my own.)
-/
import Derived.Test.YtijdfoggppmbaaaDrawBkT
import Derived.Test.YtijdfoggppmbaaaBkP
import Derived.Test.YtijdfoggppmbaaaBkN
import Derived.Deep.RegionHeld3
import Derived.Deep.DeepMust
import Derived.Deep.DeepCutAuto
namespace Go.Proofs.Ytijdfoggppmbaaa
open Go.RowKit
-- CALL: W s0
set_option maxHeartbeats 1600000 in
theorem walk_FnTakeFrom {A : Option Addr} {n c : Nat} {zs : List Int} (w : World) (h : BS w A n c zs) :
    Calls Try.prog 6 #[.slice A n c] w fun e w' => e = .returned (.bool true) ∧ Below w.heap.size w w' := by
  have H := Lib.hid h
  clear h
  rcases Nat.lt_or_ge 1048576 n with h1 | h1
  · have h1' : (1048576 : Int) < (n : Int) := by omega
    go_enter Try.func6, Try.ntmps6
    go_wp2_with (fail)
    go_ret
    exact ⟨rfl, Below.refl _ _⟩
  have h1' : ¬ (1048576 : Int) < (n : Int) := by omega
  go_enter Try.func6, Try.ntmps6
  go_wp2_with (fail)
  refine (spec_DrawTakeFrom_any w H.out h1).mono ?_
  rintro e w1 ⟨s, p, l, t, x, u, rfl, ⟨hs0, hs1⟩, ⟨hp0, hp1⟩, ⟨hl0, hl1⟩, ⟨ht0, ht1⟩, ⟨hx0, hx1⟩, ⟨hu0, hu1⟩, hb⟩
  have B1 := Lib.hid hb
  have hz1 := B1.out.size
  clear hb 
  replace B1 := Lib.hid (B1.out.alloc B1.out.size (.cells #[.int .i64 s, .int .i64 p, .int .i64 l, .int .i64 t] 24))
  have Q := Lib.hid (Blk.new w1 24 #[.int .i64 s, .int .i64 p, .int .i64 l, .int .i64 t])
  rcases ho : tkOK s p l t x u with _ | _
  · skip
    have HO := Lib.hid ho
    clear ho
    obtain ⟨q0, q1, q2, q3⟩ := Q.out.c4
    go_wp2_with (fail)
    refine (tk_no (impl_TakeFrom_any s p l t x u _) HO.out).mono ?_
    clear q0 q1 q2 q3
    rintro e w2 ⟨rfl, hb⟩
    replace Q := Lib.hid (Q.out.on hb)
    replace B1 := Lib.hid (B1.out.trans (hb.mono B1.out.size))
    clear hb
    replace Q := Lib.hid (Q.out.alloc (.cells #[.int .i64 0, .int .i64 0, .int .i64 0, .int .i64 0] 24))
    replace B1 := Lib.hid (B1.out.alloc B1.out.size (.cells #[.int .i64 0, .int .i64 0, .int .i64 0, .int .i64 0] 24))
    have F := Lib.hid (Blk.new w2 24 #[.int .i64 0, .int .i64 0, .int .i64 0, .int .i64 0])
    obtain ⟨q0, q1, q2, q3⟩ := Q.out.c4
    go_wp2_with (fail)
    refine (tk_no (spec_TakeFrom_any s p l t x u _) HO.out).mono ?_
    clear q0 q1 q2 q3
    rintro e w3 ⟨rfl, hb⟩
    replace Q := Lib.hid (Q.out.on hb)
    replace F := Lib.hid (F.out.on hb)
    replace B1 := Lib.hid (B1.out.trans (hb.mono B1.out.size))
    clear hb
    replace Q := Lib.hid (Q.out.alloc (.cells #[.int .i64 0, .int .i64 0, .int .i64 0, .int .i64 0] 24))
    replace F := Lib.hid (F.out.alloc (.cells #[.int .i64 0, .int .i64 0, .int .i64 0, .int .i64 0] 24))
    replace B1 := Lib.hid (B1.out.alloc B1.out.size (.cells #[.int .i64 0, .int .i64 0, .int .i64 0, .int .i64 0] 24))
    have G := Lib.hid (Blk.new w3 24 #[.int .i64 0, .int .i64 0, .int .i64 0, .int .i64 0])
    obtain ⟨f0, f1, f2, f3⟩ := F.out.c4
    go_wp2_with (fail)
    go_ret
    exact ⟨ret_bool (by first | rfl | (simp; done) | (simp; omega)), B1.out⟩
  have HO := Lib.hid ho
  have HI := Lib.hid (tkOK_in ho)
  obtain ⟨v, hv⟩ : ∃ v, lvV s p l t u = v := ⟨_, rfl⟩
  have hvb := lvV_bd s p l t u
  obtain ⟨y, hy⟩ : ∃ y, lvV s p l t u - x = y := ⟨_, rfl⟩
  have hyv : v - x = y := by rw [← hv, hy]
  rw [hv] at hvb
  have hw1 : IntKind.i64.wrap (v - x) = y := by rw [IntKind.wrap_i64]; omega
  have HB2 : Hid (bkV s p y u = true) := Lib.hid (by rw [← hy]; exact tk_next ho)
  have HL2 : Hid (lvV s p y u u = y) := Lib.hid (lv_last HB2.out)
  have HV := Lib.hid hv
  have HY := Lib.hid hy
  clear ho hv hy hyv
  obtain ⟨q0, q1, q2, q3⟩ := Q.out.c4
  go_wp2_with (fail)
  refine (tk_yes (impl_TakeFrom_any s p l t x u _) HO.out HY.out).mono ?_
  clear q0 q1 q2 q3
  rintro e w2 ⟨rfl, hb⟩
  replace Q := Lib.hid (Q.out.on hb)
  replace B1 := Lib.hid (B1.out.trans (hb.mono B1.out.size))
  clear hb
  replace Q := Lib.hid (Q.out.alloc (.cells #[.int .i64 s, .int .i64 p, .int .i64 y, .int .i64 u] 24))
  replace B1 := Lib.hid (B1.out.alloc B1.out.size (.cells #[.int .i64 s, .int .i64 p, .int .i64 y, .int .i64 u] 24))
  have F := Lib.hid (Blk.new w2 24 #[.int .i64 s, .int .i64 p, .int .i64 y, .int .i64 u])
  obtain ⟨q0, q1, q2, q3⟩ := Q.out.c4
  go_wp2_with (fail)
  refine (tk_yes (spec_TakeFrom_any s p l t x u _) HO.out HY.out).mono ?_
  clear q0 q1 q2 q3
  rintro e w3 ⟨rfl, hb⟩
  replace Q := Lib.hid (Q.out.on hb)
  replace F := Lib.hid (F.out.on hb)
  replace B1 := Lib.hid (B1.out.trans (hb.mono B1.out.size))
  clear hb
  replace Q := Lib.hid (Q.out.alloc (.cells #[.int .i64 s, .int .i64 p, .int .i64 y, .int .i64 u] 24))
  replace F := Lib.hid (F.out.alloc (.cells #[.int .i64 s, .int .i64 p, .int .i64 y, .int .i64 u] 24))
  replace B1 := Lib.hid (B1.out.alloc B1.out.size (.cells #[.int .i64 s, .int .i64 p, .int .i64 y, .int .i64 u] 24))
  have G := Lib.hid (Blk.new w3 24 #[.int .i64 s, .int .i64 p, .int .i64 y, .int .i64 u])
  obtain ⟨W, eW⟩ : ∃ z : World, z = (w3.alloc (.cells #[.int .i64 s, .int .i64 p, .int .i64 y, .int .i64 u] 24)) := ⟨_, rfl⟩
  obtain ⟨f0, f1, f2, f3⟩ := F.out.c4
  go_wp2_with (fail)
  clear f0 f1 f2 f3
  rw [← eW] at Q F G B1 ⊢
  clear eW
  obtain ⟨q0, q1, q2, q3⟩ := Q.out.c4
  obtain ⟨f0, f1, f2, f3⟩ := F.out.c4
  go_region_held3 (fun w' => w'.cell? ⟨w1.heap.size, 0, none⟩ = some (.int .i64 s) ∧ w'.cell? ⟨w1.heap.size, 1, none⟩ = some (.int .i64 p) ∧ w'.cell? ⟨w1.heap.size, 2, none⟩ = some (.int .i64 l) ∧ w'.cell? ⟨w1.heap.size, 3, none⟩ = some (.int .i64 t) ∧ w'.cell? ⟨w2.heap.size, 0, none⟩ = some (.int .i64 s) ∧ w'.cell? ⟨w2.heap.size, 1, none⟩ = some (.int .i64 p) ∧ w'.cell? ⟨w2.heap.size, 2, none⟩ = some (.int .i64 y) ∧ w'.cell? ⟨w2.heap.size, 3, none⟩ = some (.int .i64 u))
    (refine And.intro ?_ (And.intro ?_ (And.intro ?_ (And.intro ?_ (And.intro ?_ (And.intro ?_ (And.intro ?_ ?_)))))) <;> ((first | with_reducible refine cell_up (w := W) ?_ q0 | with_reducible refine cell_up (w := W) ?_ q1 | with_reducible refine cell_up (w := W) ?_ q2 | with_reducible refine cell_up (w := W) ?_ q3 | with_reducible refine cell_up (w := W) ?_ f0 | with_reducible refine cell_up (w := W) ?_ f1 | with_reducible refine cell_up (w := W) ?_ f2 | with_reducible refine cell_up (w := W) ?_ f3); (repeat' (first | with_reducible exact HW2.out | with_reducible exact HW1.out | with_reducible exact HW0.out | with_reducible exact Below.refl _ _ | with_reducible refine Below.drew ?_ | with_reducible refine Below.alloc ?_ (by first | omega | (simp; done) | (simp; omega)) _))))
    (first | (go_at_call 15; (with_reducible refine (call_int (impl_LevelAt_any s p y u u _) HL2.out).mono ?_); rintro e v0 ⟨rfl, hb⟩; have HW0 : Hid (Below W.heap.size W v0) := Lib.hid (by first | exact (Below.refl W.heap.size W).trans (hb.mono (Below.size (Below.refl W.heap.size W))) | exact (Below.drew (Below.refl W.heap.size W)).trans (hb.mono (Below.size (Below.drew (Below.refl W.heap.size W))))); clear hb) | (go_at_call 15; (with_reducible refine (call_int (impl_LevelAt_any s p l t u _) HV.out).mono ?_); rintro e v1 ⟨rfl, hb⟩; have HW1 : Hid (Below W.heap.size W v1) := Lib.hid (by first | exact (HW0.out).trans (hb.mono (Below.size (HW0.out))) | exact (Below.drew (HW0.out)).trans (hb.mono (Below.size (Below.drew (HW0.out))))); clear hb) | (go_at_call 12; (with_reducible refine (call_bool (impl_ValidBucket_any s p y u _) HB2.out).mono ?_); rintro e v2 ⟨rfl, hb⟩; have HW2 : Hid (Below W.heap.size W v2) := Lib.hid (by first | exact (HW1.out).trans (hb.mono (Below.size (HW1.out))) | exact (Below.drew (HW1.out)).trans (hb.mono (Below.size (Below.drew (HW1.out))))); clear hb))
  all_goals clear q0 q1 q2 q3 f0 f1 f2 f3
  all_goals (
    go_wp2_with (fail)
    go_ret
    exact ⟨ret_bool (by first | rfl | (simp; done) | (simp; omega)), by first | exact B1.out.trans (HW2.out.mono B1.out.size) | exact (B1.out.trans (HW2.out.mono B1.out.size)).drew | exact below_drewN (B1.out.trans (HW2.out.mono B1.out.size)) _⟩)
end Go.Proofs.Ytijdfoggppmbaaa
