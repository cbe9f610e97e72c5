/-
  The walk of FnValidArena. (Its words were written by a program of my own.)
-/
import Derived.Test.YtleoncjdhlomaaaDrawA
import Derived.Test.YtleoncjdhlomaaaArY
import Derived.Test.YtleoncjdhlomaaaArR
import Derived.Test.YtleoncjdhlomaaaArC
import Derived.Test.YtleoncjdhlomaaaArD
import Derived.Test.YtleoncjdhlomaaaArN
import Derived.Test.YtleoncjdhlomaaaArE
import Derived.Test.YtleoncjdhlomaaaArU
import Derived.Test.YtleoncjdhlomaaaArL
import Derived.Deep.RegionHeld3
import Derived.Deep.DrawnRows
import Derived.Lib.QuietBelow
import Derived.BigQuiet
import Derived.Deep.DeepMust
import Derived.Deep.DeepCutAuto
namespace Go.Proofs.Ytleoncjdhlomaaa
open Go.RowKit
-- CALL: W s0
set_option maxHeartbeats 1600000 in
theorem walk_FnValidArena {A : Option Addr} {n c : Nat} {zs : List Int} (w : World) (h : BS w A n c zs) :
    Calls Try.prog 3 #[.slice A n c] w fun e w' => e = .returned (.bool true) ∧ Below w.heap.size w w' := by
  have H := Lib.hid h
  clear h
  rcases Nat.lt_or_ge 1048576 n with h1 | h1
  · have h1' : (1048576 : Int) < (n : Int) := by omega
    go_enter Try.func3, Try.ntmps3
    go_wp2_with (fail)
    go_ret
    exact ⟨rfl, Below.refl _ _⟩
  have h1' : ¬ (1048576 : Int) < (n : Int) := by omega
  go_enter Try.func3, Try.ntmps3
  go_wp2_with (fail)
  refine (spec_DrawValidArena_any w H.out h1).mono ?_
  rintro e w1 ⟨s, xs, A1, n1, c1, rfl, hn1, ht, hb⟩
  have T1 := Lib.hid ht
  have B1 := Lib.hid hb
  have hz1 := B1.out.size
  clear hb ht
  replace T1 := Lib.hid (T1.out.alloc (.cells #[.int .i64 s, .slice A1 n1 c1] 25))
  replace B1 := Lib.hid (B1.out.alloc B1.out.size (.cells #[.int .i64 s, .slice A1 n1 c1] 25))
  have X := Lib.hid (Blk.new w1 25 #[.int .i64 s, .slice A1 n1 c1])
  have HXL := Lib.hid T1.out.len
  rcases hk : validA s xs with _ | _
  · skip
    obtain ⟨x0, x1⟩ := X.out.c2
    go_wp2_with (fail)
    refine (call_b (impl_ValidArena_any s _ T1.out) hk).mono ?_
    clear x0 x1
    rintro e w2 ⟨rfl, hb⟩
    replace T1 := Lib.hid (T1.out.below hb (Nat.le_refl _))
    replace X := Lib.hid (X.out.on hb)
    replace B1 := Lib.hid (B1.out.trans (hb.mono B1.out.size))
    clear hb
    obtain ⟨x0, x1⟩ := X.out.c2
    go_wp2_with (fail)
    refine (call_b (spec_ValidArena_any s _ T1.out) hk).mono ?_
    clear x0 x1
    rintro e w3 ⟨rfl, hb⟩
    replace T1 := Lib.hid (T1.out.below hb (Nat.le_refl _))
    replace X := Lib.hid (X.out.on hb)
    replace B1 := Lib.hid (B1.out.trans (hb.mono B1.out.size))
    clear hb
    obtain ⟨x0, x1⟩ := X.out.c2
    go_wp2_with (fail)
    refine (call_b (spec_ValidArena_any s _ T1.out) hk).mono ?_
    clear x0 x1
    rintro e w4 ⟨rfl, hb⟩
    replace T1 := Lib.hid (T1.out.below hb (Nat.le_refl _))
    replace X := Lib.hid (X.out.on hb)
    replace B1 := Lib.hid (B1.out.trans (hb.mono B1.out.size))
    clear hb
    go_wp2_with (fail)
    go_ret
    exact ⟨ret_bool (by first | rfl | (simp; done) | (simp; omega)), B1.out⟩
  have HK := Lib.hid hk
  clear hk
  obtain ⟨x0, x1⟩ := X.out.c2
  go_wp2_with (fail)
  refine (call_b (impl_ValidArena_any s _ T1.out) HK.out).mono ?_
  clear x0 x1
  rintro e w2 ⟨rfl, hb⟩
  replace T1 := Lib.hid (T1.out.below hb (Nat.le_refl _))
  replace X := Lib.hid (X.out.on hb)
  replace B1 := Lib.hid (B1.out.trans (hb.mono B1.out.size))
  clear hb
  by_cases h0 : n1 = 0
  · subst h0
    obtain ⟨x0, x1⟩ := X.out.c2
    go_wp2_with (fail)
    refine (call_b (spec_ValidArena_any s _ T1.out) HK.out).mono ?_
    clear x0 x1
    rintro e w3 ⟨rfl, hb⟩
    replace T1 := Lib.hid (T1.out.below hb (Nat.le_refl _))
    replace X := Lib.hid (X.out.on hb)
    replace B1 := Lib.hid (B1.out.trans (hb.mono B1.out.size))
    clear hb
    obtain ⟨x0, x1⟩ := X.out.c2
    go_wp2_with (fail)
    refine (call_b (spec_ValidArena_any s _ T1.out) HK.out).mono ?_
    clear x0 x1
    rintro e w4 ⟨rfl, hb⟩
    replace T1 := Lib.hid (T1.out.below hb (Nat.le_refl _))
    replace X := Lib.hid (X.out.on hb)
    replace B1 := Lib.hid (B1.out.trans (hb.mono B1.out.size))
    clear hb
    go_wp2_with (fail)
    go_ret
    exact ⟨ret_bool (by first | rfl | (simp; done) | (simp; omega)), B1.out⟩
  have h0' : ((n1 : Int) == 0) = false := by simp; omega
  have h0n : ¬ (n1 : Int) = 0 := by omega
  obtain ⟨x0, x1⟩ := X.out.c2
  go_wp2_with (fail)
  refine (call_b (spec_ValidArena_any s _ T1.out) HK.out).mono ?_
  clear x0 x1
  rintro e w3 ⟨rfl, hb⟩
  replace T1 := Lib.hid (T1.out.below hb (Nat.le_refl _))
  replace X := Lib.hid (X.out.on hb)
  replace B1 := Lib.hid (B1.out.trans (hb.mono B1.out.size))
  clear hb
  obtain ⟨K, hK⟩ : ∃ K : Nat, n % n1 = K := ⟨_, rfl⟩
  have hKn : K < n1 := by rw [← hK]; exact Nat.mod_lt _ (by omega)
  have hr1 : (n : Int) % (n1 : Int) = (K : Int) := by omega
  have hr2 : Int.tmod (n : Int) (n1 : Int) = (K : Int) := by rw [Int.tmod_eq_emod_of_nonneg (by omega)]; exact hr1
  obtain ⟨b, off, _, rfl, _, _⟩ := T1.out.at_ hKn
  have hnc := T1.out.2.1
  have hki : (K : Int) ≤ (n1 : Int) := by omega
  have hkc : (K : Int) ≤ (c1 : Int) := by omega
  have hnci : (n1 : Int) ≤ (c1 : Int) := by omega
  have hk0 : (0 : Int) ≤ (K : Int) := by omega
  have hk0n : ¬ (K : Int) < 0 := by omega
  have hwr : IntKind.i64.wrap ((K : Int) + 1) = (K : Int) + 1 := by rw [IntKind.wrap_i64]; omega
  have htn : ((K : Int) + 1).toNat = K + 1 := by omega
  have hx1 : (0 : Int) ≤ (K : Int) + 1 := by omega
  have hx2 : (K : Int) + 1 ≤ (n1 : Int) := by omega
  have hx3 : (K : Int) + 1 ≤ (c1 : Int) := by omega
  have HT4 := Lib.hid (T1.out.firstN (K := K) (by omega))
  obtain ⟨AX, hAX⟩ : ∃ v, (if c1 = K + 1 then some (⟨b, off, none⟩ : Addr) else some ⟨b, off + (K + 1) * 3, none⟩) = v := ⟨_, rfl⟩
  have HT7 := Lib.hid (hAX ▸ T1.out.rest (K := K + 1) (by omega))
  have HE := Lib.hid (valid_erase HK.out K)
  have HZ := Lib.hid (valid_none (validA_iff.1 HK.out).1)
  clear hK
  obtain ⟨x0, x1⟩ := X.out.c2
  have hxl : w1.heap.size < w3.heap.size := X.out.lt
  go_wp2_with (fail)
  go_region_held3 (fun w' => w'.cell? ⟨w1.heap.size, 0, none⟩ = some (.int .i64 s) ∧ w'.cell? ⟨w1.heap.size, 1, none⟩ = some (.slice (some ⟨b, off, none⟩) n1 c1)) ((repeat' apply And.intro) <;> first | (refine cell_up (w := w3) ?_ x0; (first | exact W4.out | exact W3.out | exact W2.out | exact W1.out | (repeat' (first | with_reducible exact W3.out | with_reducible exact W2.out | with_reducible exact W1.out | with_reducible exact Below.refl _ _ | with_reducible refine Below.drew ?_ | with_reducible refine Below.alloc ?_ (by first | omega | (simp; done) | (simp; omega)) _)))) | (refine cell_up (w := w3) ?_ x1; (first | exact W4.out | exact W3.out | exact W2.out | exact W1.out | (repeat' (first | with_reducible exact W3.out | with_reducible exact W2.out | with_reducible exact W1.out | with_reducible exact Below.refl _ _ | with_reducible refine Below.drew ?_ | with_reducible refine Below.alloc ?_ (by first | omega | (simp; done) | (simp; omega)) _))))) (first
    | (refine step_append_ts rfl (.tmp 39) (.tmp 43) 23 rfl w3.heap.size 39 infoBlk Try.underlying23 (some ⟨w3.heap.size, 0, none⟩) 0 0 [] (by simp [Act.eval]) (by have h := OT.lit w3 39 w3.heap.size [] (Nat.le_refl _) (by simp); simp only [cellsT, List.flatMap_nil, List.length_nil] at h; exact h) (some ⟨b, off, none⟩) K c1 (xs.take K) (by simp [Act.eval]) (by exact HT4.out.below (by repeat (first | exact Below.refl _ _ | with_reducible refine Below.drew ?_ | with_reducible refine Below.alloc ?_ (by first | omega | (simp; done) | (simp; omega)) _)) (Nat.le_refl _)) (by omega) (by first | omega | (simp; done) | (simp; omega)) ?_; intro A6 c6 w6 ho hg; have O6 := Lib.hid ho; have W1 : Hid (Below w3.heap.size w3 w6) := Lib.hid (below_row (by repeat (first | exact Below.refl _ _ | with_reducible refine Below.drew ?_ | with_reducible refine Below.alloc ?_ (by first | omega | (simp; done) | (simp; omega)) _)) hg (by first | omega | (simp; done) | (simp; omega)) (fun p hp => by cases hp; exact Nat.le_refl _)); have z1 := W1.out.size; clear ho hg)
    | (refine step_append_ts rfl (.tmp 44) (.tmp 49) 23 rfl w3.heap.size 39 infoBlk Try.underlying23 A6 (0 + K) c6 _ (by simp [Act.eval]) (by first | exact O6.out | exact O6.out.drew) AX (n1 - (K + 1)) (c1 - (K + 1)) (xs.drop (K + 1)) (by simp [Act.eval]) (HT7.out.below (by (repeat' (first | with_reducible exact W3.out | with_reducible exact W2.out | with_reducible exact W1.out | with_reducible exact Below.refl _ _ | with_reducible refine Below.drew ?_ | with_reducible refine Below.alloc ?_ (by first | omega | (simp; done) | (simp; omega)) _)); (fail_if_success (show _))) (Nat.le_refl _)) (by omega) (by first | omega | (simp; done) | (simp; omega)) ?_; intro A8 c8 w8 ho hg; have O8 : Hid (OT w8 39 w3.heap.size A8 (K + (n1 - (K + 1))) c8 (xs.take K ++ xs.drop (K + 1))) := Lib.hid (by simpa using ho); have W2 : Hid (Below w3.heap.size w3 w8) := Lib.hid (below_row (by (repeat' (first | with_reducible exact W3.out | with_reducible exact W2.out | with_reducible exact W1.out | with_reducible exact Below.refl _ _ | with_reducible refine Below.drew ?_ | with_reducible refine Below.alloc ?_ (by first | omega | (simp; done) | (simp; omega)) _)); (fail_if_success (show _))) hg (by first | omega | (simp; done) | (simp; omega)) O6.out.ge); have z2 := W2.out.size; clear ho hg)
    | (go_at_call 15; (refine (call_b (impl_ValidArena_any s _ (by first | exact O8.out.ts | exact O8.out.ts.drew)) HE.out).mono ?_; rintro e w9 ⟨rfl, hb⟩; have W3 : Hid (Below w3.heap.size w3 w9) := Lib.hid (below_then (a := w3) (by (repeat' (first | with_reducible exact W3.out | with_reducible exact W2.out | with_reducible exact W1.out | with_reducible exact Below.refl _ _ | with_reducible refine Below.drew ?_ | with_reducible refine Below.alloc ?_ (by first | omega | (simp; done) | (simp; omega)) _)); (fail_if_success (show _))) hb); have z3 := W3.out.size; clear hb O8))
    | (go_at_call 15; go_must (refine (call_b (impl_ValidArena_any s _ (TS.nil _)) HZ.out).mono ?_; rintro e w10 ⟨rfl, hb⟩; have W4 : Hid (Below w3.heap.size w3 w10) := Lib.hid (below_then (a := w3) (by (repeat' (first | with_reducible exact W3.out | with_reducible exact W2.out | with_reducible exact W1.out | with_reducible exact Below.refl _ _ | with_reducible refine Below.drew ?_ | with_reducible refine Below.alloc ?_ (by first | omega | (simp; done) | (simp; omega)) _)); (fail_if_success (show _))) hb); clear hb)))
  all_goals (go_wp2_with (fail); go_ret; exact ⟨ret_bool (by first | rfl | (simp; done)), B1.out.trans (W4.out.mono B1.out.size)⟩)
end Go.Proofs.Ytleoncjdhlomaaa
