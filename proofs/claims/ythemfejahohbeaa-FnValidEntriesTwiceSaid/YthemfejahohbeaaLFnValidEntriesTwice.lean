/-
  The walk of FnValidEntriesTwice. (Its words were written by a program of my own.)
-/
import Derived.Test.YthemfejahohbeaaGenR
import Derived.Test.YthemfejahohbeaaQuR
import Derived.Test.YthemfejahohbeaaQuB
import Derived.Test.YthemfejahohbeaaQuC
import Derived.Deep.RegionHeld3
import Derived.Deep.DeepMust
import Derived.Deep.DeepCutAuto
namespace Go.Proofs.Ythemfejahohbeaa
open Go.RowKit
-- CALL: W s0
set_option maxHeartbeats 4000000 in
theorem walk_FnValidEntriesTwice {A : Option Addr} {n c : Nat} {zs : List Int} (w : World) (h : BS w A n c zs) :
    Calls Try.prog 15 #[.slice A n c] w fun e w' => e = .returned (.bool true) ∧ Below w.heap.size w w' := by
  have H := Lib.hid h
  clear h
  rcases Nat.lt_or_ge 1048576 n with h1 | h1
  · have h1' : (1048576 : Int) < (n : Int) := by omega
    go_enter Try.func15, Try.ntmps15
    go_wp2_with (fail)
    go_ret
    exact ⟨rfl, Below.refl _ _⟩
  have h1' : ¬ (1048576 : Int) < (n : Int) := by omega
  go_enter Try.func15, Try.ntmps15
  go_wp2_with (fail)
  refine (spec_DrawValidEntries_any w H.out h1).mono ?_
  rintro e w1 ⟨xs, A1, n1, c1, rfl, hn1, i1, hb⟩
  have T1 := Lib.hid i1
  have B1 := Lib.hid hb
  have hz1 := B1.out.size
  clear hb i1
  have HXL := Lib.hid T1.out.len
  obtain ⟨v, hv⟩ : ∃ v, validE xs = v := ⟨_, rfl⟩
  have HV := Lib.hid hv
  clear hv
  go_wp2_with (fail)
  refine (call_b (impl_ValidEntries_any _ T1.out) HV.out).mono ?_
  rintro e w2 ⟨rfl, hb⟩
  replace T1 := Lib.hid (T1.out.below hb (Nat.le_refl _))
  replace B1 := Lib.hid (B1.out.trans (hb.mono B1.out.size))
  clear hb
  rcases v with _ | _
  · skip
    go_wp2_with (fail)
    refine (call_b (spec_ValidEntries_any _ T1.out) HV.out).mono ?_
    rintro e w3 ⟨rfl, hb⟩
    replace T1 := Lib.hid (T1.out.below hb (Nat.le_refl _))
    replace B1 := Lib.hid (B1.out.trans (hb.mono B1.out.size))
    clear hb
    go_wp2_with (fail)
    refine (call_b (spec_ValidEntries_any _ T1.out) HV.out).mono ?_
    rintro e w4 ⟨rfl, hb⟩
    replace T1 := Lib.hid (T1.out.below hb (Nat.le_refl _))
    replace B1 := Lib.hid (B1.out.trans (hb.mono B1.out.size))
    clear hb
    go_wp2_with (fail)
    go_ret
    exact ⟨ret_bool (by first | rfl | (simp; done) | (simp; omega)), B1.out⟩
  rcases Nat.eq_zero_or_pos n1 with h0 | h0
  · skip
    subst h0
    go_wp2_with (fail)
    refine (call_b (spec_ValidEntries_any _ T1.out) HV.out).mono ?_
    rintro e w3 ⟨rfl, hb⟩
    replace T1 := Lib.hid (T1.out.below hb (Nat.le_refl _))
    replace B1 := Lib.hid (B1.out.trans (hb.mono B1.out.size))
    clear hb
    go_wp2_with (fail)
    refine (call_b (spec_ValidEntries_any _ T1.out) HV.out).mono ?_
    rintro e w4 ⟨rfl, hb⟩
    replace T1 := Lib.hid (T1.out.below hb (Nat.le_refl _))
    replace B1 := Lib.hid (B1.out.trans (hb.mono B1.out.size))
    clear hb
    go_wp2_with (fail)
    go_ret
    exact ⟨ret_bool (by first | rfl | (simp; done) | (simp; omega)), B1.out⟩
  have g1 : ((n1 : Int) == 0) = false := by simp; omega
  go_wp2_with (fail)
  refine (call_b (spec_ValidEntries_any _ T1.out) HV.out).mono ?_
  rintro e w3 ⟨rfl, hb⟩
  replace T1 := Lib.hid (T1.out.below hb (Nat.le_refl _))
  replace B1 := Lib.hid (B1.out.trans (hb.mono B1.out.size))
  clear hb
  obtain ⟨b, off, x, rfl, hx, ca, cb, cc⟩ := T1.out.at_ (k := 0) h0
  rw [show 0 * 3 = 0 from rfl, Nat.add_zero] at ca cb cc
  have HN := Lib.hid (validE_twice hx)
  have T2 := Lib.hid (T1.out.alloc (.cells #[] 29))
  have T12 := Lib.hid (T2.out.alloc (.cells #[.int .i64 x.a, .int .i64 x.b, .int .i64 x.c] 29))
  have T21 := Lib.hid ((T1.out.alloc (.cells #[.int .i64 x.a, .int .i64 x.b, .int .i64 x.c] 29)).alloc (.cells #[] 29))
  have G1 := Lib.hid (Blk.new w3 29 #[])
  have G12 := Lib.hid (G1.out.alloc (.cells #[.int .i64 x.a, .int .i64 x.b, .int .i64 x.c] 29))
  have G21 : Hid (Blk ((w3.alloc (.cells #[.int .i64 x.a, .int .i64 x.b, .int .i64 x.c] 29)).alloc (.cells #[] 29)) (w3.heap.size + 1) 29 #[]) := Lib.hid (by simpa using Blk.new (w3.alloc (.cells #[.int .i64 x.a, .int .i64 x.b, .int .i64 x.c] 29)) 29 #[])
  have S12 : Hid (TS ((w3.alloc (.cells #[] 29)).alloc (.cells #[.int .i64 x.a, .int .i64 x.b, .int .i64 x.c] 29)) (some ⟨w3.heap.size + 1, 0, none⟩) 1 1 [x]) := Lib.hid (by simpa using ts_one (w3.alloc (.cells #[] 29)) 29 x.a x.b x.c)
  have S21 : Hid (TS ((w3.alloc (.cells #[.int .i64 x.a, .int .i64 x.b, .int .i64 x.c] 29)).alloc (.cells #[] 29)) (some ⟨w3.heap.size, 0, none⟩) 1 1 [x]) := Lib.hid ((ts_one w3 29 x.a x.b x.c).alloc (.cells #[] 29))
  have B2 := Lib.hid (below_new w3 (.cells #[] 29))
  have B12 := Lib.hid (B2.out.alloc (by simp) (.cells #[.int .i64 x.a, .int .i64 x.b, .int .i64 x.c] 29))
  have B21 := Lib.hid ((below_new w3 (.cells #[.int .i64 x.a, .int .i64 x.b, .int .i64 x.c] 29)).alloc (by simp) (.cells #[] 29))
  have z1 : (0 : Int) < (n1 : Int) := by omega
  clear hx
  go_wp2_with (fail)
  go_region_held3 (fun w' => w'.cell? ⟨b, off, none⟩ = some (.int .i64 x.a) ∧ w'.cell? ⟨b, off + 1, none⟩ = some (.int .i64 x.b) ∧ w'.cell? ⟨b, off + 2, none⟩ = some (.int .i64 x.c))
    (refine And.intro ?_ (And.intro ?_ ?_) <;> ((first | with_reducible refine cell_up (w := w3) ?_ ca | with_reducible refine cell_up (w := w3) ?_ cb | with_reducible refine cell_up (w := w3) ?_ cc); (repeat' (first | with_reducible exact HF.out | with_reducible exact WB.out | with_reducible exact WA.out | with_reducible exact Below.refl _ _ | with_reducible refine Below.drew ?_ | with_reducible refine Below.alloc ?_ (by first | omega | (simp; done) | (simp; omega)) _))))
    (first
      | (refine step_append_new rfl (.tmp 29) (.tmp 30) 23 rfl 29 (w3.heap.size) w3.heap.size infoEnt2 Try.underlying23 (by simp [Act.eval]) (by first | exact G1.out | exact (G1.out).drew) (some ⟨b, off, none⟩) n1 c1 xs (by simp [Act.eval]) (by first | exact T2.out | exact (T2.out).drew) (by omega) (by omega) ?_; intro E1 d1 wa ho hb hq; have O1 := Lib.hid ho; have WA : Hid (Below w3.heap.size w3 wa) := Lib.hid (below_then (by first | exact B2.out | exact Below.drew (B2.out)) hb); have za := WA.out.size; clear ho hb hq)
      | (refine step_append_new rfl (.tmp 29) (.tmp 30) 23 rfl 29 (w3.heap.size) w3.heap.size infoEnt2 Try.underlying23 (by simp [Act.eval]) (by first | exact G12.out | exact (G12.out).drew) (some ⟨b, off, none⟩) n1 c1 xs (by simp [Act.eval]) (by first | exact T12.out | exact (T12.out).drew) (by omega) (by omega) ?_; intro E1 d1 wa ho hb hq; have O1 := Lib.hid ho; have WA : Hid (Below w3.heap.size w3 wa) := Lib.hid (below_then (by first | exact B12.out | exact Below.drew (B12.out)) hb); have za := WA.out.size; have S2 := Lib.hid (TS.below (by first | exact S12.out | exact (S12.out).drew) hb (Nat.le_refl _)); clear ho hb hq)
      | (refine step_append_new rfl (.tmp 29) (.tmp 30) 23 rfl 29 (w3.heap.size + 1) w3.heap.size infoEnt2 Try.underlying23 (by simp [Act.eval]) (by first | exact G21.out | exact (G21.out).drew) (some ⟨b, off, none⟩) n1 c1 xs (by simp [Act.eval]) (by first | exact T21.out | exact (T21.out).drew) (by omega) (by omega) ?_; intro E1 d1 wa ho hb hq; have O1 := Lib.hid ho; have WA : Hid (Below w3.heap.size w3 wa) := Lib.hid (below_then (by first | exact B21.out | exact Below.drew (B21.out)) hb); have za := WA.out.size; have S2 := Lib.hid (TS.below (by first | exact S21.out | exact (S21.out).drew) hb (Nat.le_refl _)); clear ho hb hq)
      | (refine step_append_ts2 rfl (.tmp 31) (.tmp 35) 23 rfl w3.heap.size 29 infoEnt2 Try.underlying23 E1 n1 d1 xs (by simp [Act.eval]) (by first | exact O1.out | exact (O1.out).drew) (some ⟨w3.heap.size + 1, 0, none⟩) 1 1 [x] (by simp [Act.eval]) (by first | exact S2.out | exact (S2.out).drew) (by omega) (by first | omega | (simp; done) | (simp; omega)) ?_; intro E2 d2 wb ho hg hnr; have O2 := Lib.hid ho; have WB : Hid (Below w3.heap.size w3 wb) := Lib.hid (below_row (by first | exact WA.out | exact Below.drew (WA.out)) hg (by first | omega | (simp; done) | (simp; omega)) O1.out.ge); have zb := WB.out.size; clear ho hg hnr)
      | (refine step_append_ts2 rfl (.tmp 31) (.tmp 35) 23 rfl w3.heap.size 29 infoEnt2 Try.underlying23 E1 n1 d1 xs (by simp [Act.eval]) (by first | exact O1.out | exact (O1.out).drew) (some ⟨w3.heap.size, 0, none⟩) 1 1 [x] (by simp [Act.eval]) (by first | exact S2.out | exact (S2.out).drew) (by omega) (by first | omega | (simp; done) | (simp; omega)) ?_; intro E2 d2 wb ho hg hnr; have O2 := Lib.hid ho; have WB : Hid (Below w3.heap.size w3 wb) := Lib.hid (below_row (by first | exact WA.out | exact Below.drew (WA.out)) hg (by first | omega | (simp; done) | (simp; omega)) O1.out.ge); have zb := WB.out.size; clear ho hg hnr)
      | (refine step_append_ts2 rfl (.tmp 31) (.tmp 35) 23 rfl w3.heap.size 29 infoEnt2 Try.underlying23 E1 n1 d1 xs (by simp [Act.eval]) (by first | exact (O1.out.alloc (.cells #[.int .i64 x.a, .int .i64 x.b, .int .i64 x.c] 29)) | exact ((O1.out.alloc (.cells #[.int .i64 x.a, .int .i64 x.b, .int .i64 x.c] 29))).drew) (some ⟨wa.heap.size, 0, none⟩) 1 1 [x] (by simp [Act.eval]) (by first | exact (ts_one wa 29 x.a x.b x.c) | exact ((ts_one wa 29 x.a x.b x.c)).drew) (by omega) (by first | omega | (simp; done) | (simp; omega)) ?_; intro E2 d2 wb ho hg hnr; have O2 := Lib.hid ho; have WB : Hid (Below w3.heap.size w3 wb) := Lib.hid (below_row (by first | exact (WA.out.alloc za (.cells #[.int .i64 x.a, .int .i64 x.b, .int .i64 x.c] 29)) | exact Below.drew ((WA.out.alloc za (.cells #[.int .i64 x.a, .int .i64 x.b, .int .i64 x.c] 29)))) hg (by first | omega | (simp; done) | (simp; omega)) O1.out.ge); have zb := WB.out.size; clear ho hg hnr)
      | (go_at_call 35; go_must (refine (call_b (impl_ValidEntries_any _ (by first | exact O2.out.ts | exact (O2.out.ts).drew)) HN.out).mono ?_; rintro e wc ⟨rfl, hb⟩; have HF : Hid (Below w3.heap.size w3 wc) := Lib.hid (by first | exact WB.out.trans (hb.mono WB.out.size) | exact WB.out.drew.trans (hb.mono WB.out.size)); clear hb)))
  all_goals (go_wp2_with (fail); go_ret; exact ⟨ret_bool (by first | rfl | (simp; done)), B1.out.trans (HF.out.mono B1.out.size)⟩)
end Go.Proofs.Ythemfejahohbeaa
