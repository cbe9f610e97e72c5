/-
  The walk of FnValidQueue. (Its words were written by a program of my own.)
-/
import Derived.Test.YthemfejahohbeaaDrawQ
import Derived.Test.YthemfejahohbeaaQuR
import Derived.Test.YthemfejahohbeaaQuB
import Derived.Test.YthemfejahohbeaaQuC
import Derived.Test.YthemfejahohbeaaQuS
import Derived.Test.YthemfejahohbeaaQuP
import Derived.Test.YthemfejahohbeaaArF0
import Derived.Deep.RegionHeld3
import Derived.Deep.DeepMust
import Derived.Deep.DeepCutAuto
namespace Go.Proofs.Ythemfejahohbeaa
open Go.RowKit
-- CALL: W s0
set_option maxHeartbeats 4000000 in
theorem walk_FnValidQueue {A : Option Addr} {n c : Nat} {zs : List Int} (w : World) (h : BS w A n c zs) :
    Calls Try.prog 13 #[.slice A n c] w fun e w' => e = .returned (.bool true) ∧ Below w.heap.size w w' := by
  have H := Lib.hid h
  clear h
  rcases Nat.lt_or_ge 1048576 n with h1 | h1
  · have h1' : (1048576 : Int) < (n : Int) := by omega
    go_enter Try.func13, Try.ntmps13
    go_wp2_with (fail)
    go_ret
    exact ⟨rfl, Below.refl _ _⟩
  have h1' : ¬ (1048576 : Int) < (n : Int) := by omega
  go_enter Try.func13, Try.ntmps13
  go_wp2_with (fail)
  refine (spec_DrawValidQueue_any w H.out h1).mono ?_
  rintro e w1 ⟨xs, sh, db, t, A1, n1, c1, A2, n2, c2, A3, n3, c3, rfl, hn1, hn2, hn3, ⟨ht0, ht1⟩, i1, i2, i3, hb⟩
  have T1 := Lib.hid i1
  have S2 := Lib.hid i2
  have S3 := Lib.hid i3
  have B1 := Lib.hid hb
  have hz1 := B1.out.size
  clear hb i1 i2 i3
  replace T1 := Lib.hid (T1.out.alloc (.cells #[.slice A1 n1 c1, .slice A2 n2 c2, .slice A3 n3 c3, .int .i64 t] 26))
  replace S2 := Lib.hid (S2.out.alloc (.cells #[.slice A1 n1 c1, .slice A2 n2 c2, .slice A3 n3 c3, .int .i64 t] 26))
  replace S3 := Lib.hid (S3.out.alloc (.cells #[.slice A1 n1 c1, .slice A2 n2 c2, .slice A3 n3 c3, .int .i64 t] 26))
  replace B1 := Lib.hid (B1.out.alloc B1.out.size (.cells #[.slice A1 n1 c1, .slice A2 n2 c2, .slice A3 n3 c3, .int .i64 t] 26))
  have X := Lib.hid (Blk.new w1 26 #[.slice A1 n1 c1, .slice A2 n2 c2, .slice A3 n3 c3, .int .i64 t])
  have HXL := Lib.hid T1.out.len
  obtain ⟨v, hv⟩ : ∃ v, validQ xs sh db t = v := ⟨_, rfl⟩
  have HV := Lib.hid hv
  clear hv
  go_wp2_with (fail)
  refine (call_b (impl_ValidQueue_any t _ T1.out S2.out S3.out) HV.out).mono ?_
  rintro e w2 ⟨rfl, hb⟩
  replace T1 := Lib.hid (T1.out.below hb (Nat.le_refl _))
  replace S2 := Lib.hid (S2.out.below hb (Nat.le_refl _))
  replace S3 := Lib.hid (S3.out.below hb (Nat.le_refl _))
  replace X := Lib.hid (X.out.on hb)
  replace B1 := Lib.hid (B1.out.trans (hb.mono B1.out.size))
  clear hb
  rcases v with _ | _
  · skip
    obtain ⟨x0, x1, x2, x3⟩ := X.out.c4
    go_wp2_with (fail)
    refine (call_b (spec_ValidQueue_any t _ T1.out S2.out S3.out) HV.out).mono ?_
    clear x0 x1 x2 x3
    rintro e w3 ⟨rfl, hb⟩
    replace T1 := Lib.hid (T1.out.below hb (Nat.le_refl _))
    replace S2 := Lib.hid (S2.out.below hb (Nat.le_refl _))
    replace S3 := Lib.hid (S3.out.below hb (Nat.le_refl _))
    replace X := Lib.hid (X.out.on hb)
    replace B1 := Lib.hid (B1.out.trans (hb.mono B1.out.size))
    clear hb
    obtain ⟨x0, x1, x2, x3⟩ := X.out.c4
    go_wp2_with (fail)
    refine (call_b (spec_ValidQueue_any t _ T1.out S2.out S3.out) HV.out).mono ?_
    clear x0 x1 x2 x3
    rintro e w4 ⟨rfl, hb⟩
    replace T1 := Lib.hid (T1.out.below hb (Nat.le_refl _))
    replace S2 := Lib.hid (S2.out.below hb (Nat.le_refl _))
    replace S3 := Lib.hid (S3.out.below hb (Nat.le_refl _))
    replace X := Lib.hid (X.out.on hb)
    replace B1 := Lib.hid (B1.out.trans (hb.mono B1.out.size))
    clear hb
    go_wp2_with (fail)
    go_ret
    exact ⟨ret_bool (by first | rfl | (simp; done) | (simp; omega)), B1.out⟩
  rcases Nat.eq_zero_or_pos n1 with h0 | h0
  · skip
    subst h0
    obtain ⟨x0, x1, x2, x3⟩ := X.out.c4
    go_wp2_with (fail)
    refine (call_b (spec_ValidQueue_any t _ T1.out S2.out S3.out) HV.out).mono ?_
    clear x0 x1 x2 x3
    rintro e w3 ⟨rfl, hb⟩
    replace T1 := Lib.hid (T1.out.below hb (Nat.le_refl _))
    replace S2 := Lib.hid (S2.out.below hb (Nat.le_refl _))
    replace S3 := Lib.hid (S3.out.below hb (Nat.le_refl _))
    replace X := Lib.hid (X.out.on hb)
    replace B1 := Lib.hid (B1.out.trans (hb.mono B1.out.size))
    clear hb
    obtain ⟨x0, x1, x2, x3⟩ := X.out.c4
    go_wp2_with (fail)
    refine (call_b (spec_ValidQueue_any t _ T1.out S2.out S3.out) HV.out).mono ?_
    clear x0 x1 x2 x3
    rintro e w4 ⟨rfl, hb⟩
    replace T1 := Lib.hid (T1.out.below hb (Nat.le_refl _))
    replace S2 := Lib.hid (S2.out.below hb (Nat.le_refl _))
    replace S3 := Lib.hid (S3.out.below hb (Nat.le_refl _))
    replace X := Lib.hid (X.out.on hb)
    replace B1 := Lib.hid (B1.out.trans (hb.mono B1.out.size))
    clear hb
    go_wp2_with (fail)
    go_ret
    exact ⟨ret_bool (by first | rfl | (simp; done) | (simp; omega)), B1.out⟩
  have g1 : ((n1 : Int) == 0) = false := by simp; omega
  obtain ⟨x0, x1, x2, x3⟩ := X.out.c4
  go_wp2_with (fail)
  refine (call_b (spec_ValidQueue_any t _ T1.out S2.out S3.out) HV.out).mono ?_
  clear x0 x1 x2 x3
  rintro e w3 ⟨rfl, hb⟩
  replace T1 := Lib.hid (T1.out.below hb (Nat.le_refl _))
  replace S2 := Lib.hid (S2.out.below hb (Nat.le_refl _))
  replace S3 := Lib.hid (S3.out.below hb (Nat.le_refl _))
  replace X := Lib.hid (X.out.on hb)
  replace B1 := Lib.hid (B1.out.trans (hb.mono B1.out.size))
  clear hb
  obtain ⟨K, hKe⟩ : ∃ K, n % n1 = K := ⟨_, rfl⟩
  have hK : K < n1 := by rw [← hKe]; exact Nat.mod_lt _ h0
  have wk : (n : Int) % (n1 : Int) = (K : Int) := by rw [← Int.natCast_emod, hKe]
  obtain ⟨J, hJ⟩ : ∃ J, K + 1 = J := ⟨_, rfl⟩
  have wj : IntKind.i64.wrap ((K : Int) + 1) = (J : Int) := by rw [IntKind.wrap_i64]; omega
  obtain ⟨M0, hM⟩ : ∃ M, n1 - J = M := ⟨_, rfl⟩
  obtain ⟨b, off, x, rfl, _, cg, _, _⟩ := T1.out.at_ (k := 0) h0
  clear hKe cg
  have hgx := X.out.lt
  have S2o := S2
  have S3o := S3
  have T1o := T1
  have Xo := X
  have B1o := B1
  have BW := Lib.hid (below_new w3 (.cells #[.slice (some ⟨b, off, none⟩) n1 c1, .slice A2 n2 c2, .slice A3 n3 c3, .int .i64 t] 26))
  obtain ⟨x0, x1, x2, x3⟩ := X.out.c4
  replace T1 := Lib.hid (T1.out.alloc (.cells #[.slice (some ⟨b, off, none⟩) n1 c1, .slice A2 n2 c2, .slice A3 n3 c3, .int .i64 t] 26))
  replace S2 := Lib.hid (S2.out.alloc (.cells #[.slice (some ⟨b, off, none⟩) n1 c1, .slice A2 n2 c2, .slice A3 n3 c3, .int .i64 t] 26))
  replace S3 := Lib.hid (S3.out.alloc (.cells #[.slice (some ⟨b, off, none⟩) n1 c1, .slice A2 n2 c2, .slice A3 n3 c3, .int .i64 t] 26))
  replace X := Lib.hid (X.out.alloc (.cells #[.slice (some ⟨b, off, none⟩) n1 c1, .slice A2 n2 c2, .slice A3 n3 c3, .int .i64 t] 26))
  replace B1 := Lib.hid (B1.out.alloc B1.out.size (.cells #[.slice (some ⟨b, off, none⟩) n1 c1, .slice A2 n2 c2, .slice A3 n3 c3, .int .i64 t] 26))
  have M := Lib.hid (Blk.new w3 26 #[.slice (some ⟨b, off, none⟩) n1 c1, .slice A2 n2 c2, .slice A3 n3 c3, .int .i64 t])
  go_wp2_with (fail)
  clear x0 x1 x2 x3
  obtain ⟨W, eW⟩ : ∃ v, v = (w3.alloc (.cells #[.slice (some ⟨b, off, none⟩) n1 c1, .slice A2 n2 c2, .slice A3 n3 c3, .int .i64 t] 26)) := ⟨_, rfl⟩
  rw [← eW] at T1 S2 S3 X M BW B1 ⊢
  clear eW
  have hnc := T1.out.2.1
  have hcm := T1.out.2.2.1
  simp only [maxLen] at hcm
  have P1 : Hid (TS W (some ⟨b, off, none⟩) K c1 (xs.take K)) := Lib.hid (by have h := T1.out.cut (lo := 0) (hi := K) (by omega) (by omega); simpa using h)
  have P2 := Lib.hid (T1.out.rest (K := J) (by omega))
  rw [hM] at P2
  have HVL : Hid (validQ (xs.take K ++ xs.drop J) sh db t = true) := Lib.hid (by
    obtain ⟨v1, v2, v3, v4⟩ := validQ_iff.1 HV.out
    rw [← hJ]
    exact validQ_iff.2 ⟨validE_t ((validE_iff.1 v1).sub (leaveL_sub xs K)), v2, v3, v4⟩)
  have HVE : Hid (validE xs = true) := Lib.hid (validQ_iff.1 HV.out).1
  have p1 := Lib.hid (P1.out.alloc (.cells #[] 29))
  have G1 := Lib.hid (Blk.new W 29 #[])
  have B2 := Lib.hid (below_new W (.cells #[] 29))
  have s0 : (0 : Int) ≤ (K : Int) := by omega
  have s1 : (K : Int) ≤ (n1 : Int) := by omega
  have s2 : (K : Int) ≤ (c1 : Int) := by omega
  have s3 : (0 : Int) ≤ (J : Int) := by omega
  have s4 : (J : Int) ≤ (n1 : Int) := by omega
  have s5 : (n1 : Int) ≤ (c1 : Int) := by omega
  have s6 : (J : Int) ≤ (c1 : Int) := by omega
  have hl1 : (xs.take K).length = K := by rw [List.length_take]; have := HXL.out; omega
  clear hl1
  by_cases hc1 : c1 = J
  · skip
    obtain rfl : n1 = c1 := by omega
    obtain rfl : n1 = J := hc1
    obtain rfl : M0 = 0 := by omega
    clear P2 hM
    have e0 : xs.drop n1 = [] := List.drop_of_length_le (by have := HXL.out; omega)
    have P2 : Hid (TS W (some ⟨b, off, none⟩) 0 0 (xs.drop n1)) := Lib.hid (by rw [e0]; exact TS.empty _ _ (by simp [maxLen]) (fun h => by cases h))
    clear e0
    obtain ⟨x0, x1, x2, x3⟩ := X.out.c4
    have ml := M.out.lt
    go_region_held3 (fun w' => w'.cell? ⟨w1.heap.size, 0, none⟩ = some (.slice (some ⟨b, off, none⟩) n1 n1))
      (((repeat (with_reducible refine cell_set ?_ (by show w1.heap.size ≠ w3.heap.size; omega) _)); (with_reducible refine cell_up (w := W) ?_ x0); (repeat' (first | with_reducible exact WB.out | with_reducible exact WA.out | with_reducible exact Below.refl _ _ | with_reducible refine Below.drew ?_ | with_reducible refine Below.alloc ?_ (by first | omega | (simp; done) | (simp; omega)) _))))
      (first
        | (refine step_append_new rfl (.tmp 39) (.tmp 43) 23 rfl 29 W.heap.size W.heap.size infoEnt2 Try.underlying23 (by simp [Act.eval]) (by first | exact G1.out | exact (G1.out).drew) (some ⟨b, off, none⟩) K n1 (xs.take K) (by simp [Act.eval]) (by first | exact p1.out | exact (p1.out).drew) (by omega) (by omega) ?_; intro E1 d1 wa ho hb hq; have O1 := Lib.hid ho; have WA : Hid (Below W.heap.size W wa) := Lib.hid (below_then (by first | exact B2.out | exact Below.drew (B2.out)) hb); have za := WA.out.size; clear ho hb hq)
        | (refine step_append_ts2 rfl (.tmp 44) (.tmp 49) 23 rfl W.heap.size 29 infoEnt2 Try.underlying23 E1 K d1 (xs.take K) (by simp [Act.eval]) (by first | exact O1.out | exact (O1.out).drew) (some ⟨b, off, none⟩) 0 0 (xs.drop n1) (by simp [Act.eval]) (by first | exact (P2.out.below WA.out (Nat.le_refl _)) | exact ((P2.out.below WA.out (Nat.le_refl _))).drew) (by omega) (by first | omega | (simp; done) | (simp; omega)) ?_; intro E3 d2 wb ho hg hnr; have O2 := Lib.hid ho; have WB : Hid (Below W.heap.size W wb) := Lib.hid (below_row (by first | exact WA.out | exact Below.drew (WA.out)) hg (by first | omega | (simp; done) | (simp; omega)) O1.out.ge); have zb := WB.out.size; have Mb := Lib.hid (M.out.on WB.out); have Xb := Lib.hid (X.out.on WB.out); obtain ⟨m0, m1, m2, m3⟩ := Mb.out.c4; have f0 := Mb.out.frozen 0; clear ho hg hnr))
    rw [Nat.add_zero] at O2
    have BQ := Lib.hid (((BW.out.trans (WB.out.mono BW.out.size)).setCell (Nat.le_refl _) (.slice E3 K d2) : Below w3.heap.size w3 (wb.setCell ⟨w3.heap.size, 0, none⟩ (.slice E3 K d2))))
    have Lq := Lib.hid ((O2.out.setCell (p := ⟨w3.heap.size, 0, none⟩) ml (.slice E3 K d2)).ts)
    have S2q := Lib.hid (S2o.out.below BQ.out (Nat.le_refl _))
    have S3q := Lib.hid (S3o.out.below BQ.out (Nat.le_refl _))
    have T1q := Lib.hid (T1o.out.below BQ.out (Nat.le_refl _))
    have Xq := Lib.hid (Xo.out.on BQ.out)
    have MQ : Hid (Blk (wb.setCell ⟨w3.heap.size, 0, none⟩ (.slice E3 K d2)) w3.heap.size 26 #[.slice E3 K d2, .slice A2 n2 c2, .slice A3 n3 c3, .int .i64 t]) := Lib.hid (Mb.out.set_ 0 _)
    replace B1 := Lib.hid (B1o.out.trans (BQ.out.mono B1o.out.size))
    clear BQ WB WA Mb Xb m0 m1 m2 m3 f0 x0 x1 x2 x3 O1 O2 S2 S3 T1 X M
    obtain ⟨mq0, mq1, mq2, mq3⟩ := MQ.out.c4
    go_wp2_with (fail)
    refine (call_b (impl_ValidQueue_any t _ Lq.out S2q.out S3q.out) HVL.out).mono ?_
    clear mq0 mq1 mq2 mq3
    rintro e w21 ⟨rfl, hb⟩
    replace Lq := Lib.hid (Lq.out.below hb (Nat.le_refl _))
    replace S2q := Lib.hid (S2q.out.below hb (Nat.le_refl _))
    replace S3q := Lib.hid (S3q.out.below hb (Nat.le_refl _))
    replace T1q := Lib.hid (T1q.out.below hb (Nat.le_refl _))
    replace MQ := Lib.hid (MQ.out.on hb)
    replace Xq := Lib.hid (Xq.out.on hb)
    replace B1 := Lib.hid (B1.out.trans (hb.mono B1.out.size))
    clear hb
    obtain ⟨xq0, xq1, xq2, xq3⟩ := Xq.out.c4
    go_wp2_with (fail)
    refine (call_b (impl_ValidEntries_any _ T1q.out) HVE.out).mono ?_
    clear xq0 xq1 xq2 xq3
    rintro e w22 ⟨rfl, hb⟩
    replace Lq := Lib.hid (Lq.out.below hb (Nat.le_refl _))
    replace S2q := Lib.hid (S2q.out.below hb (Nat.le_refl _))
    replace S3q := Lib.hid (S3q.out.below hb (Nat.le_refl _))
    replace T1q := Lib.hid (T1q.out.below hb (Nat.le_refl _))
    replace MQ := Lib.hid (MQ.out.on hb)
    replace Xq := Lib.hid (Xq.out.on hb)
    replace B1 := Lib.hid (B1.out.trans (hb.mono B1.out.size))
    clear hb
    go_wp2_with (fail)
    go_ret
    exact ⟨ret_bool (by first | rfl | (simp; done) | (simp; omega)), B1.out⟩
  · skip
    rw [if_neg hc1] at P2
    obtain ⟨x0, x1, x2, x3⟩ := X.out.c4
    have ml := M.out.lt
    go_region_held3 (fun w' => w'.cell? ⟨w1.heap.size, 0, none⟩ = some (.slice (some ⟨b, off, none⟩) n1 c1))
      (((repeat (with_reducible refine cell_set ?_ (by show w1.heap.size ≠ w3.heap.size; omega) _)); (with_reducible refine cell_up (w := W) ?_ x0); (repeat' (first | with_reducible exact WB.out | with_reducible exact WA.out | with_reducible exact Below.refl _ _ | with_reducible refine Below.drew ?_ | with_reducible refine Below.alloc ?_ (by first | omega | (simp; done) | (simp; omega)) _))))
      (first
        | (refine step_append_new rfl (.tmp 39) (.tmp 43) 23 rfl 29 W.heap.size W.heap.size infoEnt2 Try.underlying23 (by simp [Act.eval]) (by first | exact G1.out | exact (G1.out).drew) (some ⟨b, off, none⟩) K c1 (xs.take K) (by simp [Act.eval]) (by first | exact p1.out | exact (p1.out).drew) (by omega) (by omega) ?_; intro E1 d1 wa ho hb hq; have O1 := Lib.hid ho; have WA : Hid (Below W.heap.size W wa) := Lib.hid (below_then (by first | exact B2.out | exact Below.drew (B2.out)) hb); have za := WA.out.size; clear ho hb hq)
        | (refine step_append_ts2 rfl (.tmp 44) (.tmp 49) 23 rfl W.heap.size 29 infoEnt2 Try.underlying23 E1 K d1 (xs.take K) (by simp [Act.eval]) (by first | exact O1.out | exact (O1.out).drew) (some ⟨b, off + J * 3, none⟩) M0 (c1 - J) (xs.drop J) (by simp [Act.eval]) (by first | exact (P2.out.below WA.out (Nat.le_refl _)) | exact ((P2.out.below WA.out (Nat.le_refl _))).drew) (by omega) (by first | omega | (simp; done) | (simp; omega)) ?_; intro E3 d2 wb ho hg hnr; have O2 := Lib.hid ho; have WB : Hid (Below W.heap.size W wb) := Lib.hid (below_row (by first | exact WA.out | exact Below.drew (WA.out)) hg (by first | omega | (simp; done) | (simp; omega)) O1.out.ge); have zb := WB.out.size; have Mb := Lib.hid (M.out.on WB.out); have Xb := Lib.hid (X.out.on WB.out); obtain ⟨m0, m1, m2, m3⟩ := Mb.out.c4; have f0 := Mb.out.frozen 0; clear ho hg hnr))
    skip
    have BQ := Lib.hid (((BW.out.trans (WB.out.mono BW.out.size)).setCell (Nat.le_refl _) (.slice E3 (K + M0) d2) : Below w3.heap.size w3 (wb.setCell ⟨w3.heap.size, 0, none⟩ (.slice E3 (K + M0) d2))))
    have Lq := Lib.hid ((O2.out.setCell (p := ⟨w3.heap.size, 0, none⟩) ml (.slice E3 (K + M0) d2)).ts)
    have S2q := Lib.hid (S2o.out.below BQ.out (Nat.le_refl _))
    have S3q := Lib.hid (S3o.out.below BQ.out (Nat.le_refl _))
    have T1q := Lib.hid (T1o.out.below BQ.out (Nat.le_refl _))
    have Xq := Lib.hid (Xo.out.on BQ.out)
    have MQ : Hid (Blk (wb.setCell ⟨w3.heap.size, 0, none⟩ (.slice E3 (K + M0) d2)) w3.heap.size 26 #[.slice E3 (K + M0) d2, .slice A2 n2 c2, .slice A3 n3 c3, .int .i64 t]) := Lib.hid (Mb.out.set_ 0 _)
    replace B1 := Lib.hid (B1o.out.trans (BQ.out.mono B1o.out.size))
    clear BQ WB WA Mb Xb m0 m1 m2 m3 f0 x0 x1 x2 x3 O1 O2 S2 S3 T1 X M
    obtain ⟨mq0, mq1, mq2, mq3⟩ := MQ.out.c4
    go_wp2_with (fail)
    refine (call_b (impl_ValidQueue_any t _ Lq.out S2q.out S3q.out) HVL.out).mono ?_
    clear mq0 mq1 mq2 mq3
    rintro e w21 ⟨rfl, hb⟩
    replace Lq := Lib.hid (Lq.out.below hb (Nat.le_refl _))
    replace S2q := Lib.hid (S2q.out.below hb (Nat.le_refl _))
    replace S3q := Lib.hid (S3q.out.below hb (Nat.le_refl _))
    replace T1q := Lib.hid (T1q.out.below hb (Nat.le_refl _))
    replace MQ := Lib.hid (MQ.out.on hb)
    replace Xq := Lib.hid (Xq.out.on hb)
    replace B1 := Lib.hid (B1.out.trans (hb.mono B1.out.size))
    clear hb
    obtain ⟨xq0, xq1, xq2, xq3⟩ := Xq.out.c4
    go_wp2_with (fail)
    refine (call_b (impl_ValidEntries_any _ T1q.out) HVE.out).mono ?_
    clear xq0 xq1 xq2 xq3
    rintro e w22 ⟨rfl, hb⟩
    replace Lq := Lib.hid (Lq.out.below hb (Nat.le_refl _))
    replace S2q := Lib.hid (S2q.out.below hb (Nat.le_refl _))
    replace S3q := Lib.hid (S3q.out.below hb (Nat.le_refl _))
    replace T1q := Lib.hid (T1q.out.below hb (Nat.le_refl _))
    replace MQ := Lib.hid (MQ.out.on hb)
    replace Xq := Lib.hid (Xq.out.on hb)
    replace B1 := Lib.hid (B1.out.trans (hb.mono B1.out.size))
    clear hb
    go_wp2_with (fail)
    go_ret
    exact ⟨ret_bool (by first | rfl | (simp; done) | (simp; omega)), B1.out⟩
end Go.Proofs.Ythemfejahohbeaa
