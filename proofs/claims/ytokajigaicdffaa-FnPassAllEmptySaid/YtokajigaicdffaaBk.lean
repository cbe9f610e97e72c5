/-
  Contracts of the functions on buckets.
-/
import Derived.Test.YtokajigaicdffaaBkM
import Derived.Deep.DeepMust
import Derived.Deep.RegionHeld3
import Derived.Deep.QuietTactic
import Derived.Lib.MinMax
namespace Go.Proofs.Ytokajigaicdffaa
open Go.RowKit

theorem Blk.c4 {w : World} {g : Nat} {t : TypeId} {a b c d : Value} (h : Blk w g t #[a, b, c, d]) : w.cell? ⟨g, 0, none⟩ = some a ∧ w.cell? ⟨g, 1, none⟩ = some b ∧ w.cell? ⟨g, 2, none⟩ = some c ∧ w.cell? ⟨g, 3, none⟩ = some d := ⟨h.cell 0, h.cell 1, h.cell 2, h.cell 3⟩
theorem call_bool {P : Program} {f : FuncId} {args : Array Value} {w : World} {b b' : Bool} {R : World → Prop} (h : Calls P f args w fun e w' => e = .returned (.bool b) ∧ R w') (hb : b = b') :
    Calls P f args w fun e w' => e = .returned (.bool b') ∧ R w' := hb ▸ h
set_option maxHeartbeats 2000000 in
theorem impl_ValidBucket_any (s r l t : Int) (w : World) :
    Calls Try.prog 16 #[.agg #[.int .i64 s, .int .i64 r, .int .i64 l, .int .i64 t]] w fun e w' => e = .returned (.bool (bkV s r l t)) ∧ Below w.heap.size w w' := by
  rcases h1 : inR s 1 200 with _ | _
  · go_enter Try.func16, Try.ntmps16
    go_wp2_with (go_at_call 23; refine (impl_within_any _ _ _ _).mono ?_; rintro e w' ⟨rfl, rfl⟩)
    go_ret
    exact ⟨ret_bool (by simp [bkV, h1]), below_new _ _⟩
  rcases h2 : inR r 1 20 with _ | _
  · go_enter Try.func16, Try.ntmps16
    go_wp2_with (go_at_call 23; refine (impl_within_any _ _ _ _).mono ?_; rintro e w' ⟨rfl, rfl⟩)
    go_ret
    exact ⟨ret_bool (by simp [bkV, h2]), below_new _ _⟩
  rcases h3 : inR l 0 s with _ | _
  · go_enter Try.func16, Try.ntmps16
    go_wp2_with (go_at_call 23; refine (impl_within_any _ _ _ _).mono ?_; rintro e w' ⟨rfl, rfl⟩)
    go_ret
    exact ⟨ret_bool (by simp [bkV, h3]), below_new _ _⟩
  go_enter Try.func16, Try.ntmps16
  go_wp2_with (go_at_call 23; refine (impl_within_any _ _ _ _).mono ?_; rintro e w' ⟨rfl, rfl⟩)
  go_ret
  exact ⟨ret_bool (by simp [bkV, h1, h2, h3]), below_new _ _⟩
set_option maxHeartbeats 2000000 in
theorem spec_validBucket_any (s r l t : Int) (w : World) :
    Calls Try.prog 18 #[.agg #[.int .i64 s, .int .i64 r, .int .i64 l, .int .i64 t]] w fun e w' => e = .returned (.bool (bkV s r l t)) ∧ Below w.heap.size w w' := by
  rcases h1 : inR s 1 200 with _ | _
  all_goals rcases h2 : inR r 1 20 with _ | _
  all_goals rcases h3 : inR l 0 s with _ | _
  all_goals
    go_enter Try.func18, Try.ntmps18
    go_wp2_with (go_at_call 30; refine (spec_inRange_any _ _ _ _).mono ?_; rintro e w' ⟨rfl, rfl⟩)
    go_ret
    exact ⟨ret_bool (by simp [bkV, h1, h2, h3]), below_new _ _⟩
set_option maxHeartbeats 1000000 in
theorem spec_levelAt_any (s r l t now : Int) (w : World) (h : bkV s r l t = true) (hn : inR now t 1000 = true) :
    Calls Try.prog 31 #[.agg #[.int .i64 s, .int .i64 r, .int .i64 l, .int .i64 t], .int .i64 now] w fun e w' => e = .returned (.int .i64 (lvN s r l t now)) ∧ Below w.heap.size w w' := by
  obtain ⟨f0, f1⟩ := fill_bd h hn
  obtain ⟨h1, h2, h3, h4⟩ := bkV_in h
  obtain ⟨n1, n2⟩ := inR_iff.1 hn
  rw [Int.mul_comm] at f0 f1
  have hw1 : IntKind.i64.wrap (now - t) = now - t := by rw [IntKind.wrap_i64]; omega
  have hw2 : IntKind.i64.wrap ((now - t) * r) = (now - t) * r := by rw [IntKind.wrap_i64]; omega
  have hw3 : IntKind.i64.wrap (l + (now - t) * r) = l + (now - t) * r := by rw [IntKind.wrap_i64]; omega
  go_enter Try.func31, Try.ntmps31
  go_wp2_with (fail)
  go_ret
  exact ⟨ret_int (by simp only [lvN]; rw [Int.mul_comm r]; omega), below_new _ _⟩
set_option maxHeartbeats 2000000 in
theorem impl_LevelAt_any (s r l t now : Int) (w : World) :
    Calls Try.prog 11 #[.agg #[.int .i64 s, .int .i64 r, .int .i64 l, .int .i64 t], .int .i64 now] w fun e w' => e = .returned (.int .i64 (lvV s r l t now)) ∧ Below w.heap.size w w' := by
  have B0 := Lib.hid (below_new w (.cells #[.int .i64 s, .int .i64 r, .int .i64 l, .int .i64 t] 24))
  have P0 := Lib.hid (Blk.new w 24 #[.int .i64 s, .int .i64 r, .int .i64 l, .int .i64 t])
  rcases hv : bkV s r l t with _ | _
  · go_enter Try.func11, Try.ntmps11
    go_wp2_with (fail)
    refine (call_bool (impl_ValidBucket_any s r l t _) hv).mono ?_
    rintro e w1 ⟨rfl, hb⟩
    have B1 := Lib.hid (B0.out.trans (hb.mono (by simp)))
    clear hb
    go_wp2_with (fail)
    go_ret
    exact ⟨ret_int (lvV_b hv).symm, B1.out⟩
  rcases hn : inR now t 1000 with _ | _
  · go_enter Try.func11, Try.ntmps11
    go_wp2_with (fail)
    refine (call_bool (impl_ValidBucket_any s r l t _) hv).mono ?_
    rintro e w1 ⟨rfl, hb⟩
    have B1 := Lib.hid (B0.out.trans (hb.mono (by simp)))
    have P1 := Lib.hid (P0.out.on hb)
    clear hb
    obtain ⟨p0, p1, p2, p3⟩ := P1.out.c4
    go_wp2_with (go_at_call 23; refine (impl_within_any _ _ _ _).mono ?_; rintro e w' ⟨rfl, rfl⟩)
    go_ret
    exact ⟨ret_int (lvV_n hn).symm, B1.out⟩
  obtain ⟨f0, f1⟩ := fill_bd hv hn
  obtain ⟨h1, h2, h3, h4⟩ := bkV_in hv
  obtain ⟨n1, n2⟩ := inR_iff.1 hn
  have hw1 : IntKind.i64.wrap (now - t) = now - t := by rw [IntKind.wrap_i64]; omega
  have hw2 : IntKind.i64.wrap (r * (now - t)) = r * (now - t) := by rw [IntKind.wrap_i64]; omega
  have hw3 : IntKind.i64.wrap (l + r * (now - t)) = l + r * (now - t) := by rw [IntKind.wrap_i64]; omega
  have HL := Lib.hid (lvV_t hv hn)
  go_enter Try.func11, Try.ntmps11
  go_wp2_with (fail)
  refine (call_bool (impl_ValidBucket_any s r l t _) hv).mono ?_
  rintro e w1 ⟨rfl, hb⟩
  have B1 := Lib.hid (B0.out.trans (hb.mono (by simp)))
  have P1 := Lib.hid (P0.out.on hb)
  clear hb
  obtain ⟨p0, p1, p2, p3⟩ := P1.out.c4
  go_wp2_with (go_at_call 23; refine (impl_within_any _ _ _ _).mono ?_; rintro e w' ⟨rfl, rfl⟩)
  go_ret
  exact ⟨ret_int (by rw [HL.out]; rfl), B1.out⟩
set_option maxHeartbeats 2000000 in
theorem impl_TakeFrom_any (s r l t x now : Int) (w : World) :
    Calls Try.prog 10 #[.agg #[.int .i64 s, .int .i64 r, .int .i64 l, .int .i64 t], .int .i64 x, .int .i64 now] w fun e w' => e = .returned (.tuple #[.agg #[.int .i64 (tkS s r l t x now), .int .i64 (tkR s r l t x now), .int .i64 (tkL s r l t x now), .int .i64 (tkT s r l t x now)], .bool (tkOK s r l t x now)]) ∧ Below w.heap.size w w' := by
  have B0 := Lib.hid ((below_new w (.cells #[.int .i64 s, .int .i64 r, .int .i64 l, .int .i64 t] 24)).alloc (by simp) (.cells #[.int .i64 0, .int .i64 0, .int .i64 0, .int .i64 0] 24))
  have P0 := Lib.hid ((Blk.new w 24 #[.int .i64 s, .int .i64 r, .int .i64 l, .int .i64 t]).alloc (.cells #[.int .i64 0, .int .i64 0, .int .i64 0, .int .i64 0] 24))
  have Q0 : Hid (Blk ((w.alloc (.cells #[.int .i64 s, .int .i64 r, .int .i64 l, .int .i64 t] 24)).alloc (.cells #[.int .i64 0, .int .i64 0, .int .i64 0, .int .i64 0] 24)) (w.heap.size + 1) 24 #[.int .i64 0, .int .i64 0, .int .i64 0, .int .i64 0]) := Lib.hid (by simpa using Blk.new (w.alloc (.cells #[.int .i64 s, .int .i64 r, .int .i64 l, .int .i64 t] 24)) 24 #[.int .i64 0, .int .i64 0, .int .i64 0, .int .i64 0])
  obtain ⟨v, hv⟩ : ∃ v, lvV s r l t now = v := ⟨_, rfl⟩
  have hvb := lvV_bd s r l t now
  rw [hv] at hvb
  have HV := Lib.hid hv
  clear hv
  rcases ho : inR x 0 v with _ | _
  · have HO : Hid (tkOK s r l t x now = false) := Lib.hid (by unfold tkOK; rw [HV.out, ho])
    go_enter Try.func10, Try.ntmps10
    go_wp2_with (fail)
    refine (call_int (impl_LevelAt_any s r l t now _) HV.out).mono ?_
    rintro e w1 ⟨rfl, hb⟩
    have B1 := Lib.hid (B0.out.trans (hb.mono B0.out.size))
    have Q1 := Lib.hid (Q0.out.on hb)
    have P1 := Lib.hid (P0.out.on hb)
    clear hb
    obtain ⟨p0, p1, p2, p3⟩ := P1.out.c4
    obtain ⟨q0, q1, q2, q3⟩ := Q1.out.c4
    have f0 := Q1.out.frozen 0
    have f1 := Q1.out.frozen 1
    have f2 := Q1.out.frozen 2
    have f3 := Q1.out.frozen 3
    go_wp2_with (go_at_call 23; refine (impl_within_any _ _ _ _).mono ?_; rintro e w' ⟨rfl, rfl⟩)
    refine bodyPost_ret (v := .tuple #[.agg #[.int .i64 0, .int .i64 0, .int .i64 0, .int .i64 0], .bool false]) (by simp [results, Try.results10, go_sem, q0, q1, q2, q3]) rfl ?_
    refine ⟨by simp [tkS, tkR, tkL, tkT, HO.out], ?_⟩
    repeat' (first | with_reducible exact B1.out | refine Below.setCell ?_ ?_ _ | (show w.heap.size ≤ _; first | omega | (simp; done) | (simp; omega)))
  · have HO : Hid (tkOK s r l t x now = true) := Lib.hid (by unfold tkOK; rw [HV.out, ho])
    obtain ⟨x0, x1⟩ := inR_iff.1 ho
    have hw1 : IntKind.i64.wrap (v - x) = v - x := by rw [IntKind.wrap_i64]; omega
    go_enter Try.func10, Try.ntmps10
    go_wp2_with (fail)
    refine (call_int (impl_LevelAt_any s r l t now _) HV.out).mono ?_
    rintro e w1 ⟨rfl, hb⟩
    have B1 := Lib.hid (B0.out.trans (hb.mono B0.out.size))
    have Q1 := Lib.hid (Q0.out.on hb)
    have P1 := Lib.hid (P0.out.on hb)
    clear hb
    obtain ⟨p0, p1, p2, p3⟩ := P1.out.c4
    obtain ⟨q0, q1, q2, q3⟩ := Q1.out.c4
    have f0 := Q1.out.frozen 0
    have f1 := Q1.out.frozen 1
    have f2 := Q1.out.frozen 2
    have f3 := Q1.out.frozen 3
    go_wp2_with (go_at_call 23; refine (impl_within_any _ _ _ _).mono ?_; rintro e w' ⟨rfl, rfl⟩)
    refine bodyPost_ret (v := .tuple #[.agg #[.int .i64 s, .int .i64 r, .int .i64 (v - x), .int .i64 now], .bool true]) (by simp [results, Try.results10, go_sem, q0, q1, q2, q3]) rfl ?_
    refine ⟨by simp [tkS, tkR, tkL, tkT, HO.out, HV.out], ?_⟩
    repeat' (first | with_reducible exact B1.out | refine Below.setCell ?_ ?_ _ | (show w.heap.size ≤ _; first | omega | (simp; done) | (simp; omega)))
set_option maxHeartbeats 1600000 in
theorem spec_TakeFrom_any (s r l t x now : Int) (w : World) :
    Calls Try.prog 21 #[.agg #[.int .i64 s, .int .i64 r, .int .i64 l, .int .i64 t], .int .i64 x, .int .i64 now] w fun e w' => e = .returned (.tuple #[.agg #[.int .i64 (tkS s r l t x now), .int .i64 (tkR s r l t x now), .int .i64 (tkL s r l t x now), .int .i64 (tkT s r l t x now)], .bool (tkOK s r l t x now)]) ∧ Below w.heap.size w w' := by
  have B0 := Lib.hid ((below_new w (.cells #[.int .i64 s, .int .i64 r, .int .i64 l, .int .i64 t] 24)).alloc (by simp) (.cells #[.int .i64 0, .int .i64 0, .int .i64 0, .int .i64 0] 24))
  have P0 := Lib.hid ((Blk.new w 24 #[.int .i64 s, .int .i64 r, .int .i64 l, .int .i64 t]).alloc (.cells #[.int .i64 0, .int .i64 0, .int .i64 0, .int .i64 0] 24))
  have Q0 : Hid (Blk ((w.alloc (.cells #[.int .i64 s, .int .i64 r, .int .i64 l, .int .i64 t] 24)).alloc (.cells #[.int .i64 0, .int .i64 0, .int .i64 0, .int .i64 0] 24)) (w.heap.size + 1) 24 #[.int .i64 0, .int .i64 0, .int .i64 0, .int .i64 0]) := Lib.hid (by simpa using Blk.new (w.alloc (.cells #[.int .i64 s, .int .i64 r, .int .i64 l, .int .i64 t] 24)) 24 #[.int .i64 0, .int .i64 0, .int .i64 0, .int .i64 0])
  have BAD : Hid (∀ w1, Below w.heap.size w w1 → tkOK s r l t x now = false → ((Ending.returned (.tuple #[.agg #[.int .i64 0, .int .i64 0, .int .i64 0, .int .i64 0], .bool false]) = Ending.returned (.tuple #[.agg #[.int .i64 (tkS s r l t x now), .int .i64 (tkR s r l t x now), .int .i64 (tkL s r l t x now), .int .i64 (tkT s r l t x now)], .bool (tkOK s r l t x now)])) ∧ Below w.heap.size w w1)) := Lib.hid (fun w1 hb ho => ⟨by simp [tkS, tkR, tkL, tkT, ho], hb⟩)
  rcases hv : bkV s r l t with _ | _
  · have HB := Lib.hid hv
    have HO : Hid (tkOK s r l t x now = false) := Lib.hid (by rcases h : tkOK s r l t x now with _ | _; exact rfl; have := (tkOK_in h).1; rw [hv] at this; exact this.symm)
    clear hv
    go_enter Try.func21, Try.ntmps21
    go_wp2_with (fail)
    refine (call_bool (spec_validBucket_any s r l t _) HB.out).mono ?_
    rintro e w1 ⟨rfl, hb⟩
    have B1 := Lib.hid (B0.out.trans (hb.mono B0.out.size))
    have Q1 := Lib.hid (Q0.out.on hb)
    have P1 := Lib.hid (P0.out.on hb)
    have hz1 : w.heap.size + 1 < w1.heap.size := Q1.out.lt
    clear hb
    obtain ⟨p0, p1, p2, p3⟩ := P1.out.c4
    obtain ⟨q0, q1, q2, q3⟩ := Q1.out.c4
    have f0 := Q1.out.frozen 0
    have f1 := Q1.out.frozen 1
    have f2 := Q1.out.frozen 2
    have f3 := Q1.out.frozen 3
    go_wp2_with (fail)
    refine bodyPost_ret (v := .tuple #[.agg #[.int .i64 0, .int .i64 0, .int .i64 0, .int .i64 0], .bool false]) (by simp [results, Try.results21, go_sem, q0, q1, q2, q3]) rfl ?_
    refine BAD.out _ ?_ HO.out
    repeat' (first | with_reducible exact B1.out | refine Below.setCell ?_ ?_ _ | (show w.heap.size ≤ _; first | omega | (simp; done) | (simp; omega)))
  rcases hx : inR x 0 200 with _ | _
  · have HB := Lib.hid hv
    have HO : Hid (tkOK s r l t x now = false) := Lib.hid (by
      rcases h : tkOK s r l t x now with _ | _
      · rfl
      · obtain ⟨a1, a2, a3, a4, a5⟩ := tkOK_in h
        have := lvN_bd a1 a2
        have := bkV_in hv
        have hx' := inR_t (n := x) (lo := 0) (hi := 200) (by omega) (by omega)
        rw [hx] at hx'
        cases hx')
    clear hv
    go_enter Try.func21, Try.ntmps21
    go_wp2_with (fail)
    refine (call_bool (spec_validBucket_any s r l t _) HB.out).mono ?_
    rintro e w1 ⟨rfl, hb⟩
    have B1 := Lib.hid (B0.out.trans (hb.mono B0.out.size))
    have Q1 := Lib.hid (Q0.out.on hb)
    have P1 := Lib.hid (P0.out.on hb)
    have hz1 : w.heap.size + 1 < w1.heap.size := Q1.out.lt
    clear hb
    obtain ⟨p0, p1, p2, p3⟩ := P1.out.c4
    obtain ⟨q0, q1, q2, q3⟩ := Q1.out.c4
    have f0 := Q1.out.frozen 0
    have f1 := Q1.out.frozen 1
    have f2 := Q1.out.frozen 2
    have f3 := Q1.out.frozen 3
    go_wp2_with (go_at_call 30; refine (spec_inRange_any _ _ _ _).mono ?_; rintro e w' ⟨rfl, rfl⟩)
    refine bodyPost_ret (v := .tuple #[.agg #[.int .i64 0, .int .i64 0, .int .i64 0, .int .i64 0], .bool false]) (by simp [results, Try.results21, go_sem, q0, q1, q2, q3]) rfl ?_
    refine BAD.out _ ?_ HO.out
    repeat' (first | with_reducible exact B1.out | refine Below.setCell ?_ ?_ _ | (show w.heap.size ≤ _; first | omega | (simp; done) | (simp; omega)))
  rcases hn : inR now t 1000 with _ | _
  · have HB := Lib.hid hv
    have HO : Hid (tkOK s r l t x now = false) := Lib.hid (by rcases h : tkOK s r l t x now with _ | _; exact rfl; have := (tkOK_in h).2.1; rw [hn] at this; exact this.symm)
    clear hv
    go_enter Try.func21, Try.ntmps21
    go_wp2_with (fail)
    refine (call_bool (spec_validBucket_any s r l t _) HB.out).mono ?_
    rintro e w1 ⟨rfl, hb⟩
    have B1 := Lib.hid (B0.out.trans (hb.mono B0.out.size))
    have Q1 := Lib.hid (Q0.out.on hb)
    have P1 := Lib.hid (P0.out.on hb)
    have hz1 : w.heap.size + 1 < w1.heap.size := Q1.out.lt
    clear hb
    obtain ⟨p0, p1, p2, p3⟩ := P1.out.c4
    obtain ⟨q0, q1, q2, q3⟩ := Q1.out.c4
    have f0 := Q1.out.frozen 0
    have f1 := Q1.out.frozen 1
    have f2 := Q1.out.frozen 2
    have f3 := Q1.out.frozen 3
    go_wp2_with (go_at_call 30; refine (spec_inRange_any _ _ _ _).mono ?_; rintro e w' ⟨rfl, rfl⟩)
    refine bodyPost_ret (v := .tuple #[.agg #[.int .i64 0, .int .i64 0, .int .i64 0, .int .i64 0], .bool false]) (by simp [results, Try.results21, go_sem, q0, q1, q2, q3]) rfl ?_
    refine BAD.out _ ?_ HO.out
    repeat' (first | with_reducible exact B1.out | refine Below.setCell ?_ ?_ _ | (show w.heap.size ≤ _; first | omega | (simp; done) | (simp; omega)))
  obtain ⟨v, hlv⟩ : ∃ v, lvN s r l t now = v := ⟨_, rfl⟩
  have hvb := lvN_bd hv hn
  have hbk := bkV_in hv
  rw [hlv] at hvb
  have HV : Hid (lvV s r l t now = v) := Lib.hid (by rw [lvV_t hv hn, hlv])
  have HLV := Lib.hid hlv
  have HN := Lib.hid hn
  obtain ⟨x0, x1⟩ := inR_iff.1 hx
  have HB := Lib.hid hv
  clear hlv hv
  by_cases hvx : v < x
  · have HO : Hid (tkOK s r l t x now = false) := Lib.hid (by unfold tkOK; rw [HV.out]; exact inR_h hvx)
    go_enter Try.func21, Try.ntmps21
    go_wp2_with (fail)
    refine (call_bool (spec_validBucket_any s r l t _) HB.out).mono ?_
    rintro e w1 ⟨rfl, hb⟩
    have B1 := Lib.hid (B0.out.trans (hb.mono B0.out.size))
    have Q1 := Lib.hid (Q0.out.on hb)
    have P1 := Lib.hid (P0.out.on hb)
    have hz1 : w.heap.size + 1 < w1.heap.size := Q1.out.lt
    clear hb
    obtain ⟨p0, p1, p2, p3⟩ := P1.out.c4
    go_wp2_with (go_at_call 30; refine (spec_inRange_any _ _ _ _).mono ?_; rintro e w' ⟨rfl, rfl⟩)
    refine (call_int (spec_levelAt_any s r l t now _ HB.out HN.out) HLV.out).mono ?_
    rintro e w2 ⟨rfl, hb⟩
    have B2 := Lib.hid (B1.out.trans (hb.mono B1.out.size))
    have Q2 := Lib.hid (Q1.out.on hb)
    clear hb
    obtain ⟨q0, q1, q2, q3⟩ := Q2.out.c4
    have f0 := Q2.out.frozen 0
    have f1 := Q2.out.frozen 1
    have f2 := Q2.out.frozen 2
    have f3 := Q2.out.frozen 3
    go_wp2_with (fail)
    refine bodyPost_ret (v := .tuple #[.agg #[.int .i64 0, .int .i64 0, .int .i64 0, .int .i64 0], .bool false]) (by simp [results, Try.results21, go_sem, q0, q1, q2, q3]) rfl ?_
    refine BAD.out _ ?_ HO.out
    repeat' (first | with_reducible exact B2.out | refine Below.setCell ?_ ?_ _ | (show w.heap.size ≤ _; first | omega | (simp; done) | (simp; omega)))
  · have hvx' : decide (v < x) = false := by simp; omega
    have HO : Hid (tkOK s r l t x now = true) := Lib.hid (by unfold tkOK; rw [HV.out]; exact inR_t x0 (by omega))
    have hw1 : IntKind.i64.wrap (v - x) = v - x := by rw [IntKind.wrap_i64]; omega
    go_enter Try.func21, Try.ntmps21
    go_wp2_with (fail)
    refine (call_bool (spec_validBucket_any s r l t _) HB.out).mono ?_
    rintro e w1 ⟨rfl, hb⟩
    have B1 := Lib.hid (B0.out.trans (hb.mono B0.out.size))
    have Q1 := Lib.hid (Q0.out.on hb)
    have P1 := Lib.hid (P0.out.on hb)
    have hz1 : w.heap.size + 1 < w1.heap.size := Q1.out.lt
    clear hb
    obtain ⟨p0, p1, p2, p3⟩ := P1.out.c4
    go_wp2_with (go_at_call 30; refine (spec_inRange_any _ _ _ _).mono ?_; rintro e w' ⟨rfl, rfl⟩)
    refine (call_int (spec_levelAt_any s r l t now _ HB.out HN.out) HLV.out).mono ?_
    rintro e w2 ⟨rfl, hb⟩
    have B2 := Lib.hid (B1.out.trans (hb.mono B1.out.size))
    have Q2 := Lib.hid (Q1.out.on hb)
    have P2 := Lib.hid (P1.out.on hb)
    have hz2 : w.heap.size + 1 < w2.heap.size := Q2.out.lt
    clear hb
    obtain ⟨p0, p1, p2, p3⟩ := P2.out.c4
    go_wp2_with (fail)
    go_region_held3 (fun w' => w'.cell? ⟨w.heap.size, 0, none⟩ = some (.int .i64 s) ∧ w'.cell? ⟨w.heap.size, 1, none⟩ = some (.int .i64 r) ∧ w'.cell? ⟨w.heap.size, 2, none⟩ = some (.int .i64 l) ∧ w'.cell? ⟨w.heap.size, 3, none⟩ = some (.int .i64 t))
      (refine And.intro ?_ (And.intro ?_ (And.intro ?_ ?_)) <;> ((repeat (with_reducible refine cell_set ?_ (by show w.heap.size ≠ w.heap.size + 1; omega) _)); (first | with_reducible refine cell_up (w := w2) ?_ p0 | with_reducible refine cell_up (w := w2) ?_ p1 | with_reducible refine cell_up (w := w2) ?_ p2 | with_reducible refine cell_up (w := w2) ?_ p3); (repeat' (first | with_reducible exact W3.out | with_reducible exact Below.refl _ _ | with_reducible refine Below.drew ?_ | with_reducible refine Below.alloc ?_ ?_ _ | omega | (simp; done) | (simp; omega)))))
      (first
       | (go_at_call 31; go_must (refine (call_int (spec_levelAt_any s r l t now _ HB.out HN.out) HLV.out).mono ?_; rintro e w3 ⟨rfl, hb⟩; have W3 : Hid (Below w2.heap.size w2 w3) := Lib.hid ((Below.refl w2.heap.size w2).drew.trans hb); have z3 := W3.out.size; have Q3 := Lib.hid (Q2.out.on W3.out); obtain ⟨q0, q1, q2, q3⟩ := Q3.out.c4; have f0 := Q3.out.frozen 0; have f1 := Q3.out.frozen 1; have f2 := Q3.out.frozen 2; have f3 := Q3.out.frozen 3; clear hb)))
    all_goals (
      go_wp2_with (fail)
      refine bodyPost_ret (v := .tuple #[.agg #[.int .i64 s, .int .i64 r, .int .i64 (v - x), .int .i64 now], .bool true]) (by simp [results, Try.results21, go_sem, q0, q1, q2, q3]) rfl ?_
      refine ⟨by simp [tkS, tkR, tkL, tkT, HO.out, HV.out], ?_⟩
      repeat (refine Below.setCell ?_ (by show w.heap.size ≤ w.heap.size + 1; omega) _)
      exact B2.out.trans (W3.out.mono B2.out.size))
end Go.Proofs.Ytokajigaicdffaa
