/-
  Contracts of the model's functions on windows: SendNext, OpenBatches, LostBatches.
-/
import Derived.Test.YtpfeadjmmefbgaaWiS
import Derived.Deep.RegionHeld3
import Derived.Deep.RegionLaw
namespace Go.Proofs.Ytpfeadjmmefbgaa
open Go.RowKit

set_option maxHeartbeats 4000000 in
theorem spec_SendNext_any {A : Option Addr} {n c : Nat} {xs : List Int} (b nx : Int) (w : World) (h : IS w A n c xs) :
    Calls Try.prog 8 #[.agg #[.int .i64 b, .int .i64 nx, .slice A n c]] w (GaveSn 3 w (snB b nx xs) (snN b nx xs) (snX b nx xs) (snI b nx xs) (snOK b nx xs)) := by
  have H := Lib.hid ((h.alloc (.cells #[.int .i64 b, .int .i64 nx, .slice A n c] 25)).alloc (.cells #[.int .i64 0, .int .i64 0, .slice none 0 0] 25))
  clear h
  have P0 := Lib.hid ((Blk.new w 25 #[.int .i64 b, .int .i64 nx, .slice A n c]).alloc (.cells #[.int .i64 0, .int .i64 0, .slice none 0 0] 25))
  have Q0 : Hid (Blk _ (w.heap.size + 1) 25 #[.int .i64 0, .int .i64 0, .slice none 0 0]) := Lib.hid (by simpa using Blk.new (w.alloc (.cells #[.int .i64 b, .int .i64 nx, .slice A n c] 25)) 25 #[.int .i64 0, .int .i64 0, .slice none 0 0])
  have B0 := Lib.hid ((below_new w (.cells #[.int .i64 b, .int .i64 nx, .slice A n c] 25)).alloc (by simp) (.cells #[.int .i64 0, .int .i64 0, .slice none 0 0] 25))
  have BAD : Hid (∀ W : World, Below w.heap.size w W → snOK b nx xs = false → GaveSn 3 w (snB b nx xs) (snN b nx xs) (snX b nx xs) (snI b nx xs) (snOK b nx xs) (.returned (.tuple #[.agg #[.int .i64 0, .int .i64 0, .slice none 0 0], .int .i64 (-1), .bool false])) W) := Lib.hid fun W hB hk =>
    ⟨none, 0, 0, by simp [snB, snN, snI, hk], by simp only [snX, hk]; exact OW.nil _ _ _, hB⟩
  rcases hv : winV b nx xs with _ | _
  · have HV := Lib.hid hv
    clear hv
    go_enter Try.func8, Try.ntmps8
    go_wp2_with (fail)
    refine (call_bool (spec_validWindow_any b nx _ H.out) HV.out).mono ?_
    rintro e w1 ⟨rfl, hb⟩
    have B1 := Lib.hid (B0.out.trans (hb.mono B0.out.size))
    have Q1 := Lib.hid (Q0.out.on hb)
    clear hb
    obtain ⟨q0, q1, q2⟩ := Q1.out.c3
    have f0 := Q1.out.frozen 0
    have f1 := Q1.out.frozen 1
    have f2 := Q1.out.frozen 2
    go_wp2_with (fail)
    refine bodyPost_ret (v := .tuple #[.agg #[.int .i64 0, .int .i64 0, .slice none 0 0], .int .i64 (-1), .bool false]) (by simp [results, Try.results8, go_sem, q0, q1, q2]) rfl ?_
    refine BAD.out _ ?_ (by simp [snOK, HV.out])
    repeat' (first | with_reducible exact B1.out | refine Below.setCell ?_ ?_ _ | (show w.heap.size ≤ _; first | omega | (simp; done) | (simp; omega)))
  obtain ⟨hb0, hb1, hx0, hx1, _⟩ := winV_facts hv
  have hw8 : IntKind.i64.wrap (b + 8) = b + 8 := by rw [IntKind.wrap_i64]; omega
  have hwn : IntKind.i64.wrap (nx + 1) = nx + 1 := by rw [IntKind.wrap_i64]; omega
  have HV := Lib.hid hv
  clear hv
  by_cases h8 : nx < b + 8
  · have hne : (nx == b + 8) = false := by simp; omega
    have HK : Hid (snOK b nx xs = true) := Lib.hid (by simp [snOK, HV.out, h8])
    go_enter Try.func8, Try.ntmps8
    go_wp2_with (fail)
    refine (call_bool (spec_validWindow_any b nx _ H.out) HV.out).mono ?_
    rintro e w1 ⟨rfl, hb⟩
    have B1 := Lib.hid (B0.out.trans (hb.mono B0.out.size))
    have P1 := Lib.hid (P0.out.on hb)
    have Q1 := Lib.hid (Q0.out.on hb)
    have H1 := Lib.hid (H.out.below hb (Nat.le_refl _))
    have hz1 : w.heap.size + 1 < w1.heap.size := Q1.out.lt
    clear hb
    obtain ⟨p0, p1, p2⟩ := P1.out.c3
    go_wp2_with (fail)
    have hn8 : n ≤ 8 := by have h1 := win_len HV.out; have h2 := H1.out.len; omega
    go_region_held3 (fun w' => w'.cell? ⟨w.heap.size, 0, none⟩ = some (.int .i64 b) ∧ w'.cell? ⟨w.heap.size, 1, none⟩ = some (.int .i64 nx) ∧ w'.cell? ⟨w.heap.size, 2, none⟩ = some (.slice A n c))
      (refine And.intro ?_ (And.intro ?_ ?_) <;> ((repeat (with_reducible refine cell_set ?_ (by show w.heap.size ≠ w.heap.size + 1; omega) _)); (first | with_reducible refine cell_up (w := w1) ?_ p0 | with_reducible refine cell_up (w := w1) ?_ p1 | with_reducible refine cell_up (w := w1) ?_ p2); (repeat' (first | with_reducible exact W3.out | with_reducible exact Below.refl _ _ | with_reducible refine Below.drew ?_ | with_reducible refine Below.alloc ?_ ?_ _ | omega | (simp; done) | (simp; omega)))))
      (first
       | (go_at_call 22; go_must (refine (spec_copyInts_any _ H1.out.drew (by omega)).mono ?_; rintro e w3 ⟨E1, m1, d1, rfl, ho, hb⟩; have W3 : Hid (Below w1.heap.size w1 w3) := Lib.hid ((Below.refl w1.heap.size w1).drew.trans hb); have z3 := W3.out.size; have O1 := Lib.hid (ho.base_le (base' := w1.heap.size) (Nat.le_refl _)); have Q3 := Lib.hid (Q1.out.on W3.out); obtain ⟨q0, q1, q2⟩ := Q3.out.c3; have f0 := Q3.out.frozen 0; have f1 := Q3.out.frozen 1; have f2 := Q3.out.frozen 2; clear ho hb)))
    all_goals (
      go_wp2_with (fail)
      refine bodyPost_ret (v := .tuple #[.agg #[.int .i64 b, .int .i64 (nx + 1), .slice E1 m1 d1], .int .i64 nx, .bool true]) (by simp [results, Try.results8, go_sem, q0, q1, q2]) rfl ?_
      refine ⟨E1, m1, d1, by simp [snB, snN, snI, HK.out], ?_, ?_⟩
      · simp only [snX, HK.out, if_true]
        refine OW.base_le (base := w1.heap.size) ?_ (by omega)
        repeat (refine OW.setCell ?_ (by show w.heap.size + 1 < w1.heap.size; exact hz1) _)
        exact O1.out
      · repeat (refine Below.setCell ?_ (by show w.heap.size ≤ w.heap.size + 1; omega) _)
        exact B1.out.trans (W3.out.mono B1.out.size))
  · have hne : (nx == b + 8) = true := by simp; omega
    have HK : Hid (snOK b nx xs = false) := Lib.hid (by simp [snOK, HV.out]; omega)
    go_enter Try.func8, Try.ntmps8
    go_wp2_with (fail)
    refine (call_bool (spec_validWindow_any b nx _ H.out) HV.out).mono ?_
    rintro e w1 ⟨rfl, hb⟩
    have B1 := Lib.hid (B0.out.trans (hb.mono B0.out.size))
    have P1 := Lib.hid (P0.out.on hb)
    have Q1 := Lib.hid (Q0.out.on hb)
    clear hb
    obtain ⟨p0, p1, p2⟩ := P1.out.c3
    obtain ⟨q0, q1, q2⟩ := Q1.out.c3
    have f0 := Q1.out.frozen 0
    have f1 := Q1.out.frozen 1
    have f2 := Q1.out.frozen 2
    go_wp2_with (fail)
    refine bodyPost_ret (v := .tuple #[.agg #[.int .i64 0, .int .i64 0, .slice none 0 0], .int .i64 (-1), .bool false]) (by simp [results, Try.results8, go_sem, q0, q1, q2]) rfl ?_
    refine BAD.out _ ?_ HK.out
    repeat' (first | with_reducible exact B1.out | refine Below.setCell ?_ ?_ _ | (show w.heap.size ≤ _; first | omega | (simp; done) | (simp; omega)))
set_option maxHeartbeats 2000000 in
theorem spec_OpenBatches_any {A : Option Addr} {n c : Nat} {xs : List Int} (b nx : Int) (w : World) (h : IS w A n c xs) :
    Calls Try.prog 14 #[.agg #[.int .i64 b, .int .i64 nx, .slice A n c]] w (GaveInts 3 w (openL b nx xs)) := by
  have H0 := Lib.hid h
  have H := Lib.hid ((h.alloc (.cells #[.int .i64 b, .int .i64 nx, .slice A n c] 25)).alloc (.cells #[] 3))
  clear h
  have P0 := Lib.hid ((Blk.new w 25 #[.int .i64 b, .int .i64 nx, .slice A n c]).alloc (.cells #[] 3))
  have O0 : Hid (OW ((w.alloc (.cells #[.int .i64 b, .int .i64 nx, .slice A n c] 25)).alloc (.cells #[] 3)) 3 (w.heap.size + 1) (some ⟨w.heap.size + 1, 0, none⟩) 0 0 []) := Lib.hid (by simpa using OW.lit (w.alloc (.cells #[.int .i64 b, .int .i64 nx, .slice A n c] 25)) 3 (w.heap.size + 1) [] (by simp) (by simp))
  have B0 := Lib.hid ((below_new w (.cells #[.int .i64 b, .int .i64 nx, .slice A n c] 25)).alloc (by simp) (.cells #[] 3))
  rcases hv : winV b nx xs with _ | _
  · have HV := Lib.hid hv
    go_enter Try.func14, Try.ntmps14
    go_wp2_with (fail)
    refine (call_bool (spec_validWindow_any b nx _ H.out) hv).mono ?_
    rintro e w1 ⟨rfl, hb⟩
    have B1 := Lib.hid (B0.out.trans (hb.mono B0.out.size))
    go_wp2_with (fail)
    go_ret
    exact ⟨none, 0, 0, rfl, by rw [openL_f HV.out]; exact OW.nil _ _ _, B1.out⟩
  obtain ⟨hb0, hb1, hx0, hx1, _⟩ := winV_facts hv
  obtain ⟨K, hK⟩ : ∃ K : Nat, nx = b + (K : Int) := ⟨(nx - b).toNat, by omega⟩
  have HK := Lib.hid hK
  have hK8 : K ≤ 8 := by omega
  have HV := Lib.hid hv
  clear hK hv
  go_enter Try.func14, Try.ntmps14
  go_wp2_with (fail)
  refine (call_bool (spec_validWindow_any b nx _ H.out) HV.out).mono ?_
  rintro e w2 ⟨rfl, hb⟩
  have B2 := Lib.hid (B0.out.trans (hb.mono B0.out.size))
  have P2 := Lib.hid (P0.out.on hb)
  have O2 := Lib.hid (O0.out.below hb (Nat.le_refl _))
  have hz2 : w.heap.size + 1 + 1 ≤ w2.heap.size := by have h1 := hb.size; simp at h1; omega
  clear hb
  obtain ⟨p0, p1, p2⟩ := P2.out.c3
  go_wp2_with (fail)
  clear p0 p1 p2
  go_loopw [3, 4] (fun q i wr => ∃ (j m c' : Nat) (A' : Option Addr), j ≤ K ∧ m ≤ j ∧ i = .int .i64 (b + (j : Int)) ∧ q = .slice A' m c' ∧ Hid (OW wr 3 (w.heap.size + 1) A' m c' (selL (opP xs) b j)) ∧ Hid (Blk wr w.heap.size 25 #[.int .i64 b, .int .i64 nx, .slice A n c]) ∧ Hid (Below w.heap.size w wr) ∧ w2.heap.size ≤ wr.heap.size) (fun _ i _ => (b + (K : Int) - intOf i).toNat)
  case atStart => exact ⟨0, 0, 0, _, Nat.zero_le _, Nat.zero_le _, by simp, rfl, O2, P2, B2, Nat.le_refl _⟩
  case round =>
    obtain ⟨j, m, c', A', hj, hm, rfl, rfl, O, P, B, hsz2⟩ := hrel
    have I := Lib.hid (H0.out.below B.out (Nat.le_refl _))
    obtain ⟨p0, p1, p2⟩ := P.out.c3
    by_cases hlt : j < K
    · have hlt' : b + (j : Int) < nx := by have := HK.out; omega
      have hw2 : IntKind.i64.wrap (b + (j : Int) + 1) = b + ((j + 1 : Nat) : Int) := by rw [IntKind.wrap_i64]; omega
      rcases hbit : xs.contains (b + (j : Int)) with _ | _
      · have HB := Lib.hid hbit
        have O7 := Lib.hid (O.out.alloc (.cells #[.int .i64 (b + (j : Int))] 3))
        have SV : Hid (IS (wr.alloc (.cells #[.int .i64 (b + (j : Int))] 3)) (some ⟨wr.heap.size, 0, none⟩) 1 1 [b + (j : Int)]) := Lib.hid (by simpa using (OW.lit wr 3 0 [b + (j : Int)] (by simp) (by simp)).is)
        have B7 := Lib.hid (B.out.alloc B.out.size (.cells #[.int .i64 (b + (j : Int))] 3))
        have P7 := Lib.hid (P.out.alloc (.cells #[.int .i64 (b + (j : Int))] 3))
        have hsz := B.out.size
        have D1 : Hid (Disj (some ⟨w.heap.size, 0, none⟩) A') := Lib.hid (Disj.mk (B := w.heap.size + 1) (fun p hp => by cases hp; exact Nat.lt_succ_self _) O.out.ge)
        go_wp2_with (first | (go_at_call 25; refine (call_bool (spec_isIn_any _ _ I.out) hbit).mono ?_; rintro e w' ⟨rfl, rfl⟩) | (at_builtin; go_must (refine wpList_append_is2 _ rfl (.tmp 22) (.tmp 24) _ rfl (w.heap.size + 1) 3 infoInt Try.underlying23 _ _ _ _ rfl O7.out _ _ _ _ rfl SV.out (by omega) (by simp; omega) ?_); intro A8 c8 w8 hown8 hg8 hn8; have O8 := Lib.hid hown8; have B8 := Lib.hid (below_row B7.out hg8 (by simp; omega) (O7.out.ge.mono (by omega))); have P8 := Lib.hid (P7.out.away hg8 D1.out); have G8 := Lib.hid hg8; clear hown8 hg8 hn8))
        go_roundw
        case rel => exact ⟨j + 1, m + 1, c8, A8, by omega, by omega, by first | rfl | go_num, rfl, Lib.hid (by rw [selL_yes (by simp only [opP]; rw [HB.out]; rfl)]; exact O8.out), P8, B8, by have h1 := G8.out.size; simp at h1; omega⟩
        case measure => simp [intOf]; omega
      · have HB := Lib.hid hbit
        go_wp2_with (go_at_call 25; refine (call_bool (spec_isIn_any _ _ I.out) hbit).mono ?_; rintro e w' ⟨rfl, rfl⟩)
        go_roundw
        case rel => exact ⟨j + 1, m, c', A', by omega, by omega, by first | rfl | go_num, rfl, Lib.hid (by rw [selL_no (by simp only [opP]; rw [HB.out]; rfl)]; exact O.out), P, B, hsz2⟩
        case measure => simp [intOf]; omega
    · have ek : j = K := by omega
      subst ek
      have hlt' : ¬ b + (j : Int) < nx := by have := HK.out; omega
      go_wp2_with (fail)
      go_ret
      refine ⟨A', m, c', rfl, ?_, B.out⟩
      rw [openL_t HV.out]
      have e : (nx - b).toNat = j := by have := HK.out; omega
      rw [e]
      exact O.out.base_le (by omega)
end Go.Proofs.Ytpfeadjmmefbgaa
