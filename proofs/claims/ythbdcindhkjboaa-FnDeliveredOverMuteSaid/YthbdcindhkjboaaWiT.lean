/-
  Contracts of the model's functions on windows: SendNext, OpenBatches, LostBatches.
-/
import Derived.Test.YthbdcindhkjboaaWiS
import Derived.Deep.RegionHeld3
import Derived.Deep.RegionLaw
namespace Go.Proofs.Ythbdcindhkjboaa
open Go.RowKit

set_option maxHeartbeats 2000000 in
theorem spec_OpenBatches_any {A : Option Addr} {n c : Nat} {xs : List Int} (b nx : Int) (w : World) (h : IS w A n c xs) :
    Calls Try.prog 26 #[.agg #[.int .i64 b, .int .i64 nx, .slice A n c]] w (GaveInts 3 w (openL b nx xs)) := by
  have H0 := Lib.hid h
  have H := Lib.hid ((h.alloc (.cells #[.int .i64 b, .int .i64 nx, .slice A n c] 34)).alloc (.cells #[] 3))
  clear h
  have P0 := Lib.hid ((Blk.new w 34 #[.int .i64 b, .int .i64 nx, .slice A n c]).alloc (.cells #[] 3))
  have O0 : Hid (OW ((w.alloc (.cells #[.int .i64 b, .int .i64 nx, .slice A n c] 34)).alloc (.cells #[] 3)) 3 (w.heap.size + 1) (some ⟨w.heap.size + 1, 0, none⟩) 0 0 []) := Lib.hid (by simpa using OW.lit (w.alloc (.cells #[.int .i64 b, .int .i64 nx, .slice A n c] 34)) 3 (w.heap.size + 1) [] (by simp) (by simp))
  have B0 := Lib.hid ((below_new w (.cells #[.int .i64 b, .int .i64 nx, .slice A n c] 34)).alloc (by simp) (.cells #[] 3))
  rcases hv : winV b nx xs with _ | _
  · have HV := Lib.hid hv
    go_enter Try.func26, Try.ntmps26
    go_wp2_with (fail)
    refine (call_bool (spec_validWindow_any b nx _ H.out) hv).mono ?_
    rintro e w1 ⟨rfl, hb⟩
    have B1 := Lib.hid (B0.out.trans (hb.mono B0.out.size))
    go_wp2_with (fail)
    go_ret
    exact ⟨none, 0, 0, rfl, by rw [openL_f HV.out]; exact OW.nil _ _ _, B1.out⟩
  obtain ⟨hb0, hb1, hx0, hx1, _⟩ := winV_facts hv
  obtain ⟨K, hK⟩ : ∃ K : Nat, nx = b + (K : Int) := ⟨(nx - b).toNat, by omega⟩
  have HK := Lib.hid hK
  have hK8 : K ≤ 8 := by omega
  have HV := Lib.hid hv
  clear hK hv
  go_enter Try.func26, Try.ntmps26
  go_wp2_with (fail)
  refine (call_bool (spec_validWindow_any b nx _ H.out) HV.out).mono ?_
  rintro e w2 ⟨rfl, hb⟩
  have B2 := Lib.hid (B0.out.trans (hb.mono B0.out.size))
  have P2 := Lib.hid (P0.out.on hb)
  have O2 := Lib.hid (O0.out.below hb (Nat.le_refl _))
  have hz2 : w.heap.size + 1 + 1 ≤ w2.heap.size := by have h1 := hb.size; simp at h1; omega
  clear hb
  obtain ⟨p0, p1, p2⟩ := P2.out.c3
  go_wp2_with (fail)
  clear p0 p1 p2
  go_loopw [3, 4] (fun q i wr => ∃ (j m c' : Nat) (A' : Option Addr), j ≤ K ∧ m ≤ j ∧ i = .int .i64 (b + (j : Int)) ∧ q = .slice A' m c' ∧ Hid (OW wr 3 (w.heap.size + 1) A' m c' (selL (opP xs) b j)) ∧ Hid (Blk wr w.heap.size 34 #[.int .i64 b, .int .i64 nx, .slice A n c]) ∧ Hid (Below w.heap.size w wr) ∧ w2.heap.size ≤ wr.heap.size) (fun _ i _ => (b + (K : Int) - intOf i).toNat)
  case atStart => exact ⟨0, 0, 0, _, Nat.zero_le _, Nat.zero_le _, by simp, rfl, O2, P2, B2, Nat.le_refl _⟩
  case round =>
    obtain ⟨j, m, c', A', hj, hm, rfl, rfl, O, P, B, hsz2⟩ := hrel
    have I := Lib.hid (H0.out.below B.out (Nat.le_refl _))
    obtain ⟨p0, p1, p2⟩ := P.out.c3
    by_cases hlt : j < K
    · have hlt' : b + (j : Int) < nx := by have := HK.out; omega
      have hw2 : IntKind.i64.wrap (b + (j : Int) + 1) = b + ((j + 1 : Nat) : Int) := by rw [IntKind.wrap_i64]; omega
      rcases hbit : xs.contains (b + (j : Int)) with _ | _
      · have HB := Lib.hid hbit
        have O7 := Lib.hid (O.out.alloc (.cells #[.int .i64 (b + (j : Int))] 3))
        have SV : Hid (IS (wr.alloc (.cells #[.int .i64 (b + (j : Int))] 3)) (some ⟨wr.heap.size, 0, none⟩) 1 1 [b + (j : Int)]) := Lib.hid (by simpa using (OW.lit wr 3 0 [b + (j : Int)] (by simp) (by simp)).is)
        have B7 := Lib.hid (B.out.alloc B.out.size (.cells #[.int .i64 (b + (j : Int))] 3))
        have P7 := Lib.hid (P.out.alloc (.cells #[.int .i64 (b + (j : Int))] 3))
        have hsz := B.out.size
        have D1 : Hid (Disj (some ⟨w.heap.size, 0, none⟩) A') := Lib.hid (Disj.mk (B := w.heap.size + 1) (fun p hp => by cases hp; exact Nat.lt_succ_self _) O.out.ge)
        go_wp2_with (first | (go_at_call 37; refine (call_bool (spec_isIn_any _ _ I.out) hbit).mono ?_; rintro e w' ⟨rfl, rfl⟩) | (at_builtin; go_must (refine wpList_append_is2 _ rfl (.tmp 22) (.tmp 24) _ rfl (w.heap.size + 1) 3 infoInt Try.underlying22 _ _ _ _ rfl O7.out _ _ _ _ rfl SV.out (by omega) (by simp; omega) ?_); intro A8 c8 w8 hown8 hg8 hn8; have O8 := Lib.hid hown8; have B8 := Lib.hid (below_row B7.out hg8 (by simp; omega) (O7.out.ge.mono (by omega))); have P8 := Lib.hid (P7.out.away hg8 D1.out); have G8 := Lib.hid hg8; clear hown8 hg8 hn8))
        go_roundw
        case rel => exact ⟨j + 1, m + 1, c8, A8, by omega, by omega, by first | rfl | go_num, rfl, Lib.hid (by rw [selL_yes (by simp only [opP]; rw [HB.out]; rfl)]; exact O8.out), P8, B8, by have h1 := G8.out.size; simp at h1; omega⟩
        case measure => simp [intOf]; omega
      · have HB := Lib.hid hbit
        go_wp2_with (go_at_call 37; refine (call_bool (spec_isIn_any _ _ I.out) hbit).mono ?_; rintro e w' ⟨rfl, rfl⟩)
        go_roundw
        case rel => exact ⟨j + 1, m, c', A', by omega, by omega, by first | rfl | go_num, rfl, Lib.hid (by rw [selL_no (by simp only [opP]; rw [HB.out]; rfl)]; exact O.out), P, B, hsz2⟩
        case measure => simp [intOf]; omega
    · have ek : j = K := by omega
      subst ek
      have hlt' : ¬ b + (j : Int) < nx := by have := HK.out; omega
      go_wp2_with (fail)
      go_ret
      refine ⟨A', m, c', rfl, ?_, B.out⟩
      rw [openL_t HV.out]
      have e : (nx - b).toNat = j := by have := HK.out; omega
      rw [e]
      exact O.out.base_le (by omega)
end Go.Proofs.Ythbdcindhkjboaa
