/-
  Contracts of the program's functions that make windows: windowOf, OpenBatches, LostBatches.
-/
import Derived.Test.YtpfeadjmmefbgaaWiA
import Derived.Deep.DeepMust
namespace Go.Proofs.Ytpfeadjmmefbgaa
open Go.RowKit

theorem OW.nil (w : World) (T base : Nat) : OW w T base none 0 0 [] := ⟨rfl, .inl ⟨rfl, rfl⟩⟩
theorem call_bool {P : Program} {f : FuncId} {args : Array Value} {w : World} {b b' : Bool} {R : World → Prop} (h : Calls P f args w fun e w' => e = .returned (.bool b) ∧ R w') (hb : b = b') :
    Calls P f args w fun e w' => e = .returned (.bool b') ∧ R w' := by subst hb; exact h
/-- The bits of a set, from b on. -/
def bitP (s : Nat) (b : Int) : Int → Bool := fun n => s.testBit (n - b).toNat
theorem bitP_at (s : Nat) (b : Int) (j : Nat) : bitP s b (b + (j : Int)) = s.testBit j := by
  unfold bitP
  congr 1
  omega
set_option maxHeartbeats 2000000 in
theorem impl_windowOf_any (b nx : Int) (s K : Nat) (w : World) (hs : s < 256) (hb0 : 0 ≤ b) (hb1 : b ≤ 1100) (hK : K ≤ 8) (hn : nx = b + (K : Int)) :
    Calls Try.prog 19 #[.int .i64 b, .int .i64 nx, .int .u8 (s : Int)] w (GaveItem 3 w b nx (selL (bitP s b) b K)) := by
  have HN := Lib.hid hn
  clear hn
  go_enter Try.func19, Try.ntmps19
  go_wp2_with (fail)
  obtain ⟨W, eW⟩ : ∃ v : World, v = ((w.alloc (.cells #[.int .i64 0, .int .i64 0, .slice none 0 0] 25)).alloc (.cells #[.int .i64 b, .int .i64 nx, .slice none 0 0] 25)) := ⟨_, rfl⟩
  have X0 : Hid (Blk W w.heap.size 25 #[.int .i64 0, .int .i64 0, .slice none 0 0]) := Lib.hid (by rw [eW]; exact (Blk.new _ _ _).alloc _)
  have Y0 : Hid (Blk W (w.heap.size + 1) 25 #[.int .i64 b, .int .i64 nx, .slice none 0 0]) := Lib.hid (by rw [eW]; simpa using Blk.new (w.alloc (.cells #[.int .i64 0, .int .i64 0, .slice none 0 0] 25)) 25 #[.int .i64 b, .int .i64 nx, .slice none 0 0])
  have B0 : Hid (Below w.heap.size w W) := Lib.hid (by rw [eW]; exact ((below_new _ _).alloc (by simp) _))
  rw [← eW]
  clear eW
  go_loopw [8] (fun i wr => ∃ (j m c : Nat) (A : Option Addr), j ≤ K ∧ m ≤ j ∧ i = .int .i64 (b + (j : Int)) ∧ Hid (Blk wr w.heap.size 25 #[.int .i64 0, .int .i64 0, .slice none 0 0]) ∧ Hid (Blk wr (w.heap.size + 1) 25 #[.int .i64 b, .int .i64 nx, .slice A m c]) ∧ Hid (OW wr 3 (w.heap.size + 1 + 1) A m c (selL (bitP s b) b j)) ∧ Hid (Below w.heap.size w wr)) (fun i _ => (b + (K : Int) - intOf i).toNat)
  case atStart => exact ⟨0, 0, 0, none, Nat.zero_le _, Nat.zero_le _, by simp, X0, Y0, Lib.hid (OW.nil _ _ _), B0⟩
  case round =>
    obtain ⟨j, m, c, A, hj, hm, rfl, X, Y, O, B⟩ := hrel
    clear X0 Y0 B0
    have yl := Y.out.lt
    by_cases hlt : j < K
    · have hlt' : b + (j : Int) < nx := by have := HN.out; omega
      have hw1 : IntKind.i64.wrap (b + (j : Int) - b) = (j : Int) := by rw [IntKind.wrap_i64]; omega
      have hw2 : IntKind.i64.wrap (b + (j : Int) + 1) = b + ((j + 1 : Nat) : Int) := by rw [IntKind.wrap_i64]; omega
      rcases hbit : s.testBit j with _ | _
      · have HB := Lib.hid hbit
        go_wp2_with (go_at_call 23; refine (call_bool (has_any s j _ hs (by omega)) hbit).mono ?_; rintro e w' ⟨rfl, rfl⟩)
        go_roundw
        case rel => exact ⟨j + 1, m, c, A, by omega, by omega, by first | rfl | go_num, X, Y, Lib.hid (by rw [selL_no (by rw [bitP_at]; exact HB.out)]; exact O.out), B⟩
        case measure => simp [intOf]; omega
      · have HB := Lib.hid hbit
        obtain ⟨y0, y1, y2⟩ := Y.out.c3
        have O7 := Lib.hid (O.out.alloc (.cells #[.int .i64 (b + (j : Int))] 3))
        have SV : Hid (IS (wr.alloc (.cells #[.int .i64 (b + (j : Int))] 3)) (some ⟨wr.heap.size, 0, none⟩) 1 1 [b + (j : Int)]) := Lib.hid (by simpa using (OW.lit wr 3 0 [b + (j : Int)] (by simp) (by simp)).is)
        have B7 := Lib.hid (B.out.alloc B.out.size (.cells #[.int .i64 (b + (j : Int))] 3))
        have X7 := Lib.hid (X.out.alloc (.cells #[.int .i64 (b + (j : Int))] 3))
        have Y7 := Lib.hid (Y.out.alloc (.cells #[.int .i64 (b + (j : Int))] 3))
        have D1 : Hid (Disj (some ⟨w.heap.size, 0, none⟩) A) := Lib.hid (Disj.mk (B := w.heap.size + 1) (fun p hp => by cases hp; exact Nat.lt_succ_self _) (O.out.ge.mono (by omega)))
        have D2 : Hid (Disj (some ⟨w.heap.size + 1, 0, none⟩) A) := Lib.hid (Disj.mk (B := w.heap.size + 1 + 1) (fun p hp => by cases hp; exact Nat.lt_succ_self _) O.out.ge)
        have hsz := B.out.size
        go_wp2_with (first | (go_at_call 23; refine (call_bool (has_any s j _ hs (by omega)) hbit).mono ?_; rintro e w' ⟨rfl, rfl⟩) | (at_builtin; go_must (refine wpList_append_is _ rfl (.tmp 24) (.tmp 26) _ rfl (w.heap.size + 1 + 1) 3 infoInt Try.underlying23 _ _ _ _ rfl O7.out _ _ _ _ rfl SV.out (by omega) (by simp; omega) ?_); intro A8 c8 w8 hown8 hg8; have O8 := Lib.hid hown8; rw [own_map] at hg8; have G8 : Hid (Row _ w8 A) := Lib.hid hg8; have B8 := Lib.hid (below_row B7.out G8.out (by simp; omega) (O7.out.ge.mono (by omega))); have X8 := Lib.hid (X7.out.away G8.out D1.out); have Y8 := Lib.hid (Y7.out.away G8.out D2.out); clear hown8 hg8; obtain ⟨z0, z1, z2⟩ := Y8.out.c3; have f2 := Y8.out.frozen 2))
        go_roundw
        case rel => exact ⟨j + 1, m + 1, c8, A8, by omega, by omega, by first | rfl | go_num, Lib.hid (X8.out.far (by show w.heap.size ≠ w.heap.size + 1; omega) _), Lib.hid (Y8.out.set_ 2 _), Lib.hid (by rw [selL_yes (by rw [bitP_at]; exact HB.out)]; exact O8.out.setCell (by show w.heap.size + 1 < w.heap.size + 1 + 1; omega) _), Lib.hid (B8.out.setCell (by show w.heap.size ≤ w.heap.size + 1; omega) _)⟩
        case measure => simp [intOf]; omega
    · have ek : j = K := by omega
      subst ek
      have hlt' : ¬ b + (j : Int) < nx := by have := HN.out; omega
      obtain ⟨y0, y1, y2⟩ := Y.out.c3
      obtain ⟨x0, x1, x2⟩ := X.out.c3
      have f0 := X.out.frozen 0
      have f1 := X.out.frozen 1
      have f2 := X.out.frozen 2
      go_wp2_with (fail)
      refine bodyPost_ret (v := .agg #[.int .i64 b, .int .i64 nx, .slice A m c]) (by simp [results, Try.results19, go_sem, x0, x1, x2]) rfl ⟨A, m, c, rfl, ?_, ?_⟩
      · refine OW.base_le (base := w.heap.size + 1 + 1) ?_ (by omega)
        repeat (refine OW.setCell ?_ (by show w.heap.size < w.heap.size + 1 + 1; omega) _)
        exact O.out
      · repeat (refine Below.setCell ?_ (by show w.heap.size ≤ w.heap.size; exact Nat.le_refl _) _)
        exact B.out
/-- The open batches of a window. -/
def opP (xs : List Int) : Int → Bool := fun n => !xs.contains n
def openL (b nx : Int) (xs : List Int) : List Int := if winV b nx xs then selL (opP xs) b (nx - b).toNat else []
theorem openL_f {b nx : Int} {xs : List Int} (h : winV b nx xs = false) : openL b nx xs = [] := by simp [openL, h]
theorem openL_t {b nx : Int} {xs : List Int} (h : winV b nx xs = true) : openL b nx xs = selL (opP xs) b (nx - b).toNat := by simp [openL, h]
theorem openL_le (b nx : Int) (xs : List Int) : (openL b nx xs).length ≤ 8 := by
  rcases h : winV b nx xs with _ | _
  · rw [openL_f h]; simp
  · rw [openL_t h]
    have h1 := selL_len (opP xs) b (nx - b).toNat
    obtain ⟨_, _, _, h2, _⟩ := winV_facts h
    omega
theorem win_bit {b nx : Int} {xs : List Int} (h : winV b nx xs = true) (j : Nat) : (bitsL b xs).testBit j = xs.contains (b + (j : Int)) :=
  bitsL_test (fun x hx => by have := okA_mem (winV_facts h).2.2.2.2 x hx; omega) j
theorem win_lt {b nx : Int} {xs : List Int} (h : winV b nx xs = true) : bitsL b xs < 256 :=
  bitsL_lt fun x hx => by have := okA_mem (winV_facts h).2.2.2.2 x hx; have := winV_facts h; omega
set_option maxHeartbeats 2000000 in
theorem impl_OpenBatches_any {A : Option Addr} {n c : Nat} {xs : List Int} (b nx : Int) (w : World) (h : IS w A n c xs) :
    Calls Try.prog 10 #[.agg #[.int .i64 b, .int .i64 nx, .slice A n c]] w (GaveInts 3 w (openL b nx xs)) := by
  have H := Lib.hid (h.alloc (.cells #[.int .i64 b, .int .i64 nx, .slice A n c] 25))
  clear h
  have P0 := Lib.hid (Blk.new w 25 #[.int .i64 b, .int .i64 nx, .slice A n c])
  have B0 := Lib.hid (below_new w (.cells #[.int .i64 b, .int .i64 nx, .slice A n c] 25))
  have hz0 : (w.alloc (.cells #[.int .i64 b, .int .i64 nx, .slice A n c] 25)).heap.size = w.heap.size + 1 := by simp
  rcases hv : winV b nx xs with _ | _
  · have HV := Lib.hid hv
    go_enter Try.func10, Try.ntmps10
    go_wp2_with (fail)
    refine (call_bool (impl_ValidWindow_any b nx _ H.out) hv).mono ?_
    rintro e w1 ⟨rfl, hb⟩
    have B1 := Lib.hid (B0.out.trans (hb.mono B0.out.size))
    go_wp2_with (fail)
    go_ret
    exact ⟨none, 0, 0, rfl, by rw [openL_f HV.out]; exact OW.nil _ _ _, B1.out⟩
  obtain ⟨hb0, hb1, hx0, hx1, _⟩ := winV_facts hv
  obtain ⟨K, hK⟩ : ∃ K : Nat, nx = b + (K : Int) := ⟨(nx - b).toNat, by omega⟩
  have HK := Lib.hid hK
  have hK8 : K ≤ 8 := by omega
  have HV := Lib.hid hv
  obtain ⟨s, hs⟩ : ∃ s, bitsL b xs = s := ⟨_, rfl⟩
  have HS := Lib.hid hs
  have hs8 : s < 256 := by rw [← hs]; exact win_lt hv
  clear hs hK hv
  go_enter Try.func10, Try.ntmps10
  go_wp2_with (fail)
  refine (call_bool (impl_ValidWindow_any b nx _ H.out) HV.out).mono ?_
  rintro e w1 ⟨rfl, hb⟩
  have B1 := Lib.hid (B0.out.trans (hb.mono B0.out.size))
  have H1 := Lib.hid (H.out.below hb (Nat.le_refl _))
  have P1 := Lib.hid (P0.out.on hb)
  clear hb
  obtain ⟨p0, p1, p2⟩ := P1.out.c3
  go_wp2_with (fail)
  clear p0 p1 p2
  refine (impl_acksOf_any b nx _ H1.out HV.out).mono ?_
  rintro e w2 ⟨rfl, hb⟩
  rw [HS.out]
  have B2 := Lib.hid (B1.out.trans (hb.mono B1.out.size))
  have P2 := Lib.hid (P1.out.on hb)
  have hz2 : w.heap.size + 1 ≤ w2.heap.size := by have h1 := P2.out.lt; omega
  clear hb
  obtain ⟨p0, p1, p2⟩ := P2.out.c3
  go_wp2_with (fail)
  clear p0 p1 p2
  go_loopw [4, 5] (fun q i wr => ∃ (j m c : Nat) (A' : Option Addr), j ≤ K ∧ m ≤ j ∧ i = .int .i64 (b + (j : Int)) ∧ q = .slice A' m c ∧ Hid (OW wr 3 w2.heap.size A' m c (selL (opP xs) b j)) ∧ Hid (Below w2.heap.size w2 wr)) (fun _ i _ => (b + (K : Int) - intOf i).toNat)
  case atStart => exact ⟨0, 0, 0, none, Nat.zero_le _, Nat.zero_le _, by simp, rfl, Lib.hid (OW.nil _ _ _), Lib.hid (Below.refl _ _)⟩
  case round =>
    obtain ⟨j, m, c', A', hj, hm, rfl, rfl, O, B⟩ := hrel
    have P := Lib.hid (P2.out.on B.out)
    obtain ⟨p0, p1, p2⟩ := P.out.c3
    by_cases hlt : j < K
    · have hlt' : b + (j : Int) < nx := by have := HK.out; omega
      have hw1 : IntKind.i64.wrap (b + (j : Int) - b) = (j : Int) := by rw [IntKind.wrap_i64]; omega
      have hw2 : IntKind.i64.wrap (b + (j : Int) + 1) = b + ((j + 1 : Nat) : Int) := by rw [IntKind.wrap_i64]; omega
      rcases hbit : s.testBit j with _ | _
      · have HB := Lib.hid hbit
        have O7 := Lib.hid (O.out.alloc (.cells #[.int .i64 (b + (j : Int))] 3))
        have SV : Hid (IS (wr.alloc (.cells #[.int .i64 (b + (j : Int))] 3)) (some ⟨wr.heap.size, 0, none⟩) 1 1 [b + (j : Int)]) := Lib.hid (by simpa using (OW.lit wr 3 0 [b + (j : Int)] (by simp) (by simp)).is)
        have B7 := Lib.hid (B.out.alloc B.out.size (.cells #[.int .i64 (b + (j : Int))] 3))
        have hsz := B.out.size
        go_wp2_with (first | (go_at_call 23; refine (call_bool (has_any s j _ hs8 (by omega)) hbit).mono ?_; rintro e w' ⟨rfl, rfl⟩) | (at_builtin; go_must (refine wpList_append_is _ rfl (.tmp 26) (.tmp 28) _ rfl w2.heap.size 3 infoInt Try.underlying23 _ _ _ _ rfl O7.out _ _ _ _ rfl SV.out (by omega) (by simp; omega) ?_); intro A8 c8 w8 hown8 hg8; have O8 := Lib.hid hown8; have B8 := Lib.hid (O7.out.below_grown hg8 B7.out (Nat.le_refl _) (by simp; omega)); clear hown8 hg8))
        go_roundw
        case rel => exact ⟨j + 1, m + 1, c8, A8, by omega, by omega, by first | rfl | go_num, rfl, Lib.hid (by rw [selL_yes (by simp only [opP]; rw [← win_bit HV.out, HS.out, HB.out]; rfl)]; exact O8.out), B8⟩
        case measure => simp [intOf]; omega
      · have HB := Lib.hid hbit
        go_wp2_with (go_at_call 23; refine (call_bool (has_any s j _ hs8 (by omega)) hbit).mono ?_; rintro e w' ⟨rfl, rfl⟩)
        go_roundw
        case rel => exact ⟨j + 1, m, c', A', by omega, by omega, by first | rfl | go_num, rfl, Lib.hid (by rw [selL_no (by simp only [opP]; rw [← win_bit HV.out, HS.out, HB.out]; rfl)]; exact O.out), B⟩
        case measure => simp [intOf]; omega
    · have ek : j = K := by omega
      subst ek
      have hlt' : ¬ b + (j : Int) < nx := by have := HK.out; omega
      go_wp2_with (fail)
      go_ret
      refine ⟨A', m, c', rfl, ?_, B2.out.trans (B.out.mono B2.out.size)⟩
      rw [openL_t HV.out]
      have e : (nx - b).toNat = j := by have := HK.out; omega
      rw [e]
      exact O.out.base_le (by omega)
end Go.Proofs.Ytpfeadjmmefbgaa
