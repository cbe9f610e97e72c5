/-
  LostBatches of the program.
-/
import Derived.Test.YtjljnjhdbojdeaaWiC
namespace Go.Proofs.Ytjljnjhdbojdeaa
open Go.RowKit

/-- How many numbers are greater than one. -/
def cntG (xs : List Int) (n : Int) : Int := ((xs.filter fun x => decide (n < x)).length : Int)
/-- A batch is held to be lost. -/
def lostP (xs : List Int) (many : Int) : Int → Bool := fun n => !xs.contains n && decide (many ≤ cntG xs n)
def lostOK (b nx : Int) (xs : List Int) (many : Int) : Bool := winV b nx xs && inR many 1 8
def lostL (b nx : Int) (xs : List Int) (many : Int) : List Int := if lostOK b nx xs many then selL (lostP xs many) b (nx - b).toNat else []
theorem lostL_f {b nx many : Int} {xs : List Int} (h : lostOK b nx xs many = false) : lostL b nx xs many = [] := by simp [lostL, h]
theorem lostL_t {b nx many : Int} {xs : List Int} (h : lostOK b nx xs many = true) : lostL b nx xs many = selL (lostP xs many) b (nx - b).toNat := by simp [lostL, h]
theorem lostL_le (b nx : Int) (xs : List Int) (many : Int) : (lostL b nx xs many).length ≤ 8 := by
  rcases h : lostOK b nx xs many with _ | _
  · rw [lostL_f h]; simp
  · rw [lostL_t h]
    have h1 := selL_len (lostP xs many) b (nx - b).toNat
    simp only [lostOK, Bool.and_eq_true] at h
    obtain ⟨_, _, _, h2, _⟩ := winV_facts h.1
    omega
theorem selL_append (P : Int → Bool) (b : Int) (i j : Nat) : selL P b (i + j) = selL P b i ++ selL P (b + (i : Int)) j := by
  induction i generalizing b with
  | zero => simp [selL]
  | succ i ih =>
    have e : i + 1 + j = (i + j) + 1 := by omega
    have e2 : b + 1 + (i : Int) = b + ((i + 1 : Nat) : Int) := by omega
    rw [e, selL, ih, selL, e2]
    split <;> simp
theorem selL_shift (P : Int → Bool) (b d : Int) (k : Nat) : (selL (fun n => P (n + d)) b k).length = (selL P (b + d) k).length := by
  induction k generalizing b with
  | zero => rfl
  | succ k ih =>
    have e : b + d + 1 = b + 1 + d := by omega
    simp only [selL]
    rw [e]
    split <;> simp [ih]
theorem popc_bd (s : Nat) : popc s ≤ 8 := selL_len _ _ _
theorem popc_win {b nx : Int} {xs : List Int} (h : winV b nx xs = true) (p : Nat) : (popc (bitsL b xs >>> (p + 1)) : Int) = cntG xs (b + (p : Int)) := by
  unfold popc cntG
  have h0 : selL (fun m => (bitsL b xs >>> (p + 1)).testBit m.toNat) 0 8 = selL (fun m => (fun n => xs.contains n) (m + (b + (p : Int) + 1))) 0 8 := by
    apply selL_congr
    intro n h1 _
    obtain ⟨i, rfl⟩ : ∃ i : Nat, n = (i : Int) := ⟨n.toNat, by omega⟩
    rw [Nat.testBit_shiftRight, Int.toNat_natCast, win_bit h]
    have e : b + ((p + 1 + i : Nat) : Int) = (i : Int) + (b + (p : Int) + 1) := by omega
    rw [e]
  rw [h0, selL_shift]
  obtain ⟨_, _, _, h2, h3⟩ := winV_facts h
  have h4 := selL_win (k := p + 1 + 8) h3 (by omega)
  have h5 : (xs.filter fun x => decide (b + (p : Int) < x)) = selL (fun n => xs.contains n && decide (b + (p : Int) < n)) (b + ((p + 1 : Nat) : Int)) 8 := by
    conv => lhs; rw [← h4]
    rw [selL_append, List.filter_append, selL_filter, selL_filter, selL_none (b := b) (k := p + 1), List.nil_append]
    intro n _ h6
    simp
    omega
  rw [h5]
  congr 1
  have e : (0 : Int) + (b + (p : Int) + 1) = b + ((p + 1 : Nat) : Int) := by omega
  rw [e]
  congr 1
  apply selL_congr
  intro n h6 _
  rw [decide_eq_true (by omega), Bool.and_true]
theorem count_any (s : Nat) (w : World) (hs : s < 256) :
    Calls Try.prog 16 #[.int .u8 s] w fun e w' => e = .returned (.int .i64 (popc s : Int)) ∧ w = w' := by
  go_enter Try.func16, Try.ntmps16
  go_wp2_with (go_at_call 27; refine (ones_any s _ hs).mono ?_; rintro e w' ⟨rfl, rfl⟩)
  go_ret
  exact ⟨rfl, rfl⟩
theorem filter_yes {L : List Int} {k : Nat} {v : Int} {Q : Int → Bool} (hx : L[k]? = some v) (h : Q v = true) : (L.take (k + 1)).filter Q = (L.take k).filter Q ++ [v] := by
  have hk : k < L.length := (List.getElem?_eq_some_iff.1 hx).1
  have e : L[k] = v := (List.getElem?_eq_some_iff.1 hx).2
  rw [List.take_succ_eq_append_getElem hk, List.filter_append, e]
  simp [h]
theorem filter_no {L : List Int} {k : Nat} {v : Int} {Q : Int → Bool} (hx : L[k]? = some v) (h : Q v = false) : (L.take (k + 1)).filter Q = (L.take k).filter Q := by
  have hk : k < L.length := (List.getElem?_eq_some_iff.1 hx).1
  have e : L[k] = v := (List.getElem?_eq_some_iff.1 hx).2
  rw [List.take_succ_eq_append_getElem hk, List.filter_append, e]
  simp [h]
set_option maxHeartbeats 4000000 in
theorem impl_LostBatches_any {A : Option Addr} {n c : Nat} {xs : List Int} (b nx many : Int) (w : World) (h : IS w A n c xs) :
    Calls Try.prog 5 #[.agg #[.int .i64 b, .int .i64 nx, .slice A n c], .int .i64 many] w (GaveInts 3 w (lostL b nx xs many)) := by
  have H := Lib.hid (h.alloc (.cells #[.int .i64 b, .int .i64 nx, .slice A n c] 25))
  clear h
  have P0 := Lib.hid (Blk.new w 25 #[.int .i64 b, .int .i64 nx, .slice A n c])
  have B0 := Lib.hid (below_new w (.cells #[.int .i64 b, .int .i64 nx, .slice A n c] 25))
  have hz0 : (w.alloc (.cells #[.int .i64 b, .int .i64 nx, .slice A n c] 25)).heap.size = w.heap.size + 1 := by simp
  rcases hv : winV b nx xs with _ | _
  · have HV := Lib.hid hv
    go_enter Try.func5, Try.ntmps5
    go_wp2_with (fail)
    refine (call_bool (impl_ValidWindow_any b nx _ H.out) hv).mono ?_
    rintro e w1 ⟨rfl, hb⟩
    have B1 := Lib.hid (B0.out.trans (hb.mono B0.out.size))
    go_wp2_with (fail)
    go_ret
    exact ⟨none, 0, 0, rfl, by rw [lostL_f (by simp [lostOK, HV.out])]; exact OW.nil _ _ _, B1.out⟩
  have HV := Lib.hid hv
  obtain ⟨hb0, hb1, hx0, hx1, _⟩ := winV_facts hv
  clear hv
  rcases hm : inR many 1 8 with _ | _
  · have HM := Lib.hid hm
    go_enter Try.func5, Try.ntmps5
    go_wp2_with (fail)
    refine (call_bool (impl_ValidWindow_any b nx _ H.out) HV.out).mono ?_
    rintro e w1 ⟨rfl, hb⟩
    have B1 := Lib.hid (B0.out.trans (hb.mono B0.out.size))
    go_wp2_with (go_at_call 12; refine (call_bool (impl_within_any _ _ _ _) HM.out).mono ?_; rintro e w' ⟨rfl, rfl⟩)
    go_ret
    exact ⟨none, 0, 0, rfl, by rw [lostL_f (by simp [lostOK, HM.out])]; exact OW.nil _ _ _, B1.out⟩
  obtain ⟨hm0, hm1⟩ := inR_iff.1 hm
  have HM := Lib.hid hm
  obtain ⟨s, hs⟩ : ∃ s, bitsL b xs = s := ⟨_, rfl⟩
  have HS := Lib.hid hs
  have hs8 : s < 256 := by rw [← hs]; exact win_lt HV.out
  clear hs hm
  go_enter Try.func5, Try.ntmps5
  go_wp2_with (fail)
  refine (call_bool (impl_ValidWindow_any b nx _ H.out) HV.out).mono ?_
  rintro e w1 ⟨rfl, hb⟩
  have B1 := Lib.hid (B0.out.trans (hb.mono B0.out.size))
  have H1 := Lib.hid (H.out.below hb (Nat.le_refl _))
  have P1 := Lib.hid (P0.out.on hb)
  clear hb
  obtain ⟨p0, p1, p2⟩ := P1.out.c3
  go_wp2_with (go_at_call 12; refine (call_bool (impl_within_any _ _ _ _) HM.out).mono ?_; rintro e w' ⟨rfl, rfl⟩)
  clear p0 p1 p2
  refine (impl_acksOf_any b nx _ H1.out HV.out).mono ?_
  rintro e w2 ⟨rfl, hb⟩
  rw [HS.out]
  have B2 := Lib.hid (B1.out.trans (hb.mono B1.out.size))
  have P2 := Lib.hid (P1.out.on hb)
  have H2 := Lib.hid (H1.out.below hb (Nat.le_refl _))
  clear hb
  obtain ⟨p0, p1, p2⟩ := P2.out.c3
  go_wp2_with (fail)
  clear p0 p1 p2
  refine (impl_OpenBatches_any b nx _ H2.out).mono ?_
  rintro e w3 ⟨A3, n3, c3, rfl, ho, hb⟩
  have B3 := Lib.hid (B2.out.trans (hb.mono B2.out.size))
  have P3 := Lib.hid (P2.out.on hb)
  have O3 := Lib.hid ho
  have hz3 : w.heap.size + 1 ≤ w3.heap.size := by have h1 := P3.out.lt; omega
  obtain ⟨L, eL⟩ : ∃ L, openL b nx xs = L := ⟨_, rfl⟩
  rw [eL] at O3
  have HLL := Lib.hid eL
  have HN := Lib.hid O3.out.len
  have hn8 : n3 ≤ 8 := by have h1 := openL_le b nx xs; rw [eL, O3.out.len] at h1; exact h1
  clear hb ho eL
  go_wp2_with (fail)
  go_loopw [6, 22] (fun q i wr => ∃ (k m c : Nat) (A' : Option Addr), k ≤ n3 ∧ m ≤ k ∧ i = .int .i64 (k : Int) ∧ q = .slice A' m c ∧ Hid (OW wr 3 w3.heap.size A' m c ((L.take k).filter fun v => decide (many ≤ cntG xs v))) ∧ Hid (Below w3.heap.size w3 wr)) (fun _ i _ => n3 - (intOf i).toNat)
  case atStart => exact ⟨0, 0, 0, none, Nat.zero_le _, Nat.zero_le _, by simp, rfl, Lib.hid (OW.nil _ _ _), Lib.hid (Below.refl _ _)⟩
  case round =>
    obtain ⟨k, m, c', A', hk, hmk, rfl, rfl, O, B⟩ := hrel
    have P := Lib.hid (P3.out.on B.out)
    obtain ⟨p0, p1, p2⟩ := P.out.c3
    by_cases hlt : k < n3
    · obtain ⟨g, off, v, rfl, hx, hc⟩ := (O3.out.is.below B.out (Nat.le_refl _)).at_ hlt
      have HX := Lib.hid hx
      have hv := List.mem_of_getElem? hx
      rw [← HLL.out, openL_t HV.out, selL_mem] at hv
      obtain ⟨hv0, hv1, _⟩ := hv
      obtain ⟨p, hp⟩ : ∃ p : Nat, v = b + (p : Int) := ⟨(v - b).toNat, by omega⟩
      have hp8 : p < 8 := by omega
      have hwp : IntKind.i64.wrap (v - b) = (p : Int) := by rw [IntKind.wrap_i64]; omega
      have hc8 := popc_bd (s >>> (p + 1))
      obtain ⟨u, eu⟩ : ∃ u, popc (s >>> (p + 1)) = u := ⟨_, rfl⟩
      have HU : Hid (cntG xs v = (u : Int)) := Lib.hid (by rw [hp, ← popc_win HV.out, HS.out, eu])
      rw [eu] at hc8
      have EU := Lib.hid eu
      clear hx hp eu hv0 hv1
      by_cases hge : many ≤ (u : Int)
      · have O7 := Lib.hid (O.out.alloc (.cells #[.int .i64 v] 3))
        have SV : Hid (IS (wr.alloc (.cells #[.int .i64 v] 3)) (some ⟨wr.heap.size, 0, none⟩) 1 1 [v]) := Lib.hid (by simpa using (OW.lit wr 3 0 [v] (by simp) (by simp)).is)
        have B7 := Lib.hid (B.out.alloc B.out.size (.cells #[.int .i64 v] 3))
        have hsz := B.out.size
        go_wp2_with (first
          | (go_at_call 15; refine (behind_any s p _ hs8 hp8).mono ?_; rintro e w' ⟨rfl, rfl⟩)
          | (go_at_call 16; refine (count_any (s >>> (p + 1)) _ (shr_lt _ hs8)).mono ?_; rintro e w' ⟨rfl, rfl⟩; rw [EU.out])
          | (at_builtin; go_must (refine wpList_append_is _ rfl (.tmp 35) (.tmp 37) _ rfl w3.heap.size 3 infoInt Try.underlying23 _ _ _ _ rfl O7.out _ _ _ _ rfl SV.out (by omega) (by simp; omega) ?_); intro A8 c8 w8 hown8 hg8; have O8 := Lib.hid hown8; have B8 := Lib.hid (O7.out.below_grown hg8 B7.out (Nat.le_refl _) (by simp; omega)); clear hown8 hg8))
        go_roundw
        case rel => exact ⟨k + 1, m + 1, c8, A8, by omega, by omega, by first | rfl | go_num, rfl, Lib.hid (by rw [filter_yes HX.out (by rw [HU.out]; exact decide_eq_true hge)]; exact O8.out), B8⟩
        case measure => simp [intOf]; omega
      · go_wp2_with (first
          | (go_at_call 15; refine (behind_any s p _ hs8 hp8).mono ?_; rintro e w' ⟨rfl, rfl⟩)
          | (go_at_call 16; refine (count_any (s >>> (p + 1)) _ (shr_lt _ hs8)).mono ?_; rintro e w' ⟨rfl, rfl⟩; rw [EU.out]))
        go_roundw
        case rel => exact ⟨k + 1, m, c', A', by omega, by omega, by first | rfl | go_num, rfl, Lib.hid (by rw [filter_no HX.out (by rw [HU.out]; exact decide_eq_false (by omega))]; exact O.out), B⟩
        case measure => simp [intOf]; omega
    · have ek : k = n3 := by omega
      subst ek
      go_wp2_with (fail)
      go_ret
      refine ⟨A', m, c', rfl, ?_, B3.out.trans (B.out.mono B3.out.size)⟩
      have h3 := O.out
      rw [List.take_of_length_le (by have := HN.out; omega), ← HLL.out, openL_t HV.out, selL_filter] at h3
      rw [lostL_t (by simp [lostOK, HV.out, HM.out])]
      exact h3.base_le (by omega)
end Go.Proofs.Ytjljnjhdbojdeaa
