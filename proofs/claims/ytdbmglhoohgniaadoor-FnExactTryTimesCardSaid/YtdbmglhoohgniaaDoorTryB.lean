/-
  Contracts of the functions on tries: TryTime, LastWait, TryTimes.
-/
import Derived.Test.YtdbmglhoohgniaaDoorTry
namespace Go.Proofs.YtdbmglhoohgniaaDoor
open Go.RowKit

theorem tt_in {b t n : Int} (h : ttOK b t n = true) : inR b 0 1000 = true ∧ inR t 1 6 = true ∧ inR n 0 1000 = true := by
  simp [ttOK] at h
  exact ⟨h.1.1, h.1.2, h.2⟩
theorem mod_bd (x m : Int) (h : 1 ≤ m) : 0 ≤ x % m ∧ x % m < m := ⟨Int.emod_nonneg _ (by omega), Int.emod_lt_of_pos _ (by omega)⟩
set_option maxHeartbeats 1000000 in
theorem impl_TryTime_any (b t n : Int) (w : World) (h : WA w) :
    Calls Tryd.prog 19 #[.int .i64 b, .int .i64 t, .int .i64 n] w fun e w' => e = .returned (.int .i64 (ttV b t n)) ∧ w = w' := by
  have H := Lib.hid h
  clear h
  rcases hb : inR b 0 1000 with _ | _
  all_goals rcases ht : inR t 1 6 with _ | _
  all_goals rcases hn : inR n 0 1000 with _ | _
  case true.true.true =>
    obtain ⟨hb0, hb1⟩ := inR_iff.1 hb
    obtain ⟨hn0, hn1⟩ := inR_iff.1 hn
    obtain ⟨s, hs⟩ : ∃ s, swV b t = s := ⟨_, rfl⟩
    obtain ⟨_, _, s1, _⟩ := sw_bd (b := b) ht
    have s2 := (sw_bd (b := b) ht).1
    have s3 := (sw_bd (b := b) ht).2.2.2
    rw [hs] at s1 s2
    have s4 : s ≤ 60 := by omega
    have HS := Lib.hid hs
    have HT := Lib.hid ht
    clear hs s2 s3
    go_enter Tryd.func19, Tryd.ntmps19
    go_wp2_with (first | (go_at_call 36; refine (impl_validFirst_any _ _ _).mono ?_; rintro e w' ⟨rfl, rfl⟩) | (go_at_call 34; refine (impl_within_any _ _ _ _).mono ?_; rintro e w' ⟨rfl, rfl⟩) | (go_at_call 37; refine (call_int (impl_shortWait_any b t _ H.out hb0 hb1 HT.out) HS.out).mono ?_; rintro e w' ⟨rfl, rfl⟩))
    go_ret
    exact ⟨ret_int (by simp [ttV, ttOK, hb, ht, hn, HS.out]), rfl⟩
  all_goals
    go_enter Tryd.func19, Tryd.ntmps19
    go_wp2_with (first | (go_at_call 36; refine (impl_validFirst_any _ _ _).mono ?_; rintro e w' ⟨rfl, rfl⟩) | (go_at_call 34; refine (impl_within_any _ _ _ _).mono ?_; rintro e w' ⟨rfl, rfl⟩))
    go_ret
    exact ⟨ret_int (by simp [ttV, ttOK, hb, ht, hn]), rfl⟩
set_option maxHeartbeats 1000000 in
theorem spec_TryTime_any (b t n : Int) (w : World) :
    Calls Tryd.prog 18 #[.int .i64 b, .int .i64 t, .int .i64 n] w fun e w' => e = .returned (.int .i64 (ttV b t n)) ∧ w = w' := by
  rcases hb : inR b 0 1000 with _ | _
  all_goals rcases ht : inR t 1 6 with _ | _
  all_goals rcases hn : inR n 0 1000 with _ | _
  case true.true.true =>
    obtain ⟨hb0, hb1⟩ := inR_iff.1 hb
    obtain ⟨hn0, hn1⟩ := inR_iff.1 hn
    obtain ⟨h1, h6⟩ := inR_iff.1 ht
    obtain ⟨k, rfl⟩ : ∃ k : Nat, t = ((k + 1 : Nat) : Int) := ⟨t.toNat - 1, by omega⟩
    obtain ⟨m, hm⟩ : ∃ m, boN k = m := ⟨_, rfl⟩
    obtain ⟨m0, m1⟩ := boN_bd k
    rw [hm] at m0 m1
    obtain ⟨r, hr⟩ : ∃ r, (37 * b + 11 * ((k + 1 : Nat) : Int) + 5) % ((m + 1) / 2) = r := ⟨_, rfl⟩
    obtain ⟨r0, r1⟩ := mod_bd (37 * b + 11 * ((k + 1 : Nat) : Int) + 5) ((m + 1) / 2) (by omega)
    rw [hr] at r0 r1
    have hw : boV ((k + 1 : Nat) : Int) = m := by rw [boV_nat (by omega), hm]
    have hv : ttV b ((k + 1 : Nat) : Int) n = n + (m - r) := by simp only [ttV, ttOK, hb, ht, hn, swV, hw, hr]; simp
    have HV := Lib.hid hv
    have HM := Lib.hid hm
    have HR := Lib.hid hr
    clear hm hr hv hw
    go_enter Tryd.func18, Tryd.ntmps18
    go_wp2_with (first | (go_at_call 32; refine (spec_inRange_any _ _ _ _).mono ?_; rintro e w' ⟨rfl, rfl⟩) | (go_at_call 33; refine (call_int (spec_backoff_any (k + 1) _ (by omega) (by omega)) HM.out).mono ?_; rintro e w' ⟨rfl, rfl⟩) | (go_at_call 35; refine (call_int (spec_spreadOf_any b _ ((m + 1) / 2) _ hb0 hb1 (by omega) (by omega) (by omega) (by omega)) HR.out).mono ?_; rintro e w' ⟨rfl, rfl⟩))
    go_ret
    exact ⟨ret_int (by rw [HV.out]; omega), rfl⟩
  all_goals
    go_enter Tryd.func18, Tryd.ntmps18
    go_wp2_with (go_at_call 32; refine (spec_inRange_any _ _ _ _).mono ?_; rintro e w' ⟨rfl, rfl⟩)
    go_ret
    exact ⟨ret_int (by simp [ttV, ttOK, hb, ht, hn]), rfl⟩
set_option maxHeartbeats 1000000 in
theorem impl_LastWait_any (t : Int) (w : World) (h : WA w) :
    Calls Tryd.prog 26 #[.int .i64 t] w fun e w' => e = .returned (.int .i64 (lwV t)) ∧ w = w' := by
  have H := Lib.hid h
  clear h
  rcases ht : inR t 0 6 with _ | _
  · go_enter Tryd.func26, Tryd.ntmps26
    go_wp2_with (go_at_call 34; refine (impl_within_any _ _ _ _).mono ?_; rintro e w' ⟨rfl, rfl⟩)
    go_ret
    exact ⟨ret_int (by simp [lwV, ht]), rfl⟩
  · obtain ⟨h0, h6⟩ := inR_iff.1 ht
    obtain ⟨T, rfl⟩ := Int.eq_ofNat_of_zero_le h0
    have h6' : T ≤ 6 := by omega
    go_enter Tryd.func26, Tryd.ntmps26
    go_wp2_with (go_at_call 34; refine (impl_within_any _ _ _ _).mono ?_; rintro e w' ⟨rfl, rfl⟩)
    go_loop [3, 4] (fun s i => ∃ k : Nat, ∃ m : Int, k ≤ T ∧ 0 ≤ m ∧ m ≤ 60 * k ∧ i = .int .i64 ((k : Int) + 1) ∧ s = .int .i64 m ∧ Hid (lwN k = m)) (fun _ i => T + 1 - (intOf i).toNat)
    case atStart => exact ⟨0, 0, by omega, by omega, by omega, rfl, rfl, Lib.hid rfl⟩
    case round =>
      obtain ⟨k, m, hk, hm0, hm1, rfl, rfl, hm⟩ := hrel
      by_cases hlt : k + 1 ≤ T
      · have hlt' : (k : Int) + 1 ≤ (T : Int) := by omega
        obtain ⟨v, hv⟩ : ∃ v, boN k = v := ⟨_, rfl⟩
        obtain ⟨v0, v1⟩ := boN_bd k
        rw [hv] at v0 v1
        have HV := Lib.hid ((boV_nat (k := k) (by omega)).trans hv)
        have HV2 := Lib.hid hv
        clear hv
        go_wp2_with (go_at_call 17; refine (call_int (impl_BackoffOf_any _ _ H.out) (by simpa using HV.out : boV ((k : Int) + 1) = v)).mono ?_; rintro e w' ⟨rfl, rfl⟩)
        go_round
        case rel => exact ⟨k + 1, m + v, by omega, by omega, by omega, by go_num, by go_num, Lib.hid (by simp only [lwN]; rw [hm.out, HV2.out])⟩
        case measure => simp [intOf]; omega
      · have hlt' : ¬ (k : Int) + 1 ≤ (T : Int) := by omega
        go_wp2_with (fail)
        go_ret
        have e : T = k := by omega
        exact ⟨ret_int (by simp only [lwV, ht, if_true]; rw [Int.toNat_natCast, e]; exact hm.out.symm), rfl⟩
set_option maxHeartbeats 1000000 in
theorem spec_LastWait_any (t : Int) (w : World) :
    Calls Tryd.prog 25 #[.int .i64 t] w fun e w' => e = .returned (.int .i64 (lwV t)) ∧ w = w' := by
  rcases ht : inR t 0 6 with _ | _
  · go_enter Tryd.func25, Tryd.ntmps25
    go_wp2_with (go_at_call 32; refine (spec_inRange_any _ _ _ _).mono ?_; rintro e w' ⟨rfl, rfl⟩)
    go_ret
    exact ⟨ret_int (by simp [lwV, ht]), rfl⟩
  · obtain ⟨h0, h6⟩ := inR_iff.1 ht
    obtain ⟨T, rfl⟩ := Int.eq_ofNat_of_zero_le h0
    have h6' : T ≤ 6 := by omega
    go_enter Tryd.func25, Tryd.ntmps25
    go_wp2_with (go_at_call 32; refine (spec_inRange_any _ _ _ _).mono ?_; rintro e w' ⟨rfl, rfl⟩)
    go_loop [3, 4] (fun s i => ∃ k : Nat, ∃ m : Int, k ≤ T ∧ 0 ≤ m ∧ m ≤ 60 * k ∧ i = .int .i64 ((k : Int) + 1) ∧ s = .int .i64 m ∧ Hid (lwN k = m)) (fun _ i => T + 1 - (intOf i).toNat)
    case atStart => exact ⟨0, 0, by omega, by omega, by omega, rfl, rfl, Lib.hid rfl⟩
    case round =>
      obtain ⟨k, m, hk, hm0, hm1, rfl, rfl, hm⟩ := hrel
      by_cases hlt : k + 1 ≤ T
      · have hlt' : (k : Int) + 1 ≤ (T : Int) := by omega
        obtain ⟨v, hv⟩ : ∃ v, boN k = v := ⟨_, rfl⟩
        obtain ⟨v0, v1⟩ := boN_bd k
        rw [hv] at v0 v1
        have HV2 := Lib.hid hv
        have HC := Lib.hid (fun w => call_int (spec_backoff_any (k + 1) w (by omega) (by omega)) (show boN (k + 1 - 1) = v from hv))
        clear hv
        go_wp2_with (go_at_call 33; refine (HC.out _).mono ?_; rintro e w' ⟨rfl, rfl⟩)
        go_round
        case rel => exact ⟨k + 1, m + v, by omega, by omega, by omega, by go_num, by go_num, Lib.hid (by simp only [lwN]; rw [hm.out, HV2.out])⟩
        case measure => simp [intOf]; omega
      · have hlt' : ¬ (k : Int) + 1 ≤ (T : Int) := by omega
        go_wp2_with (fail)
        go_ret
        have e : T = k := by omega
        exact ⟨ret_int (by simp only [lwV, ht, if_true]; rw [Int.toNat_natCast, e]; exact hm.out.symm), rfl⟩
/-- The time of a try; the times of the first ones. -/
def tmN (b n : Int) : Nat → Int
  | 0 => n
  | k + 1 => tmN b n k + swV b ((k : Int) + 1)
def ttL (b n : Int) (k : Nat) : List Int := (List.range (k + 1)).map (tmN b n)
theorem ttL_next (b n : Int) (k : Nat) : ttL b n (k + 1) = ttL b n k ++ [tmN b n (k + 1)] := by simp [ttL, List.range_succ]
theorem ttL_len (b n : Int) (k : Nat) : (ttL b n k).length = k + 1 := by simp [ttL]
def tsOK (b t n : Int) : Bool := inR b 0 1000 && inR t 0 6 && inR n 0 1000
def tsV (b t n : Int) : List Int := if tsOK b t n then ttL b n t.toNat else []
theorem tsV_no {b t n : Int} (h : tsOK b t n = false) : tsV b t n = [] := by simp [tsV, h]
theorem tsV_le (b t n : Int) : (tsV b t n).length ≤ 7 := by
  unfold tsV
  split
  · rename_i h
    simp [tsOK] at h
    have := inR_iff.1 h.1.2
    rw [ttL_len]
    omega
  · simp
theorem OW.none (w : World) (T base : Nat) : OW w T base none 0 0 [] := ⟨rfl, .inl ⟨rfl, rfl⟩⟩
set_option maxHeartbeats 2000000 in
theorem impl_TryTimes_any (b t n : Int) (w : World) (h : WA w) :
    Calls Tryd.prog 21 #[.int .i64 b, .int .i64 t, .int .i64 n] w (GaveInts 3 w (tsV b t n)) := by
  have H := Lib.hid h
  clear h
  rcases hb : inR b 0 1000 with _ | _
  all_goals rcases ht : inR t 0 6 with _ | _
  all_goals rcases hn : inR n 0 1000 with _ | _
  case true.true.true =>
    obtain ⟨hb0, hb1⟩ := inR_iff.1 hb
    obtain ⟨hn0, hn1⟩ := inR_iff.1 hn
    obtain ⟨h0, h6⟩ := inR_iff.1 ht
    obtain ⟨T, rfl⟩ := Int.eq_ofNat_of_zero_le h0
    have h6' : T ≤ 6 := by omega
    have HE : Hid (tsV b (T : Int) n = ttL b n T) := Lib.hid (by simp [tsV, tsOK, hb, ht, hn])
    have HO : Hid (OW (w.alloc (.cells #[.int .i64 n] 3)) 3 w.heap.size (some ⟨w.heap.size, 0, none⟩) 1 1 (ttL b n 0)) := Lib.hid (by simpa [ttL, tmN] using OW.lit w 3 w.heap.size [n] (Nat.le_refl _) (by simp))
    have HB := Lib.hid (below_new w (.cells #[.int .i64 n] 3))
    go_enter Tryd.func21, Tryd.ntmps21
    go_wp2_with (first | (go_at_call 36; refine (impl_validFirst_any _ _ _).mono ?_; rintro e w' ⟨rfl, rfl⟩) | (go_at_call 34; refine (impl_within_any _ _ _ _).mono ?_; rintro e w' ⟨rfl, rfl⟩))
    clear hb ht hn
    go_loopw [2, 7, 8] (fun nw l i wr => ∃ (k : Nat) (m : Int) (A : Option Addr) (c : Nat), k ≤ T ∧ 0 ≤ m ∧ m ≤ 1000 + 60 * k ∧ i = .int .i64 ((k : Int) + 1) ∧ nw = .int .i64 m ∧ l = .slice A (k + 1) c ∧ Hid (tmN b n k = m) ∧ Hid (OW wr 3 w.heap.size A (k + 1) c (ttL b n k)) ∧ Hid (Below w.heap.size w wr)) (fun _ _ i _ => T + 1 - (intOf i).toNat)
    case atStart => exact ⟨0, n, _, 1, by omega, by omega, by omega, rfl, rfl, rfl, Lib.hid rfl, HO, HB⟩
    case round =>
      obtain ⟨k, m, A, c, hk, hm0, hm1, rfl, rfl, rfl, hm, ho, hbl⟩ := hrel
      clear HO HB
      by_cases hlt : k + 1 ≤ T
      · have hlt' : (k : Int) + 1 ≤ (T : Int) := by omega
        have hin : inR ((k : Int) + 1) 1 6 = true := inR_t (by omega) (by omega)
        obtain ⟨s, hs⟩ : ∃ s, swV b ((k : Int) + 1) = s := ⟨_, rfl⟩
        obtain ⟨s1, _, s2, s3⟩ := sw_bd (b := b) hin
        rw [hs] at s1 s2
        have s4 : s ≤ 60 := by omega
        have HC := Lib.hid (call_int (impl_shortWait_any b ((k : Int) + 1) wr (H.out.below hbl.out (Nat.le_refl _)) hb0 hb1 hin) hs)
        have HS := Lib.hid hs
        clear hs s1 s3 hin
        have hsz := hbl.out.size
        have O7 := Lib.hid (show OW (wr.alloc (.cells #[.int .i64 (m + s)] 3)) 3 w.heap.size A (k + 1) c (ttL b n k) from ho.out.alloc _)
        have SV : Hid (IS (wr.alloc (.cells #[.int .i64 (m + s)] 3)) (some ⟨wr.heap.size, 0, none⟩) 1 1 [m + s]) := Lib.hid (by simpa using (OW.lit wr 3 0 [m + s] (by simp) (by simp)).is)
        have B7 := Lib.hid (hbl.out.alloc hbl.out.size (.cells #[.int .i64 (m + s)] 3))
        go_wp2_with (first | (go_at_call 37; refine HC.out.mono ?_; rintro e w' ⟨rfl, rfl⟩) | (at_builtin; go_must (refine wpList_append_is _ rfl (.tmp 30) (.tmp 32) _ rfl w.heap.size 3 infoInt Tryd.underlying26 _ _ _ _ rfl O7.out _ _ _ _ rfl SV.out (by omega) (by simp; omega) ?_); intro A8 c8 w8 hown8 hg8; have O8 := Lib.hid hown8; have B8 := Lib.hid (O7.out.below_grown hg8 B7.out (Nat.le_refl _) (by simp; omega)); clear hown8 hg8))
        go_roundw
        case rel => exact ⟨k + 1, m + s, A8, c8, by omega, by omega, by omega, by go_num, by go_num, rfl, Lib.hid (by simp only [tmN]; rw [hm.out, HS.out]), Lib.hid (by rw [ttL_next]; simp only [tmN]; rw [hm.out, HS.out]; exact O8.out), B8⟩
        case measure => simp [intOf]; omega
      · have hlt' : ¬ (k : Int) + 1 ≤ (T : Int) := by omega
        go_wp2_with (fail)
        go_ret
        have e : T = k := by omega
        subst e
        exact ⟨_, _, _, rfl, by rw [HE.out]; exact ho.out, hbl.out⟩
  all_goals
    go_enter Tryd.func21, Tryd.ntmps21
    go_wp2_with (first | (go_at_call 36; refine (impl_validFirst_any _ _ _).mono ?_; rintro e w' ⟨rfl, rfl⟩) | (go_at_call 34; refine (impl_within_any _ _ _ _).mono ?_; rintro e w' ⟨rfl, rfl⟩))
    go_ret
    exact ⟨_, _, _, rfl, by rw [tsV_no (by simp [tsOK, hb, ht, hn])]; exact OW.none _ _ _, Below.refl _ _⟩
set_option maxHeartbeats 2000000 in
theorem spec_TryTimes_any (b t n : Int) (w : World) :
    Calls Tryd.prog 20 #[.int .i64 b, .int .i64 t, .int .i64 n] w (GaveInts 3 w (tsV b t n)) := by
  rcases hb : inR b 0 1000 with _ | _
  all_goals rcases ht : inR t 0 6 with _ | _
  all_goals rcases hn : inR n 0 1000 with _ | _
  case true.true.true =>
    obtain ⟨hb0, hb1⟩ := inR_iff.1 hb
    obtain ⟨hn0, hn1⟩ := inR_iff.1 hn
    obtain ⟨h0, h6⟩ := inR_iff.1 ht
    obtain ⟨T, rfl⟩ := Int.eq_ofNat_of_zero_le h0
    have h6' : T ≤ 6 := by omega
    have HE : Hid (tsV b (T : Int) n = ttL b n T) := Lib.hid (by simp [tsV, tsOK, hb, ht, hn])
    have HO : Hid (OW (w.alloc (.cells #[.int .i64 n] 3)) 3 w.heap.size (some ⟨w.heap.size, 0, none⟩) 1 1 (ttL b n 0)) := Lib.hid (by simpa [ttL, tmN] using OW.lit w 3 w.heap.size [n] (Nat.le_refl _) (by simp))
    have HB := Lib.hid (below_new w (.cells #[.int .i64 n] 3))
    go_enter Tryd.func20, Tryd.ntmps20
    go_wp2_with (go_at_call 32; refine (spec_inRange_any _ _ _ _).mono ?_; rintro e w' ⟨rfl, rfl⟩)
    clear hb ht hn
    go_loopw [2, 7, 8] (fun nw l i wr => ∃ (k : Nat) (m : Int) (A : Option Addr) (c : Nat), k ≤ T ∧ 0 ≤ m ∧ m ≤ 1000 + 60 * k ∧ i = .int .i64 ((k : Int) + 1) ∧ nw = .int .i64 m ∧ l = .slice A (k + 1) c ∧ Hid (tmN b n k = m) ∧ Hid (OW wr 3 w.heap.size A (k + 1) c (ttL b n k)) ∧ Hid (Below w.heap.size w wr)) (fun _ _ i _ => T + 1 - (intOf i).toNat)
    case atStart => exact ⟨0, n, _, 1, by omega, by omega, by omega, rfl, rfl, rfl, Lib.hid rfl, HO, HB⟩
    case round =>
      obtain ⟨k, m, A, c, hk, hm0, hm1, rfl, rfl, rfl, hm, ho, hbl⟩ := hrel
      clear HO HB
      by_cases hlt : k + 1 ≤ T
      · have hlt' : (k : Int) + 1 ≤ (T : Int) := by omega
        obtain ⟨v, hv⟩ : ∃ v, boN k = v := ⟨_, rfl⟩
        obtain ⟨v0, v1⟩ := boN_bd k
        rw [hv] at v0 v1
        obtain ⟨r, hr⟩ : ∃ r, (37 * b + 11 * ((k : Int) + 1) + 5) % ((v + 1) / 2) = r := ⟨_, rfl⟩
        obtain ⟨r0, r1⟩ := mod_bd (37 * b + 11 * ((k : Int) + 1) + 5) ((v + 1) / 2) (by omega)
        rw [hr] at r0 r1
        have hs : swV b ((k : Int) + 1) = v - r := by
          have h2 : boV ((k : Int) + 1) = v := (boV_nat (k := k) (by omega)).trans hv
          simp only [swV, h2, hr]
        have HC := Lib.hid (fun w => call_int (spec_backoff_any (k + 1) w (by omega) (by omega)) (show boN (k + 1 - 1) = v from hv))
        have HC2 := Lib.hid (fun w => call_int (spec_spreadOf_any b ((k : Int) + 1) ((v + 1) / 2) w hb0 hb1 (by omega) (by omega) (by omega) (by omega)) hr)
        have HS := Lib.hid hs
        clear hs hr hv
        have hsz := hbl.out.size
        have O7 := Lib.hid (show OW (wr.alloc (.cells #[.int .i64 (m + v - r)] 3)) 3 w.heap.size A (k + 1) c (ttL b n k) from ho.out.alloc _)
        have SV : Hid (IS (wr.alloc (.cells #[.int .i64 (m + v - r)] 3)) (some ⟨wr.heap.size, 0, none⟩) 1 1 [m + v - r]) := Lib.hid (by simpa using (OW.lit wr 3 0 [m + v - r] (by simp) (by simp)).is)
        have B7 := Lib.hid (hbl.out.alloc hbl.out.size (.cells #[.int .i64 (m + v - r)] 3))
        have HX : Hid (m + v - r = m + (v - r)) := Lib.hid (by omega)
        go_wp2_with (first | (go_at_call 33; refine (HC.out _).mono ?_; rintro e w' ⟨rfl, rfl⟩) | (go_at_call 35; refine (HC2.out _).mono ?_; rintro e w' ⟨rfl, rfl⟩) | (at_builtin; go_must (refine wpList_append_is _ rfl (.tmp 42) (.tmp 44) _ rfl w.heap.size 3 infoInt Tryd.underlying26 _ _ _ _ rfl O7.out _ _ _ _ rfl SV.out (by omega) (by simp; omega) ?_); intro A8 c8 w8 hown8 hg8; have O8 := Lib.hid hown8; have B8 := Lib.hid (O7.out.below_grown hg8 B7.out (Nat.le_refl _) (by simp; omega)); clear hown8 hg8))
        go_roundw
        case rel => exact ⟨k + 1, m + v - r, A8, c8, by omega, by omega, by omega, by go_num, by go_num, rfl, Lib.hid (by simp only [tmN]; rw [hm.out, HS.out, HX.out]), Lib.hid (by rw [ttL_next]; simp only [tmN]; rw [hm.out, HS.out, ← HX.out]; exact O8.out), B8⟩
        case measure => simp [intOf]; omega
      · have hlt' : ¬ (k : Int) + 1 ≤ (T : Int) := by omega
        go_wp2_with (fail)
        go_ret
        have e : T = k := by omega
        subst e
        exact ⟨_, _, _, rfl, by rw [HE.out]; exact ho.out, hbl.out⟩
  all_goals
    go_enter Tryd.func20, Tryd.ntmps20
    go_wp2_with (go_at_call 32; refine (spec_inRange_any _ _ _ _).mono ?_; rintro e w' ⟨rfl, rfl⟩)
    go_ret
    exact ⟨_, _, _, rfl, by rw [tsV_no (by simp [tsOK, hb, ht, hn])]; exact OW.none _ _ _, Below.refl _ _⟩
end Go.Proofs.YtdbmglhoohgniaaDoor
