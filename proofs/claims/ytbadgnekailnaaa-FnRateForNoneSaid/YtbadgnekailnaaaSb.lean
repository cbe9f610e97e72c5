/-
  Contracts of SampleKeys and RateFor of both sides.
-/
import Derived.Test.YtbadgnekailnaaaSa
namespace Go.Proofs.Ytbadgnekailnaaa
open Go.RowKit

theorem impl_validKeys_any {A : Option Addr} {n c : Nat} {xs : List Int} (w : World) (h : IS w A n c xs) :
    Calls Try.prog 42 #[.slice A n c] w fun e w' => e = .returned (.bool (okK xs)) ∧ w = w' := by
  have hcap := h.cap
  have HL := Lib.hid h.len
  have H := Lib.hid h
  clear h
  by_cases h16 : (n : Int) ≤ 16
  · go_enter Try.func42, Try.ntmps42
    go_wp2_with (go_at_call 48; refine (impl_allWithin_any _ _ _ H.out).mono ?_; rintro e w' ⟨rfl, rfl⟩)
    go_ret
    exact ⟨ret_bool (by have := HL.out; simp [okK]; omega), rfl⟩
  · go_enter Try.func42, Try.ntmps42
    go_wp2_with (fail)
    go_ret
    exact ⟨ret_bool (by have := HL.out; simp [okK]; omega), rfl⟩
set_option maxHeartbeats 2000000 in
theorem impl_SampleKeys_any {A : Option Addr} {n c : Nat} {xs : List Int} (r : Int) (w : World) (h : IS w A n c xs) :
    Calls Try.prog 23 #[.slice A n c, .int .i64 r] w (GaveInts 3 w (smV xs r)) := by
  have hcap := h.cap
  have HL := Lib.hid h.len
  have H := Lib.hid h
  clear h
  rcases hk : okK xs with _ | _
  all_goals rcases hr : inR r 1 16 with _ | _
  case true.true =>
    have hok : smOK xs r = true := by simp [smOK, hk, hr]
    obtain ⟨h16, hall⟩ := okK_in hk
    have h16' : n ≤ 16 := by have := HL.out; omega
    have HA := Lib.hid hall
    have HR := Lib.hid hr
    clear hall h16
    go_enter Try.func23, Try.ntmps23
    go_wp2_with (first | (go_at_call 42; refine (call_b (impl_validKeys_any _ H.out) hk).mono ?_; rintro e w' ⟨rfl, rfl⟩) | (go_at_call 39; refine (call_b (impl_validRate_any _ _) HR.out).mono ?_; rintro e w' ⟨rfl, rfl⟩))
    clear hk hr
    go_loopw [5, 18] (fun l i wr => ∃ (k m c1 : Nat) (A1 : Option Addr), k ≤ n ∧ m ≤ k ∧ i = .int .i64 (k : Int) ∧ l = .slice A1 m c1 ∧ Hid (OW wr 3 w.heap.size A1 m c1 (smL r (xs.take k))) ∧ Hid (Below w.heap.size w wr)) (fun _ i _ => n - (intOf i).toNat)
    case atStart => exact ⟨0, 0, 0, none, Nat.zero_le _, Nat.le_refl _, rfl, rfl, Lib.hid (by simpa [smL] using OW.none w 3 w.heap.size), Lib.hid (Below.refl _ _)⟩
    case round =>
      obtain ⟨k, m, c1, A1, hk, hm, rfl, rfl, ho, hb⟩ := hrel
      by_cases hlt : k < n
      · have hlt' : (k : Int) < (n : Int) := by omega
        have hsz := hb.out.size
        obtain ⟨b, off, v, rfl, hx, hc⟩ := (H.out.below hb.out (Nat.le_refl _)).at_ hlt
        have HX := Lib.hid hx
        have HV := Lib.hid (allR_at hx HA.out)
        clear hx
        rcases hkp : keepP r v with _ | _
        · have HK : Hid (keepV v r = false) := Lib.hid (by simp [keepV, hkp])
          go_wp2_with (go_at_call 18; refine (call_b (impl_KeepsKey_any v r _) HK.out).mono ?_; rintro e w' ⟨rfl, rfl⟩)
          go_roundw
          case rel => exact ⟨k + 1, m, c1, A1, by omega, by omega, by first | rfl | go_num, rfl, Lib.hid (by rw [smL_no HX.out hkp]; exact ho.out), hb⟩
          case measure => simp [intOf]; omega
        · have HK : Hid (keepV v r = true) := Lib.hid (by simp [keepV, hkp, HR.out, inR_t HV.out.1 HV.out.2])
          have O7 := Lib.hid (ho.out.alloc (.cells #[.int .i64 v] 3))
          have SV : Hid (IS (wr.alloc (.cells #[.int .i64 v] 3)) (some ⟨wr.heap.size, 0, none⟩) 1 1 [v]) := Lib.hid (by simpa using (OW.lit wr 3 0 [v] (by simp) (by simp)).is)
          have B7 := Lib.hid (hb.out.alloc hsz (.cells #[.int .i64 v] 3))
          go_wp2_with (first | (go_at_call 18; refine (call_b (impl_KeepsKey_any v r _) HK.out).mono ?_; rintro e w' ⟨rfl, rfl⟩) | (at_builtin; go_must (refine wpList_append_is _ rfl (.tmp 25) (.tmp 27) _ rfl w.heap.size 3 infoInt Try.underlying24 _ _ _ _ rfl O7.out _ _ _ _ rfl SV.out (by omega) (by simp; omega) ?_); intro A8 c8 w8 hown8 hg8; have O8 := Lib.hid hown8; have B8 := Lib.hid (O7.out.below_grown hg8 B7.out (Nat.le_refl _) (by simp; omega)); clear hown8 hg8))
          go_roundw
          case rel => exact ⟨k + 1, m + 1, c8, A8, by omega, by omega, by first | rfl | go_num, rfl, Lib.hid (by rw [smL_yes HX.out hkp]; exact O8.out), B8⟩
          case measure => simp [intOf]; omega
      · have hlt' : ¬ (k : Int) < (n : Int) := by omega
        go_wp2_with (fail)
        go_ret
        have ek : k = n := by omega
        subst ek
        have ht := ho.out
        rw [List.take_of_length_le (by have := HL.out; omega)] at ht
        exact ⟨A1, m, c1, rfl, by rw [smV_t hok]; exact ht, hb.out⟩
  all_goals
    have hok : smOK xs r = false := by simp [smOK, hk, hr]
    go_enter Try.func23, Try.ntmps23
    go_wp2_with (first | (go_at_call 42; refine (call_b (impl_validKeys_any _ H.out) hk).mono ?_; rintro e w' ⟨rfl, rfl⟩) | (go_at_call 39; refine (call_b (impl_validRate_any _ _) hr).mono ?_; rintro e w' ⟨rfl, rfl⟩))
    go_ret
    exact ⟨none, 0, 0, rfl, by rw [smV_f hok]; exact OW.none _ _ _, Below.refl _ _⟩
set_option maxHeartbeats 2000000 in
theorem spec_SampleKeys_any {A : Option Addr} {n c : Nat} {xs : List Int} (r : Int) (w : World) (h : IS w A n c xs) :
    Calls Try.prog 21 #[.slice A n c, .int .i64 r] w (GaveInts 3 w (smV xs r)) := by
  have hcap := h.cap
  have HL := Lib.hid h.len
  have H := Lib.hid h
  have H0 := Lib.hid (h.alloc (.cells #[] 3))
  clear h
  have B0 := Lib.hid (below_new w (.cells #[] 3))
  by_cases h16 : (n : Int) ≤ 16
  · have h16' : ¬ (16 : Int) < (n : Int) := by omega
    have hL16 : Hid (xs.length ≤ 16) := Lib.hid (by have := HL.out; omega)
    rcases hk : allR xs 0 255 with _ | _
    all_goals rcases hr : inR r 1 16 with _ | _
    case true.true =>
      have hok : smOK xs r = true := by simp [smOK, okK, hk, hr]; exact hL16.out
      obtain ⟨r1, r2⟩ := inR_iff.1 hr
      have HA := Lib.hid hk
      have HR := Lib.hid hr
      have O0 : Hid (OW (w.alloc (.cells #[] 3)) 3 w.heap.size (some ⟨w.heap.size, 0, none⟩) 0 0 (smL r (xs.take 0))) := Lib.hid (by simpa [smL] using OW.lit w 3 w.heap.size [] (Nat.le_refl _) (by simp))
      clear hk hr
      go_enter Try.func21, Try.ntmps21
      go_wp2_with (first | (go_at_call 41; refine (call_b (spec_allIn_any _ _ _ H0.out) HA.out).mono ?_; rintro e w' ⟨rfl, rfl⟩) | (go_at_call 36; refine (call_b (spec_validRate_any _ _) HR.out).mono ?_; rintro e w' ⟨rfl, rfl⟩))
      go_loopw [5, 6] (fun l i wr => ∃ (k m c1 : Nat) (A1 : Option Addr), k ≤ n ∧ m ≤ k ∧ i = .int .i64 (k : Int) ∧ l = .slice A1 m c1 ∧ Hid (OW wr 3 w.heap.size A1 m c1 (smL r (xs.take k))) ∧ Hid (Below w.heap.size w wr)) (fun _ i _ => n - (intOf i).toNat)
      case atStart => exact ⟨0, 0, 0, _, Nat.zero_le _, Nat.le_refl _, rfl, rfl, O0, B0⟩
      case round =>
        obtain ⟨k, m, c1, A1, hk, hm, rfl, rfl, ho, hb⟩ := hrel
        clear O0 B0
        by_cases hlt : k < n
        · have hlt' : (k : Int) < (n : Int) := by omega
          have hsz := hb.out.size
          obtain ⟨b, off, v, rfl, hx, hc⟩ := (H.out.below hb.out (Nat.le_refl _)).at_ hlt
          have HX := Lib.hid hx
          obtain ⟨v0, v1⟩ := allR_at hx HA.out
          clear hx
          rcases hkp : keepP r v with _ | _
          · go_wp2_with (go_at_call 37; refine (call_b (spec_keeps_any v r _ v0 v1 r1 r2) hkp).mono ?_; rintro e w' ⟨rfl, rfl⟩)
            go_roundw
            case rel => exact ⟨k + 1, m, c1, A1, by omega, by omega, by first | rfl | go_num, rfl, Lib.hid (by rw [smL_no HX.out hkp]; exact ho.out), hb⟩
            case measure => simp [intOf]; omega
          · have O7 := Lib.hid (ho.out.alloc (.cells #[.int .i64 v] 3))
            have SV : Hid (IS (wr.alloc (.cells #[.int .i64 v] 3)) (some ⟨wr.heap.size, 0, none⟩) 1 1 [v]) := Lib.hid (by simpa using (OW.lit wr 3 0 [v] (by simp) (by simp)).is)
            have B7 := Lib.hid (hb.out.alloc hsz (.cells #[.int .i64 v] 3))
            go_wp2_with (first | (go_at_call 37; refine (call_b (spec_keeps_any v r _ v0 v1 r1 r2) hkp).mono ?_; rintro e w' ⟨rfl, rfl⟩) | (at_builtin; go_must (refine wpList_append_is _ rfl (.tmp 33) (.tmp 38) _ rfl w.heap.size 3 infoInt Try.underlying24 _ _ _ _ rfl O7.out _ _ _ _ rfl SV.out (by omega) (by simp; omega) ?_); intro A8 c8 w8 hown8 hg8; have O8 := Lib.hid hown8; have B8 := Lib.hid (O7.out.below_grown hg8 B7.out (Nat.le_refl _) (by simp; omega)); clear hown8 hg8))
            go_roundw
            case rel => exact ⟨k + 1, m + 1, c8, A8, by omega, by omega, by first | rfl | go_num, rfl, Lib.hid (by rw [smL_yes HX.out hkp]; exact O8.out), B8⟩
            case measure => simp [intOf]; omega
        · have hlt' : ¬ (k : Int) < (n : Int) := by omega
          go_wp2_with (fail)
          go_ret
          have ek : k = n := by omega
          subst ek
          have ht := ho.out
          rw [List.take_of_length_le (by have := HL.out; omega)] at ht
          exact ⟨A1, m, c1, rfl, by rw [smV_t hok]; exact ht, hb.out⟩
    all_goals
      have hok : smOK xs r = false := by simp [smOK, okK, hk, hr]
      go_enter Try.func21, Try.ntmps21
      go_wp2_with (first | (go_at_call 41; refine (call_b (spec_allIn_any _ _ _ H0.out) hk).mono ?_; rintro e w' ⟨rfl, rfl⟩) | (go_at_call 36; refine (call_b (spec_validRate_any _ _) hr).mono ?_; rintro e w' ⟨rfl, rfl⟩))
      go_ret
      exact ⟨none, 0, 0, rfl, by rw [smV_f hok]; exact OW.none _ _ _, B0.out⟩
  · have h16' : (16 : Int) < (n : Int) := by omega
    have hok : smOK xs r = false := by have := HL.out; simp [smOK, okK]; omega
    go_enter Try.func21, Try.ntmps21
    go_wp2_with (fail)
    go_ret
    exact ⟨none, 0, 0, rfl, by rw [smV_f hok]; exact OW.none _ _ _, B0.out⟩
set_option maxHeartbeats 2000000 in
theorem impl_RateFor_any {A : Option Addr} {n c : Nat} {xs : List Int} (m : Int) (w : World) (h : IS w A n c xs) :
    Calls Try.prog 28 #[.slice A n c, .int .i64 m] w fun e w' => e = .returned (.int .i64 (rfV xs m)) ∧ Below w.heap.size w w' := by
  have HL := Lib.hid h.len
  have H := Lib.hid h
  clear h
  rcases hk : okK xs with _ | _
  all_goals rcases hr : inR m 0 16 with _ | _
  case true.true =>
    obtain ⟨m0, m1⟩ := inR_iff.1 hr
    obtain ⟨M, rfl⟩ := Int.eq_ofNat_of_zero_le m0
    have HOK : Hid (∀ j : Nat, j ≤ 4 → smV xs ((2 : Int) ^ j) = smL ((2 : Int) ^ j) xs) := Lib.hid fun j hj => smV_t (by
      have h1 : inR ((2 : Int) ^ j) 1 16 = true := by
        obtain rfl | rfl | rfl | rfl | rfl : j = 0 ∨ j = 1 ∨ j = 2 ∨ j = 3 ∨ j = 4 := by omega
        all_goals decide
      simp [smOK, hk, h1])
    have HV : Hid (rfV xs (M : Int) = rfF xs M) := Lib.hid (by simp [rfV, hk, hr])
    have HK := Lib.hid hk
    have HR := Lib.hid hr
    clear hk hr m0
    go_enter Try.func28, Try.ntmps28
    go_wp2_with (first | (go_at_call 42; refine (call_b (impl_validKeys_any _ H.out) HK.out).mono ?_; rintro e w' ⟨rfl, rfl⟩) | (go_at_call 38; refine (call_b (impl_within_any _ _ _ _) HR.out).mono ?_; rintro e w' ⟨rfl, rfl⟩))
    go_loopw [5] (fun r wr => ∃ j : Nat, j ≤ 5 ∧ r = .int .i64 ((2 : Int) ^ j) ∧ Hid (∀ i, i < j → M < (smL ((2 : Int) ^ i) xs).length) ∧ Hid (Below w.heap.size w wr)) (fun r _ => 32 - (intOf r).toNat)
    case atStart => exact ⟨0, by omega, rfl, Lib.hid (fun i hi => absurd hi (Nat.not_lt_zero _)), Lib.hid (Below.refl _ _)⟩
    case round =>
      obtain ⟨j, hj, rfl, hbf, hb⟩ := hrel
      rcases Nat.lt_or_ge j 5 with hj5 | hj5
      · obtain ⟨L, hLe⟩ : ∃ L, smL ((2 : Int) ^ j) xs = L := ⟨_, rfl⟩
        have HS := Lib.hid ((HOK.out j (by omega)).trans hLe)
        have HLe := Lib.hid hLe
        clear hLe
        obtain ⟨p, hp, hp1, hp2⟩ : ∃ p : Int, (2 : Int) ^ j = p ∧ 1 ≤ p ∧ p ≤ 16 := ⟨_, rfl, by
          obtain rfl | rfl | rfl | rfl | rfl : j = 0 ∨ j = 1 ∨ j = 2 ∨ j = 3 ∨ j = 4 := by omega
          all_goals decide⟩
        have HP := Lib.hid hp
        have HP2 : Hid ((2 : Int) ^ (j + 1) = p * 2) := Lib.hid (by rw [← hp, Int.pow_succ])
        rw [hp] at HS ⊢
        clear hp
        go_wp2_with (fail)
        refine (impl_SampleKeys_any p wr (H.out.below hb.out (Nat.le_refl _))).mono ?_
        rintro e w2 ⟨A2, n2, c2, rfl, ho, hb2⟩
        rw [HS.out] at ho
        have HN := Lib.hid ho.len
        have B2 := Lib.hid (hb.out.trans (hb2.mono hb.out.size))
        clear ho hb2
        by_cases hle : n2 ≤ M
        · have hle' : (n2 : Int) ≤ (M : Int) := by omega
          go_wp2_with (fail)
          go_ret
          exact ⟨ret_int (by rw [HV.out, ← HP.out]; exact (rf_at (by omega) (by rw [HLe.out, HN.out]; exact hle) hbf.out).symm), B2.out⟩
        · have hle' : ¬ (n2 : Int) ≤ (M : Int) := by omega
          go_wp2_with (fail)
          go_roundw
          case rel => exact ⟨j + 1, by omega, by rw [HP2.out], Lib.hid (fun i hi => by
            rcases Nat.lt_or_ge i j with h1 | h1
            · exact hbf.out i h1
            · obtain rfl : i = j := by omega
              rw [HLe.out, HN.out]; omega), B2⟩
          case measure => simp [intOf]; omega
      · obtain rfl : j = 5 := by omega
        go_wp2_with (fail)
        go_ret
        exact ⟨ret_int (by rw [HV.out]; exact (rf_none hbf.out).symm), hb.out⟩
  all_goals
    have hv : rfV xs m = -1 := by simp [rfV, hk, hr]
    go_enter Try.func28, Try.ntmps28
    go_wp2_with (first | (go_at_call 42; refine (call_b (impl_validKeys_any _ H.out) hk).mono ?_; rintro e w' ⟨rfl, rfl⟩) | (go_at_call 38; refine (call_b (impl_within_any _ _ _ _) hr).mono ?_; rintro e w' ⟨rfl, rfl⟩))
    go_ret
    exact ⟨ret_int hv.symm, Below.refl _ _⟩
set_option maxHeartbeats 2000000 in
theorem spec_RateFor_any {A : Option Addr} {n c : Nat} {xs : List Int} (m : Int) (w : World) (h : IS w A n c xs) :
    Calls Try.prog 27 #[.slice A n c, .int .i64 m] w fun e w' => e = .returned (.int .i64 (rfV xs m)) ∧ Below w.heap.size w w' := by
  have HL := Lib.hid h.len
  have H := Lib.hid h
  clear h
  rcases hk : okK xs with _ | _
  all_goals rcases hr : inR m 0 16 with _ | _
  case true.true =>
    obtain ⟨m0, m1⟩ := inR_iff.1 hr
    obtain ⟨M, rfl⟩ := Int.eq_ofNat_of_zero_le m0
    have HOK : Hid (∀ j : Nat, j ≤ 4 → smV xs ((2 : Int) ^ j) = smL ((2 : Int) ^ j) xs) := Lib.hid fun j hj => smV_t (by
      have h1 : inR ((2 : Int) ^ j) 1 16 = true := by
        obtain rfl | rfl | rfl | rfl | rfl : j = 0 ∨ j = 1 ∨ j = 2 ∨ j = 3 ∨ j = 4 := by omega
        all_goals decide
      simp [smOK, hk, h1])
    have HV : Hid (rfV xs (M : Int) = rfF xs M) := Lib.hid (by simp [rfV, hk, hr])
    have hk16 : ¬ (16 : Int) < (n : Int) := by have := HL.out; have := (okK_in hk).1; omega
    have HA := Lib.hid (okK_in hk).2
    have HR := Lib.hid hr
    clear hk hr m0
    go_enter Try.func27, Try.ntmps27
    go_wp2_with (first | (go_at_call 41; refine (call_b (spec_allIn_any _ _ _ H.out) HA.out).mono ?_; rintro e w' ⟨rfl, rfl⟩) | (go_at_call 35; refine (call_b (spec_inRange_any _ _ _ _) HR.out).mono ?_; rintro e w' ⟨rfl, rfl⟩))
    go_loopw [5] (fun r wr => ∃ j : Nat, j ≤ 5 ∧ r = .int .i64 ((2 : Int) ^ j) ∧ Hid (∀ i, i < j → M < (smL ((2 : Int) ^ i) xs).length) ∧ Hid (Below w.heap.size w wr)) (fun r _ => 32 - (intOf r).toNat)
    case atStart => exact ⟨0, by omega, rfl, Lib.hid (fun i hi => absurd hi (Nat.not_lt_zero _)), Lib.hid (Below.refl _ _)⟩
    case round =>
      obtain ⟨j, hj, rfl, hbf, hb⟩ := hrel
      rcases Nat.lt_or_ge j 5 with hj5 | hj5
      · obtain ⟨L, hLe⟩ : ∃ L, smL ((2 : Int) ^ j) xs = L := ⟨_, rfl⟩
        have HS := Lib.hid ((HOK.out j (by omega)).trans hLe)
        have HLe := Lib.hid hLe
        clear hLe
        obtain ⟨p, hp, hp1, hp2⟩ : ∃ p : Int, (2 : Int) ^ j = p ∧ 1 ≤ p ∧ p ≤ 16 := ⟨_, rfl, by
          obtain rfl | rfl | rfl | rfl | rfl : j = 0 ∨ j = 1 ∨ j = 2 ∨ j = 3 ∨ j = 4 := by omega
          all_goals decide⟩
        have HP := Lib.hid hp
        have HP2 : Hid ((2 : Int) ^ (j + 1) = 2 * p) := Lib.hid (by rw [← hp, Int.pow_succ, Int.mul_comm])
        rw [hp] at HS ⊢
        clear hp
        go_wp2_with (fail)
        refine (spec_SampleKeys_any p wr (H.out.below hb.out (Nat.le_refl _))).mono ?_
        rintro e w2 ⟨A2, n2, c2, rfl, ho, hb2⟩
        rw [HS.out] at ho
        have HN := Lib.hid ho.len
        have B2 := Lib.hid (hb.out.trans (hb2.mono hb.out.size))
        clear ho hb2
        by_cases hle : n2 ≤ M
        · have hle' : (n2 : Int) ≤ (M : Int) := by omega
          go_wp2_with (fail)
          go_ret
          exact ⟨ret_int (by rw [HV.out, ← HP.out]; exact (rf_at (by omega) (by rw [HLe.out, HN.out]; exact hle) hbf.out).symm), B2.out⟩
        · have hle' : ¬ (n2 : Int) ≤ (M : Int) := by omega
          go_wp2_with (fail)
          go_roundw
          case rel => exact ⟨j + 1, by omega, by rw [HP2.out], Lib.hid (fun i hi => by
            rcases Nat.lt_or_ge i j with h1 | h1
            · exact hbf.out i h1
            · obtain rfl : i = j := by omega
              rw [HLe.out, HN.out]; omega), B2⟩
          case measure => simp [intOf]; omega
      · obtain rfl : j = 5 := by omega
        go_wp2_with (fail)
        go_ret
        exact ⟨ret_int (by rw [HV.out]; exact (rf_none hbf.out).symm), hb.out⟩
  all_goals
    have hv : rfV xs m = -1 := by simp [rfV, hk, hr]
    by_cases h16 : (n : Int) ≤ 16
    · have h16' : ¬ (16 : Int) < (n : Int) := by omega
      have h16l : Hid (xs.length ≤ 16) := Lib.hid (by have := HL.out; omega)
      have hal : allR xs 0 255 = okK xs := by simp [okK]; intro _; exact h16l.out
      rw [hk] at hal
      go_enter Try.func27, Try.ntmps27
      go_wp2_with (first | (go_at_call 41; refine (call_b (spec_allIn_any _ _ _ H.out) hal).mono ?_; rintro e w' ⟨rfl, rfl⟩) | (go_at_call 35; refine (call_b (spec_inRange_any _ _ _ _) hr).mono ?_; rintro e w' ⟨rfl, rfl⟩))
      go_ret
      exact ⟨ret_int hv.symm, Below.refl _ _⟩
    · have h16' : (16 : Int) < (n : Int) := by omega
      go_enter Try.func27, Try.ntmps27
      go_wp2_with (fail)
      go_ret
      exact ⟨ret_int (by first | rfl | exact hv.symm), Below.refl _ _⟩
end Go.Proofs.Ytbadgnekailnaaa
