/-
  HealthPath and CountTurns of both sides. (Its words were written by a program of my own.)
-/
import Derived.Test.YtdbfccfckinjmaaDoorNh
namespace Go.Proofs.YtdbfccfckinjmaaDoor
open Go.RowKit

set_option maxHeartbeats 1600000 in
theorem impl_validPath_any {A : Option Addr} {n k : Nat} {xs : List Int} (a b c d : Int) (w : World) (h : IS w A n k xs) :
    Calls Tryd.prog 36 #[.agg #[.int .i64 a, .int .i64 b, .int .i64 c, .int .i64 d], .slice A n k] w fun e w' => e = .returned (.bool (hpOK a b c d xs)) ∧ Below w.heap.size w w' := by
  have hcap := h.cap
  have HL := Lib.hid h.len
  have H0 := Lib.hid h
  have B0 := Lib.hid (below_new w (.cells #[.int .i64 a, .int .i64 b, .int .i64 c, .int .i64 d] 25))
  clear h
  rcases hv : mkV a b c d with _ | _
  · go_enter Tryd.func36, Tryd.ntmps36
    go_wp2_with (fail)
    refine (call_bool (impl_ValidMarks_any a b c d _) hv).mono ?_
    rintro e w1 ⟨rfl, hb⟩
    have B1 := Lib.hid (B0.out.trans (hb.mono (by simp)))
    clear hb
    go_wp2_with (fail)
    go_ret
    exact ⟨ret_bool (by simp [hpOK, hv]), B1.out⟩
  by_cases h12 : (n : Int) ≤ 12
  · go_enter Tryd.func36, Tryd.ntmps36
    go_wp2_with (fail)
    refine (call_bool (impl_ValidMarks_any a b c d _) hv).mono ?_
    rintro e w1 ⟨rfl, hb⟩
    have B1 := Lib.hid (B0.out.trans (hb.mono (by simp)))
    have I1 := Lib.hid (H0.out.below B1.out (Nat.le_refl _))
    clear hb
    go_wp2_with (go_at_call 44; refine (impl_allWithin_any _ _ _ I1.out).mono ?_; rintro e w' ⟨rfl, rfl⟩)
    go_ret
    exact ⟨ret_bool (by have h1 : xs.length ≤ 12 := by { have := HL.out; omega }
                        simp [hpOK, hv, h1]), B1.out⟩
  · go_enter Tryd.func36, Tryd.ntmps36
    go_wp2_with (fail)
    refine (call_bool (impl_ValidMarks_any a b c d _) hv).mono ?_
    rintro e w1 ⟨rfl, hb⟩
    have B1 := Lib.hid (B0.out.trans (hb.mono (by simp)))
    clear hb
    go_wp2_with (fail)
    go_ret
    exact ⟨ret_bool (by have h1 : ¬ xs.length ≤ 12 := by { have := HL.out; omega }
                        simp [hpOK, h1]), B1.out⟩
theorem spec_toInt_t (w : World) : Calls Tryd.prog 37 #[.bool true] w fun e w' => e = .returned (.int .i64 1) ∧ w = w' := by
  go_enter Tryd.func37, Tryd.ntmps37
  go_wp2_with (fail)
  go_ret
  exact ⟨rfl, rfl⟩
theorem spec_toInt_f (w : World) : Calls Tryd.prog 37 #[.bool false] w fun e w' => e = .returned (.int .i64 0) ∧ w = w' := by
  go_enter Tryd.func37, Tryd.ntmps37
  go_wp2_with (fail)
  go_ret
  exact ⟨rfl, rfl⟩
set_option maxHeartbeats 1600000 in
theorem impl_HealthPath_any {A : Option Addr} {n c0 : Nat} {xs : List Int} (a b c d : Int) (w : World) (h : IS w A n c0 xs) (ha : HA w) :
    Calls Tryd.prog 19 #[.agg #[.int .i64 a, .int .i64 b, .int .i64 c, .int .i64 d], .slice A n c0] w (GaveInts 3 w (hpL a b c d xs)) := by
  have hcap := h.cap
  have HL := Lib.hid h.len
  have H0 := Lib.hid h
  have T0 := Lib.hid ha
  have B0 := Lib.hid (below_new w (.cells #[.int .i64 a, .int .i64 b, .int .i64 c, .int .i64 d] 25))
  have P0 := Lib.hid (Blk.new w 25 #[.int .i64 a, .int .i64 b, .int .i64 c, .int .i64 d])
  clear h ha
  rcases hp : hpOK a b c d xs with _ | _
  · have HP := Lib.hid hp
    clear hp
    go_enter Tryd.func19, Tryd.ntmps19
    go_wp2_with (fail)
    refine (call_bool (impl_validPath_any a b c d _ (H0.out.alloc (.cells #[.int .i64 a, .int .i64 b, .int .i64 c, .int .i64 d] 25))) HP.out).mono ?_
    rintro e w1 ⟨rfl, hb⟩
    have B1 := Lib.hid (B0.out.trans (hb.mono (by simp)))
    clear hb
    go_wp2_with (fail)
    go_ret
    exact ⟨none, 0, 0, rfl, by rw [hpL_f HP.out]; exact OW.none _ _ _, B1.out⟩
  have HP := Lib.hid hp
  clear hp
  go_enter Tryd.func19, Tryd.ntmps19
  go_wp2_with (fail)
  refine (call_bool (impl_validPath_any a b c d _ (H0.out.alloc (.cells #[.int .i64 a, .int .i64 b, .int .i64 c, .int .i64 d] 25))) HP.out).mono ?_
  rintro e w1 ⟨rfl, hb⟩
  have B1 := Lib.hid (B0.out.trans (hb.mono (by simp)))
  have P1 := Lib.hid (P0.out.on hb)
  clear hb
  go_wp2_with (fail)
  go_loopw [5, 6, 15] (fun q hh i wr => ∃ (k : Nat) (A1 : Option Addr) (c1 : Nat) (H : Int), k ≤ n ∧ i = .int .i64 (k : Int) ∧ q = .slice A1 k c1 ∧ hh = .int .i64 H ∧ Hid (hpH a b c d xs k = H) ∧ Hid (OW wr 3 (w.heap.size + 1) A1 k c1 (hpN a b c d xs k)) ∧ Hid (Blk wr w.heap.size 25 #[.int .i64 a, .int .i64 b, .int .i64 c, .int .i64 d]) ∧ Hid (Below w.heap.size w wr)) (fun _ _ i _ => n - (intOf i).toNat)
  case atStart => exact ⟨0, none, 0, 0, Nat.zero_le _, rfl, rfl, rfl, Lib.hid rfl, Lib.hid (OW.none _ _ _), P1, B1⟩
  case round =>
    obtain ⟨k, A1, c1, H, hk, rfl, rfl, rfl, hH, HO, HM, HB⟩ := hrel
    clear P1 B1
    have h12 : n ≤ 12 := by have h1 := (hpOK_in HP.out).2.1; have h2 := HL.out; omega
    by_cases hlt : k < n
    · have hlt' : (k : Int) < (n : Int) := by omega
      obtain ⟨g, off, x, rfl, hx, hc⟩ := (H0.out.below HB.out (Nat.le_refl _)).at_ hlt
      have hx2 := hp_getD hx
      have hH2 := hH.out
      have hs : hpH a b c d xs (k + 1) = nhV a b c d H x := by
        obtain ⟨e1, e2, e3⟩ := hpOK_in HP.out
        have e4 := hpH_bd a b c d xs k
        rw [hH2] at e4
        have e5 := allR_at hx e3
        rw [nhV_t e1 (inR_t e4.1 e4.2) (inR_t e5.1 e5.2)]
        simp only [hpH, hH2, hx2]
      obtain ⟨v, hv⟩ : ∃ v, nhV a b c d H x = v := ⟨_, rfl⟩
      rw [hv] at hs
      have HS := Lib.hid hs
      have HV := Lib.hid hv
      have HNS : Hid (hpN a b c d xs (k + 1) = hpN a b c d xs k ++ [v]) := Lib.hid (by rw [hpN_succ, hs])
      clear hx hx2 hH2 hs hv
      obtain ⟨m0, m1, m2, m3⟩ := HM.out.c4
      have hml := HM.out.lt
      go_wp2_with (fail)
      refine (call_int (impl_NextHealth_any a b c d H x wr (T0.out.below HB.out (Nat.le_refl _))) HV.out).mono ?_
      rintro e w2 ⟨rfl, hb⟩
      have O2 := Lib.hid (HO.out.below hb (Nat.le_refl _))
      have M2 := Lib.hid (HM.out.on hb)
      have B2 := Lib.hid (HB.out.trans (hb.mono HB.out.size))
      clear hb m0 m1 m2 m3 hc
      have O7 := Lib.hid (O2.out.alloc (.cells #[.int .i64 v] 3))
      have SV : Hid (IS (w2.alloc (.cells #[.int .i64 v] 3)) (some ⟨w2.heap.size, 0, none⟩) 1 1 [v]) := Lib.hid (by simpa using (OW.lit w2 3 0 [v] (by simp) (by simp)).is)
      have M7 := Lib.hid (M2.out.alloc (.cells #[.int .i64 v] 3))
      have B7 := Lib.hid (B2.out.alloc B2.out.size (.cells #[.int .i64 v] 3))
      have DM : Hid (Disj (some ⟨w.heap.size, 0, none⟩) A1) := Lib.hid (disj_mk (show w.heap.size < w.heap.size + 1 by omega) HO.out.ge)
      have hgeA : Hid (Ge A1 (w.heap.size + 1)) := Lib.hid HO.out.ge
      have hm2 := M2.out.lt
      go_wp2_with (at_builtin; go_must (refine wpList_append_is _ rfl (.tmp 23) (.tmp 25) _ rfl (w.heap.size + 1) 3 infoInt Tryd.underlying28 _ _ _ _ rfl O7.out _ _ _ _ rfl SV.out (by omega) (by simp; omega) ?_); intro A8 c8 w8 hown8 hg8; have O8 := Lib.hid hown8; have G8 := Lib.hid (row_mk hg8); have M8 := Lib.hid (M7.out.away G8.out DM.out); have B8 := Lib.hid (below_row B7.out G8.out B7.out.size (hgeA.out.mono (by omega))); clear hown8 hg8)
      go_roundw
      case rel => exact ⟨k + 1, A8, c8, v, by omega, by first | rfl | go_num, rfl, rfl, HS, Lib.hid (by rw [HNS.out]; exact O8.out), M8, B8⟩
      case measure => simp [intOf]; omega
    · have hlt' : ¬ (k : Int) < (n : Int) := by omega
      obtain rfl : k = n := by omega
      go_wp2_with (fail)
      go_ret
      refine ⟨A1, k, c1, rfl, ?_, HB.out⟩
      rw [hpL_t HP.out, HL.out]
      exact HO.out.base_le (by omega)
set_option maxHeartbeats 1600000 in
theorem spec_HealthPath_any {A : Option Addr} {n c0 : Nat} {xs : List Int} (a b c d : Int) (w : World) (h : IS w A n c0 xs) :
    Calls Tryd.prog 17 #[.agg #[.int .i64 a, .int .i64 b, .int .i64 c, .int .i64 d], .slice A n c0] w (GaveInts 3 w (hpL a b c d xs)) := by
  have hcap := h.cap
  have HL := Lib.hid h.len
  have H0 := Lib.hid h
  have B0 := Lib.hid ((below_new w (.cells #[.int .i64 a, .int .i64 b, .int .i64 c, .int .i64 d] 25)).alloc (by simp) (.cells #[] 3))
  have P0 := Lib.hid ((Blk.new w 25 #[.int .i64 a, .int .i64 b, .int .i64 c, .int .i64 d]).alloc (.cells #[] 3))
  have O0 : Hid (OW ((w.alloc (.cells #[.int .i64 a, .int .i64 b, .int .i64 c, .int .i64 d] 25)).alloc (.cells #[] 3)) 3 (w.heap.size + 1) (some ⟨w.heap.size + 1, 0, none⟩) 0 0 []) := Lib.hid (by simpa using OW.lit (w.alloc (.cells #[.int .i64 a, .int .i64 b, .int .i64 c, .int .i64 d] 25)) 3 (w.heap.size + 1) [] (by simp) (by simp))
  clear h
  rcases hv : mkV a b c d with _ | _
  · have HQ : Hid (hpOK a b c d xs = false) := Lib.hid (by simp [hpOK, hv])
    go_enter Tryd.func17, Tryd.ntmps17
    go_wp2_with (fail)
    refine (call_bool (spec_validMarks_any a b c d _) hv).mono ?_
    rintro e w1 ⟨rfl, hb⟩
    have B1 := Lib.hid (B0.out.trans (hb.mono B0.out.size))
    have P1 := Lib.hid (P0.out.on hb)
    have O1 := Lib.hid (O0.out.below hb (Nat.le_refl _))
    have I1 := Lib.hid (H0.out.below B1.out (Nat.le_refl _))
    clear hb
    go_wp2_with (fail)
    go_ret
    exact ⟨none, 0, 0, rfl, by rw [hpL_f HQ.out]; exact OW.none _ _ _, B1.out⟩
  by_cases h12 : n ≤ 12
  rotate_left
  · have h12' : (12 : Int) < (n : Int) := by omega
    have HQ : Hid (hpOK a b c d xs = false) := Lib.hid (by have h1 : ¬ xs.length ≤ 12 := by { have := HL.out; omega }
                                                           simp [hpOK, h1])
    clear h12
    go_enter Tryd.func17, Tryd.ntmps17
    go_wp2_with (fail)
    refine (call_bool (spec_validMarks_any a b c d _) hv).mono ?_
    rintro e w1 ⟨rfl, hb⟩
    have B1 := Lib.hid (B0.out.trans (hb.mono B0.out.size))
    have P1 := Lib.hid (P0.out.on hb)
    have O1 := Lib.hid (O0.out.below hb (Nat.le_refl _))
    have I1 := Lib.hid (H0.out.below B1.out (Nat.le_refl _))
    clear hb
    go_wp2_with (fail)
    go_ret
    exact ⟨none, 0, 0, rfl, by rw [hpL_f HQ.out]; exact OW.none _ _ _, B1.out⟩
  have h12' : ¬ (12 : Int) < (n : Int) := by omega
  rcases hx : allR xs 0 100 with _ | _
  · have HQ : Hid (hpOK a b c d xs = false) := Lib.hid (by simp [hpOK, hx])
    go_enter Tryd.func17, Tryd.ntmps17
    go_wp2_with (fail)
    refine (call_bool (spec_validMarks_any a b c d _) hv).mono ?_
    rintro e w1 ⟨rfl, hb⟩
    have B1 := Lib.hid (B0.out.trans (hb.mono B0.out.size))
    have P1 := Lib.hid (P0.out.on hb)
    have O1 := Lib.hid (O0.out.below hb (Nat.le_refl _))
    have I1 := Lib.hid (H0.out.below B1.out (Nat.le_refl _))
    clear hb
    go_wp2_with (go_at_call 35; refine (call_b (spec_allIn_any _ _ _ I1.out) hx).mono ?_; rintro e w' ⟨rfl, rfl⟩)
    go_ret
    exact ⟨none, 0, 0, rfl, by rw [hpL_f HQ.out]; exact OW.none _ _ _, B1.out⟩
  have HP : Hid (hpOK a b c d xs = true) := Lib.hid (by have h1 : xs.length ≤ 12 := by { have := HL.out; omega }
                                                        simp [hpOK, hv, hx, h1])
  go_enter Tryd.func17, Tryd.ntmps17
  go_wp2_with (fail)
  refine (call_bool (spec_validMarks_any a b c d _) hv).mono ?_
  rintro e w1 ⟨rfl, hb⟩
  have B1 := Lib.hid (B0.out.trans (hb.mono B0.out.size))
  have P1 := Lib.hid (P0.out.on hb)
  have O1 := Lib.hid (O0.out.below hb (Nat.le_refl _))
  have I1 := Lib.hid (H0.out.below B1.out (Nat.le_refl _))
  clear hb
  go_wp2_with (go_at_call 35; refine (call_b (spec_allIn_any _ _ _ I1.out) hx).mono ?_; rintro e w' ⟨rfl, rfl⟩)
  clear hx hv I1
  go_loopw [5, 6, 7] (fun q hh i wr => ∃ (k : Nat) (A1 : Option Addr) (c1 : Nat) (H : Int), k ≤ n ∧ i = .int .i64 (k : Int) ∧ q = .slice A1 k c1 ∧ hh = .int .i64 H ∧ Hid (hpH a b c d xs k = H) ∧ Hid (OW wr 3 (w.heap.size + 1) A1 k c1 (hpN a b c d xs k)) ∧ Hid (Blk wr w.heap.size 25 #[.int .i64 a, .int .i64 b, .int .i64 c, .int .i64 d]) ∧ Hid (Below w.heap.size w wr)) (fun _ _ i _ => n - (intOf i).toNat)
  case atStart => exact ⟨0, _, 0, 0, Nat.zero_le _, rfl, rfl, rfl, Lib.hid rfl, O1, P1, B1⟩
  case round =>
    obtain ⟨k, A1, c1, H, hk, rfl, rfl, rfl, hH, HO, HM, HB⟩ := hrel
    clear P1 B1 O1
    by_cases hlt : k < n
    · have hlt' : (k : Int) < (n : Int) := by omega
      obtain ⟨g, off, x, rfl, hx, hc⟩ := (H0.out.below HB.out (Nat.le_refl _)).at_ hlt
      have hx2 := hp_getD hx
      have hH2 := hH.out
      have hs : hpH a b c d xs (k + 1) = nhN a b c d H x := by simp only [hpH, hH2, hx2]
      obtain ⟨v, hv⟩ : ∃ v, nhN a b c d H x = v := ⟨_, rfl⟩
      rw [hv] at hs
      have HS := Lib.hid hs
      have HV := Lib.hid hv
      have HNS : Hid (hpN a b c d xs (k + 1) = hpN a b c d xs k ++ [v]) := Lib.hid (by rw [hpN_succ, hs])
      clear hx hx2 hH2 hs hv
      obtain ⟨m0, m1, m2, m3⟩ := HM.out.c4
      have hml := HM.out.lt
      go_wp2_with (fail)
      go_region_held3 (fun w' => w'.cell? ⟨w.heap.size, 0, none⟩ = some (.int .i64 a) ∧ w'.cell? ⟨w.heap.size, 1, none⟩ = some (.int .i64 b) ∧ w'.cell? ⟨w.heap.size, 2, none⟩ = some (.int .i64 c) ∧ w'.cell? ⟨w.heap.size, 3, none⟩ = some (.int .i64 d) ∧ w'.cell? ⟨g, off + k, none⟩ = some (.int .i64 x))
        (refine And.intro ?_ (And.intro ?_ (And.intro ?_ (And.intro ?_ ?_))) <;> ((first | with_reducible refine cell_up (w := wr) ?_ m0 | with_reducible refine cell_up (w := wr) ?_ m1 | with_reducible refine cell_up (w := wr) ?_ m2 | with_reducible refine cell_up (w := wr) ?_ m3 | with_reducible refine cell_up (w := wr) ?_ hc); (repeat' (first | with_reducible exact HW.out | with_reducible exact Below.refl _ _ | with_reducible refine Below.drew ?_))))
        (first | (go_at_call 31; go_must (refine (call_int (spec_nextHealth_any a b c d H x _) HV.out).mono ?_; rintro e w6 ⟨rfl, hb⟩; have HW : Hid (Below wr.heap.size wr w6) := Lib.hid (by first | exact hb | exact (Below.refl wr.heap.size wr).drew.trans hb); clear hb)))
      all_goals (
        obtain ⟨w2, e2⟩ : ∃ z : World, z = w6 ∨ z = w6.drew := ⟨w6, .inl rfl⟩
        clear e2 w2
        have O2 := Lib.hid (HO.out.below HW.out (Nat.le_refl _))
        have M2 := Lib.hid (HM.out.on HW.out)
        have B2 := Lib.hid (HB.out.trans (HW.out.mono HB.out.size))
        clear m0 m1 m2 m3 hc
        have O7 := Lib.hid (O2.out.alloc (.cells #[.int .i64 v] 3))
        have SV : Hid (IS (w6.alloc (.cells #[.int .i64 v] 3)) (some ⟨w6.heap.size, 0, none⟩) 1 1 [v]) := Lib.hid (by simpa using (OW.lit w6 3 0 [v] (by simp) (by simp)).is)
        have M7 := Lib.hid (M2.out.alloc (.cells #[.int .i64 v] 3))
        have B7 := Lib.hid (B2.out.alloc B2.out.size (.cells #[.int .i64 v] 3))
        have DM : Hid (Disj (some ⟨w.heap.size, 0, none⟩) A1) := Lib.hid (disj_mk (show w.heap.size < w.heap.size + 1 by omega) HO.out.ge)
        have hgeA : Hid (Ge A1 (w.heap.size + 1)) := Lib.hid HO.out.ge
        have hm2 := M2.out.lt
        go_wp2_with (at_builtin; go_must (refine wpList_append_is _ rfl (.tmp 35) (.tmp 37) _ rfl (w.heap.size + 1) 3 infoInt Tryd.underlying28 _ _ _ _ rfl O7.out _ _ _ _ rfl SV.out (by omega) (by simp; omega) ?_); intro A8 c8 w8 hown8 hg8; have O8 := Lib.hid hown8; have G8 := Lib.hid (row_mk hg8); have M8 := Lib.hid (M7.out.away G8.out DM.out); have B8 := Lib.hid (below_row B7.out G8.out B7.out.size (hgeA.out.mono (by omega))); clear hown8 hg8)
        go_roundw
        case rel => exact ⟨k + 1, A8, c8, v, by omega, by first | rfl | go_num, rfl, rfl, HS, Lib.hid (by rw [HNS.out]; exact O8.out), M8, B8⟩
        case measure => simp [intOf]; omega)
    · have hlt' : ¬ (k : Int) < (n : Int) := by omega
      obtain rfl : k = n := by omega
      go_wp2_with (fail)
      go_ret
      refine ⟨A1, k, c1, rfl, ?_, HB.out⟩
      rw [hpL_t HP.out, HL.out]
      exact HO.out.base_le (by omega)
set_option maxHeartbeats 1600000 in
theorem impl_CountTurns_any {A : Option Addr} {n c0 : Nat} {xs : List Int} (a b c d : Int) (w : World) (h : IS w A n c0 xs) (ha : HA w) :
    Calls Tryd.prog 24 #[.agg #[.int .i64 a, .int .i64 b, .int .i64 c, .int .i64 d], .slice A n c0] w fun e w' => e = .returned (.int .i64 (ctV a b c d xs)) ∧ Below w.heap.size w w' := by
  have hcap := h.cap
  have HL := Lib.hid h.len
  have H0 := Lib.hid h
  have B0 := Lib.hid (below_new w (.cells #[.int .i64 a, .int .i64 b, .int .i64 c, .int .i64 d] 25))
  have P0 := Lib.hid (Blk.new w 25 #[.int .i64 a, .int .i64 b, .int .i64 c, .int .i64 d])
  have T0 := Lib.hid ha
  clear h ha
  rcases hp : hpOK a b c d xs with _ | _
  · have HP := Lib.hid hp
    clear hp
    go_enter Tryd.func24, Tryd.ntmps24
    go_wp2_with (fail)
    refine (call_bool (impl_validPath_any a b c d _ (H0.out.alloc (.cells #[.int .i64 a, .int .i64 b, .int .i64 c, .int .i64 d] 25))) HP.out).mono ?_
    rintro e w1 ⟨rfl, hb⟩
    have B1 := Lib.hid (B0.out.trans (hb.mono (by simp)))
    clear hb
    go_wp2_with (fail)
    go_ret
    exact ⟨ret_int (by simp [ctV, HP.out]), B1.out⟩
  have HP := Lib.hid hp
  clear hp
  go_enter Tryd.func24, Tryd.ntmps24
  go_wp2_with (fail)
  refine (call_bool (impl_validPath_any a b c d _ (H0.out.alloc (.cells #[.int .i64 a, .int .i64 b, .int .i64 c, .int .i64 d] 25))) HP.out).mono ?_
  rintro e w1 ⟨rfl, hb⟩
  have B1 := Lib.hid (B0.out.trans (hb.mono (by simp)))
  have P1 := Lib.hid (P0.out.on hb)
  clear hb
  obtain ⟨p0, p1, p2, p3⟩ := P1.out.c4
  have hpl := P1.out.lt
  go_wp2_with (fail)
  refine (impl_HealthPath_any a b c d _ (H0.out.below B1.out (Nat.le_refl _)) (T0.out.below B1.out (Nat.le_refl _))).mono ?_
  rintro e w2 ⟨A2, n2, c2, rfl, ho, hb⟩
  have B2 := Lib.hid (B1.out.trans (hb.mono B1.out.size))
  have hcap2 := ho.is.cap
  have hln : n2 = n := by
    have h1 := ho.len
    rw [hpL_t HP.out, hpN_len] at h1
    have := HL.out
    omega
  subst hln
  have O2 : Hid (IS w2 A2 n2 c2 (hpN a b c d xs n2)) := Lib.hid (by have h1 := ho.is; rw [hpL_t HP.out, HL.out] at h1; exact h1)
  clear hb ho p0 p1 p2 p3
  go_wp2_with (fail)
  go_loop [5, 6, 17] (fun q hh i => ∃ (k : Nat) (m H : Int), k ≤ n2 ∧ i = .int .i64 (k : Int) ∧ q = .int .i64 m ∧ hh = .int .i64 H ∧ 0 ≤ m ∧ m ≤ (k : Int) ∧ Hid (hpH a b c d xs k = H) ∧ Hid (ctN a b c d xs k = m)) (fun _ _ i => n2 - (intOf i).toNat)
  case atStart => exact ⟨0, 0, 0, Nat.zero_le _, rfl, rfl, rfl, by omega, by omega, Lib.hid rfl, Lib.hid rfl⟩
  case round =>
    obtain ⟨k, m, H, hk, rfl, rfl, rfl, hm0, hm1, hH, hm⟩ := hrel
    by_cases hlt : k < n2
    · have hlt' : (k : Int) < (n2 : Int) := by omega
      obtain ⟨g, off, x, rfl, hx, hc⟩ := O2.out.at_ hlt
      have h12n : n2 ≤ 12 := by have h1 := (hpOK_in HP.out).2.1; have h2 := HL.out; omega
      have hx2 : hpH a b c d xs (k + 1) = x := by rw [hpN_at hlt] at hx; exact Option.some.inj hx
      have HX := Lib.hid hx2
      clear hx hx2
      by_cases he : x = H
      · have he' : (x != H) = false := by simp [he]
        have HE := Lib.hid he
        clear he
        go_wp2_with (fail)
        go_round
        case rel => exact ⟨k + 1, m, x, by omega, by first | rfl | go_num, by first | rfl | go_num, rfl, by omega, by omega, HX, Lib.hid (by have h1 := hm.out; have h2 := hH.out; have h3 := HX.out; simp only [ctN, h1, h2, h3, HE.out, if_true]; omega)⟩
        case measure => simp [intOf]; omega
      · have he' : (x != H) = true := by simp [he]
        have HE := Lib.hid he
        clear he
        go_wp2_with (fail)
        go_round
        case rel => exact ⟨k + 1, m + 1, x, by omega, by first | rfl | go_num, by first | rfl | go_num, rfl, by omega, by omega, HX, Lib.hid (by have h1 := hm.out; have h2 := hH.out; have h3 := HX.out; simp only [ctN, h1, h2, h3]; rw [if_neg HE.out])⟩
        case measure => simp [intOf]; omega
    · have hlt' : ¬ (k : Int) < (n2 : Int) := by omega
      obtain rfl : k = n2 := by omega
      go_wp2_with (fail)
      go_ret
      exact ⟨ret_int (by simp only [ctV, HP.out, if_true, HL.out]; exact hm.out.symm), B2.out⟩
set_option maxHeartbeats 1600000 in
theorem spec_CountTurns_any {A : Option Addr} {n c0 : Nat} {xs : List Int} (a b c d : Int) (w : World) (h : IS w A n c0 xs) :
    Calls Tryd.prog 23 #[.agg #[.int .i64 a, .int .i64 b, .int .i64 c, .int .i64 d], .slice A n c0] w fun e w' => e = .returned (.int .i64 (ctV a b c d xs)) ∧ Below w.heap.size w w' := by
  have hcap := h.cap
  have HL := Lib.hid h.len
  have H0 := Lib.hid h
  have B0 := Lib.hid (below_new w (.cells #[.int .i64 a, .int .i64 b, .int .i64 c, .int .i64 d] 25))
  have P0 := Lib.hid (Blk.new w 25 #[.int .i64 a, .int .i64 b, .int .i64 c, .int .i64 d])
  clear h
  rcases hv : mkV a b c d with _ | _
  · have HQ : Hid (hpOK a b c d xs = false) := Lib.hid (by simp [hpOK, hv])
    go_enter Tryd.func23, Tryd.ntmps23
    go_wp2_with (fail)
    refine (call_bool (spec_validMarks_any a b c d _) hv).mono ?_
    rintro e w1 ⟨rfl, hb⟩
    have B1 := Lib.hid (B0.out.trans (hb.mono B0.out.size))
    have P1 := Lib.hid (P0.out.on hb)
    have I1 := Lib.hid (H0.out.below B1.out (Nat.le_refl _))
    clear hb
    go_wp2_with (fail)
    go_ret
    exact ⟨ret_int (by simp [ctV, HQ.out]), B1.out⟩
  by_cases h12 : n ≤ 12
  rotate_left
  · have h12' : (12 : Int) < (n : Int) := by omega
    have HQ : Hid (hpOK a b c d xs = false) := Lib.hid (by have h1 : ¬ xs.length ≤ 12 := by { have := HL.out; omega }
                                                           simp [hpOK, h1])
    clear h12
    go_enter Tryd.func23, Tryd.ntmps23
    go_wp2_with (fail)
    refine (call_bool (spec_validMarks_any a b c d _) hv).mono ?_
    rintro e w1 ⟨rfl, hb⟩
    have B1 := Lib.hid (B0.out.trans (hb.mono B0.out.size))
    have P1 := Lib.hid (P0.out.on hb)
    have I1 := Lib.hid (H0.out.below B1.out (Nat.le_refl _))
    clear hb
    go_wp2_with (fail)
    go_ret
    exact ⟨ret_int (by simp [ctV, HQ.out]), B1.out⟩
  have h12' : ¬ (12 : Int) < (n : Int) := by omega
  rcases hx : allR xs 0 100 with _ | _
  · have HQ : Hid (hpOK a b c d xs = false) := Lib.hid (by simp [hpOK, hx])
    go_enter Tryd.func23, Tryd.ntmps23
    go_wp2_with (fail)
    refine (call_bool (spec_validMarks_any a b c d _) hv).mono ?_
    rintro e w1 ⟨rfl, hb⟩
    have B1 := Lib.hid (B0.out.trans (hb.mono B0.out.size))
    have P1 := Lib.hid (P0.out.on hb)
    have I1 := Lib.hid (H0.out.below B1.out (Nat.le_refl _))
    clear hb
    go_wp2_with (go_at_call 35; refine (call_b (spec_allIn_any _ _ _ I1.out) hx).mono ?_; rintro e w' ⟨rfl, rfl⟩)
    go_ret
    exact ⟨ret_int (by simp [ctV, HQ.out]), B1.out⟩
  have HP : Hid (hpOK a b c d xs = true) := Lib.hid (by have h1 : xs.length ≤ 12 := by { have := HL.out; omega }
                                                        simp [hpOK, hv, hx, h1])
  go_enter Tryd.func23, Tryd.ntmps23
  go_wp2_with (fail)
  refine (call_bool (spec_validMarks_any a b c d _) hv).mono ?_
  rintro e w1 ⟨rfl, hb⟩
  have B1 := Lib.hid (B0.out.trans (hb.mono B0.out.size))
  have P1 := Lib.hid (P0.out.on hb)
  have I1 := Lib.hid (H0.out.below B1.out (Nat.le_refl _))
  clear hb
  obtain ⟨p0, p1, p2, p3⟩ := P1.out.c4
  have hpl := P1.out.lt
  go_wp2_with (go_at_call 35; refine (call_b (spec_allIn_any _ _ _ I1.out) hx).mono ?_; rintro e w' ⟨rfl, rfl⟩)
  refine (spec_HealthPath_any a b c d _ (H0.out.below B1.out (Nat.le_refl _))).mono ?_
  rintro e w2 ⟨A2, n2, c2, rfl, ho, hb⟩
  have B2 := Lib.hid (B1.out.trans (hb.mono B1.out.size))
  have hcap2 := ho.is.cap
  have hln : n2 = n := by
    have h1 := ho.len
    rw [hpL_t HP.out, hpN_len] at h1
    have := HL.out
    omega
  subst hln
  have O2 : Hid (IS w2 A2 n2 c2 (hpN a b c d xs n2)) := Lib.hid (by have h1 := ho.is; rw [hpL_t HP.out, HL.out] at h1; exact h1)
  clear hb ho p0 p1 p2 p3
  go_wp2_with (fail)
  clear hx hv I1 h12'
  go_loop [5, 6, 8] (fun q hh i => ∃ (k : Nat) (m H : Int), k ≤ n2 ∧ i = .int .i64 (k : Int) ∧ q = .int .i64 m ∧ hh = .int .i64 H ∧ 0 ≤ m ∧ m ≤ (k : Int) ∧ Hid (hpH a b c d xs k = H) ∧ Hid (ctN a b c d xs k = m)) (fun _ _ i => n2 - (intOf i).toNat)
  case atStart => exact ⟨0, 0, 0, Nat.zero_le _, rfl, rfl, rfl, by omega, by omega, Lib.hid rfl, Lib.hid rfl⟩
  case round =>
    obtain ⟨k, m, H, hk, rfl, rfl, rfl, hm0, hm1, hH, hm⟩ := hrel
    by_cases hlt : k < n2
    · have hlt' : (k : Int) < (n2 : Int) := by omega
      obtain ⟨g, off, x, rfl, hx, hc⟩ := O2.out.at_ hlt
      have h12n : n2 ≤ 12 := by have h1 := (hpOK_in HP.out).2.1; have h2 := HL.out; omega
      have hx2 : hpH a b c d xs (k + 1) = x := by rw [hpN_at hlt] at hx; exact Option.some.inj hx
      have HX := Lib.hid hx2
      clear hx hx2
      by_cases he : x = H
      · have he' : (x != H) = false := by simp [he]
        have HE := Lib.hid he
        clear he
        go_wp2_with (go_at_call 37; refine (spec_toInt_f _).mono ?_; rintro e w' ⟨rfl, rfl⟩)
        go_round
        case rel => exact ⟨k + 1, m, x, by omega, by first | rfl | go_num, by first | rfl | go_num, rfl, by omega, by omega, HX, Lib.hid (by have h1 := hm.out; have h2 := hH.out; have h3 := HX.out; simp only [ctN, h1, h2, h3, HE.out, if_true]; omega)⟩
        case measure => simp [intOf]; omega
      · have he' : (x != H) = true := by simp [he]
        have HE := Lib.hid he
        clear he
        go_wp2_with (go_at_call 37; refine (spec_toInt_t _).mono ?_; rintro e w' ⟨rfl, rfl⟩)
        go_round
        case rel => exact ⟨k + 1, m + 1, x, by omega, by first | rfl | go_num, by first | rfl | go_num, rfl, by omega, by omega, HX, Lib.hid (by have h1 := hm.out; have h2 := hH.out; have h3 := HX.out; simp only [ctN, h1, h2, h3]; rw [if_neg HE.out])⟩
        case measure => simp [intOf]; omega
    · have hlt' : ¬ (k : Int) < (n2 : Int) := by omega
      obtain rfl : k = n2 := by omega
      go_wp2_with (fail)
      go_ret
      exact ⟨ret_int (by simp only [ctV, HP.out, if_true, HL.out]; exact hm.out.symm), B2.out⟩
end Go.Proofs.YtdbfccfckinjmaaDoor
