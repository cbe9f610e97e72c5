/-
  Contracts of budgets: what is used beyond what is kept, room, validity.
-/
import Derived.Test.YtcbphifadokfeaaCnt
import Derived.Lib.QuietBelow
import Derived.ChangeAlike
import Derived.Deep.DeepMust
namespace Go.Proofs.Ytcbphifadokfeaa
open Go.RowKit

/-- What is used beyond what is kept. -/
def shL (ks us : List Int) : Int := (List.zipWith (fun k u => max 0 (u - k)) ks us).sum
theorem shL_snoc {ks us : List Int} {j : Nat} {k u : Int} (hk : ks[j]? = some k) (hu : us[j]? = some u) :
    shL (ks.take (j + 1)) (us.take (j + 1)) = shL (ks.take j) (us.take j) + max 0 (u - k) := by
  unfold shL
  rw [← List.take_zipWith, ← List.take_zipWith]
  exact sum_snoc (by simp [List.getElem?_zipWith, hk, hu])
theorem max_bd {a b : Int} (ha : 0 ≤ a) (ha2 : a ≤ 200) (hb : 0 ≤ b) (hb2 : b ≤ 200) : 0 ≤ max 0 (a - b) ∧ max 0 (a - b) ≤ 200 := by omega
theorem sum3_bd {xs : List Int} (h : cnt xs 0 200 = true) : 0 ≤ xs.sum ∧ xs.sum ≤ 600 := by
  obtain ⟨h1, h2⟩ := cnt_iff.1 h
  rcases xs with _ | ⟨a, _ | ⟨b, _ | ⟨c, _ | _⟩⟩⟩ <;> simp at h1
  simp only [allR, List.all_cons, List.all_nil, Bool.and_eq_true, inR_iff] at h2
  simp
  omega
theorem shL_bd {ks us : List Int} (h : cnt ks 0 200 = true) (h' : cnt us 0 200 = true) : 0 ≤ shL ks us ∧ shL ks us ≤ 600 := by
  obtain ⟨h1, h2⟩ := cnt_iff.1 h
  obtain ⟨h1', h2'⟩ := cnt_iff.1 h'
  rcases ks with _ | ⟨a, _ | ⟨b, _ | ⟨c, _ | _⟩⟩⟩ <;> simp at h1
  rcases us with _ | ⟨a', _ | ⟨b', _ | ⟨c', _ | _⟩⟩⟩ <;> simp at h1'
  simp only [allR, List.all_cons, List.all_nil, Bool.and_eq_true, inR_iff] at h2 h2'
  simp [shL]
  omega
set_option maxHeartbeats 1000000 in
theorem spec_shared_any {A A' : Option Addr} {n c n' c' : Nat} {ks us : List Int} (t : Int) (w : World) (h : IS w A n c ks) (h' : IS w A' n' c' us) (hk : cnt ks 0 200 = true) (hu : cnt us 0 200 = true) :
    Calls Try.prog 46 #[.agg #[.int .i64 t, .slice A n c, .slice A' n' c']] w fun e w' => e = .returned (.int .i64 (shL ks us)) ∧ Below w.heap.size w w' := by
  obtain ⟨hk1, hk2⟩ := cnt_iff.1 hk
  obtain ⟨hu1, hu2⟩ := cnt_iff.1 hu
  obtain rfl : n = 3 := h.len ▸ hk1
  obtain rfl : n' = 3 := h'.len ▸ hu1
  have H := Lib.hid (h.alloc (.cells #[.int .i64 t, .slice A 3 c, .slice A' 3 c'] 33))
  have H' := Lib.hid (h'.alloc (.cells #[.int .i64 t, .slice A 3 c, .slice A' 3 c'] 33))
  have HK := Lib.hid hk2
  have HU := Lib.hid hu2
  have HK1 := Lib.hid hk1
  have HU1 := Lib.hid hu1
  clear h h' hk hu hk1 hk2 hu1 hu2
  have hB := Lib.hid (below_new w (.cells #[.int .i64 t, .slice A 3 c, .slice A' 3 c'] 33))
  have HX := Lib.hid (Blk.new w 33 #[.int .i64 t, .slice A 3 c, .slice A' 3 c'])
  go_enter Try.func46, Try.ntmps46
  go_wp2_with (fail)
  go_loopw [3, 4] (fun s i wr => ∃ k m : Nat, ∃ v : Int, k ≤ 3 ∧ 0 ≤ v ∧ v ≤ 200 * (k : Int) ∧ i = .int .i64 k ∧ s = .int .i64 v ∧ wr = (w.alloc (.cells #[.int .i64 t, .slice A 3 c, .slice A' 3 c'] 33)).drewN m ∧ Hid (shL (ks.take k) (us.take k) = v)) (fun _ i _ => 3 - (intOf i).toNat)
  case atStart => exact ⟨0, 0, 0, by omega, by omega, by omega, rfl, rfl, rfl, Lib.hid (by simp [shL])⟩
  case round =>
    obtain ⟨k, m, v, hk, hv0, hv1, rfl, rfl, rfl, ha⟩ := hrel
    by_cases hlt : k < 3
    · obtain ⟨b, off, x, rfl, hx, hc⟩ := H.out.at_ hlt
      obtain ⟨b', off', y, rfl, hy, hc'⟩ := H'.out.at_ hlt
      obtain ⟨hx0, hx1⟩ := allR_at hx HK.out
      obtain ⟨hy0, hy1⟩ := allR_at hy HU.out
      have HXX := Lib.hid hx
      have HYY := Lib.hid hy
      clear hx hy
      obtain ⟨b0, b1, b2⟩ := HX.out.c3
      have hi1 : (k : Int) < 3 := by omega
      obtain ⟨hm0, hm1⟩ := max_bd hy0 hy1 hx0 hx1
      go_wp2_with (fail)
      go_quiet (fail)
      go_wp2_with (fail)
      go_roundw
      case rel => exact ⟨k + 1, _, v + max 0 (y - x), by omega, by omega, by omega, by go_num, by go_num, rfl, Lib.hid (by rw [shL_snoc HXX.out HYY.out, ha.out])⟩
      case measure => simp [intOf]; omega
    · go_wp2_with (fail)
      go_ret
      have e : k = 3 := by omega
      subst e
      have ht := ha.out
      rw [List.take_of_length_le (by have := HK1.out; omega), List.take_of_length_le (by have := HU1.out; omega)] at ht
      exact ⟨ret_int ht.symm, below_drewN hB.out _⟩
set_option maxHeartbeats 1000000 in
theorem impl_commonRoom_any {A A' : Option Addr} {n c n' c' : Nat} {ks us : List Int} (t : Int) (w : World) (h : IS w A n c ks) (h' : IS w A' n' c' us) (ht0 : 0 ≤ t) (ht1 : t ≤ 200) (hk : cnt ks 0 200 = true) (hu : cnt us 0 200 = true) :
    Calls Try.prog 48 #[.agg #[.int .i64 t, .slice A n c, .slice A' n' c']] w fun e w' => e = .returned (.int .i64 (t - ks.sum - shL ks us)) ∧ Below w.heap.size w w' := by
  obtain ⟨hs0, hs1⟩ := sum3_bd hk
  obtain ⟨hk1, hk2⟩ := cnt_iff.1 hk
  obtain ⟨hu1, hu2⟩ := cnt_iff.1 hu
  obtain rfl : n = 3 := h.len ▸ hk1
  obtain rfl : n' = 3 := h'.len ▸ hu1
  have H := Lib.hid (h.alloc (.cells #[.int .i64 t, .slice A 3 c, .slice A' 3 c'] 33))
  have H' := Lib.hid (h'.alloc (.cells #[.int .i64 t, .slice A 3 c, .slice A' 3 c'] 33))
  have HK := Lib.hid hk2
  have HU := Lib.hid hu2
  have HK1 := Lib.hid hk1
  have HU1 := Lib.hid hu1
  clear h h' hk hu hk1 hk2 hu1 hu2
  have hB := Lib.hid (below_new w (.cells #[.int .i64 t, .slice A 3 c, .slice A' 3 c'] 33))
  have HX := Lib.hid (Blk.new w 33 #[.int .i64 t, .slice A 3 c, .slice A' 3 c'])
  obtain ⟨S, hS⟩ : ∃ S, ks.sum = S := ⟨_, rfl⟩
  rw [hS] at hs0 hs1
  have HS := Lib.hid hS
  have HC := Lib.hid (fun m => impl_sumOf_any (((w.alloc (.cells #[.int .i64 t, .slice A 3 c, .slice A' 3 c'] 33))).drewN m) (H.out.drewN m) (allR_wide HK.out (by omega) (by omega)) (by omega))
  rw [hS]
  clear hS
  go_enter Try.func48, Try.ntmps48
  go_wp2_with (fail)
  go_quiet ((go_at_call 35; refine (HC.out _).mono ?_; rintro e w' ⟨rfl, rfl⟩; exact ⟨by rw [HS.out], _, rfl⟩))
  go_wp2_with (fail)
  go_loopw [3, 15] (fun s i wr => ∃ k m : Nat, ∃ v : Int, k ≤ 3 ∧ 0 ≤ v ∧ v ≤ 200 * (k : Int) ∧ i = .int .i64 k ∧ s = .int .i64 (t - S - v) ∧ wr = (w.alloc (.cells #[.int .i64 t, .slice A 3 c, .slice A' 3 c'] 33)).drewN m ∧ Hid (shL (ks.take k) (us.take k) = v)) (fun _ i _ => 3 - (intOf i).toNat)
  case atStart => exact ⟨0, _, 0, by omega, by omega, by omega, rfl, by go_num, rfl, Lib.hid (by simp [shL])⟩
  case round =>
    obtain ⟨k, m, v, hk, hv0, hv1, rfl, rfl, rfl, ha⟩ := hrel
    by_cases hlt : k < 3
    · obtain ⟨b, off, x, rfl, hx, hc⟩ := H.out.at_ hlt
      obtain ⟨b', off', y, rfl, hy, hc'⟩ := H'.out.at_ hlt
      obtain ⟨hx0, hx1⟩ := allR_at hx HK.out
      obtain ⟨hy0, hy1⟩ := allR_at hy HU.out
      have HXX := Lib.hid hx
      have HYY := Lib.hid hy
      clear hx hy
      obtain ⟨b0, b1, b2⟩ := HX.out.c3
      have hi1 : (k : Int) < 3 := by omega
      have hm2 : max (y - x) 0 = max 0 (y - x) := Int.max_comm _ _
      obtain ⟨hm0, hm1⟩ := max_bd hy0 hy1 hx0 hx1
      rw [← hm2] at hm0 hm1
      have HM := Lib.hid hm2
      clear hm2
      go_wp2_with (fail)
      all_goals (try (go_quiet (fail)))
      all_goals go_wp2_with (fail)
      go_roundw
      case rel => exact ⟨k + 1, _, v + max (y - x) 0, by omega, by omega, by omega, by go_num, by go_num, rfl, Lib.hid (by rw [shL_snoc HXX.out HYY.out, ha.out, HM.out])⟩
      case measure => simp [intOf]; omega
    · go_wp2_with (fail)
      go_ret
      have e : k = 3 := by omega
      subst e
      have ht := ha.out
      rw [List.take_of_length_le (by have := HK1.out; omega), List.take_of_length_le (by have := HU1.out; omega)] at ht
      exact ⟨ret_int (by rw [ht]), below_drewN hB.out _⟩
/-- A budget is valid. -/
def validB (t : Int) (ks us : List Int) : Bool := inR t 0 200 && cnt ks 0 200 && cnt us 0 200 && decide (shL ks us ≤ t - ks.sum)
theorem validB_iff {t : Int} {ks us : List Int} : validB t ks us = true ↔ (0 ≤ t ∧ t ≤ 200) ∧ cnt ks 0 200 = true ∧ cnt us 0 200 = true ∧ shL ks us ≤ t - ks.sum := by
  simp [validB, inR_iff, and_assoc]
theorem validB_f {t : Int} {ks us : List Int} (h : ¬ ((0 ≤ t ∧ t ≤ 200) ∧ cnt ks 0 200 = true ∧ cnt us 0 200 = true ∧ shL ks us ≤ t - ks.sum)) : validB t ks us = false := by
  rcases hv : validB t ks us with _ | _
  · rfl
  · exact absurd (validB_iff.1 hv) h
set_option maxHeartbeats 2000000 in
theorem spec_validBudget_any {A A' : Option Addr} {n c n' c' : Nat} {ks us : List Int} (t : Int) (w : World) (h : IS w A n c ks) (h' : IS w A' n' c' us) :
    Calls Try.prog 26 #[.agg #[.int .i64 t, .slice A n c, .slice A' n' c']] w fun e w' => e = .returned (.bool (validB t ks us)) ∧ Below w.heap.size w w' := by
  have hl := h.len
  have hl' := h'.len
  have hcap := h.cap
  have hcap' := h'.cap
  have HL := Lib.hid hl
  have HL' := Lib.hid hl'
  have H := Lib.hid (h.alloc (.cells #[.int .i64 t, .slice A n c, .slice A' n' c'] 33))
  have H' := Lib.hid (h'.alloc (.cells #[.int .i64 t, .slice A n c, .slice A' n' c'] 33))
  clear h h' hl hl'
  obtain ⟨b0, b1, b2⟩ := (Blk.new w 33 #[.int .i64 t, .slice A n c, .slice A' n' c']).c3
  have qa := fun d os => cell_regrown b0 d os
  have qb := fun d os => cell_regrown b1 d os
  have qc := fun d os => cell_regrown b2 d os
  clear b0 b1 b2
  rcases h1 : inR t 0 200 with _ | _
  · have VR := Lib.hid (fun (d : Nat) (os : Array Obj) => call_b (spec_inRange_any t 0 200 (Go.Sort.grow (redrawn (w.alloc (.cells #[.int .i64 t, .slice A n c, .slice A' n' c'] 33)) d) os)) h1)
    have H1 := Lib.hid h1
    clear h1
    go_enter Try.func26, Try.ntmps26
    go_wp2_with (fail)
    refine wp_region_quiet_below (by kernel_rfl) (by kernel_rfl) ?_
    repeat (first | go_big_quiet_step ((first | (go_at_call 41; exact regrown_same (VR.out _ _)))) | quiet_step ((first | (go_at_call 41; exact regrown_same (VR.out _ _)))))
    refine wpQuiet_nil ?_
    intro wq hw'
    have hbq : Below (w.alloc (.cells #[.int .i64 t, .slice A n c, .slice A' n' c'] 33)).heap.size (w.alloc (.cells #[.int .i64 t, .slice A n c, .slice A' n' c'] 33)) wq := by obtain ⟨p, rfl⟩ := hw'; exact below_regrown _ _ _
    have BQ := Lib.hid (below_then (below_new w _) hbq)
    clear hw' hbq
    go_wp2_with (fail)
    go_ret
    exact ⟨ret_bool (validB_f (fun hh => by have := inR_t hh.1.1 hh.1.2; rw [H1.out] at this; cases this)).symm, BQ.out⟩
  have VR := Lib.hid (fun (d : Nat) (os : Array Obj) => call_b (spec_inRange_any t 0 200 (Go.Sort.grow (redrawn (w.alloc (.cells #[.int .i64 t, .slice A n c, .slice A' n' c'] 33)) d) os)) h1)
  obtain ⟨ht0, ht1⟩ := inR_iff.1 h1
  clear h1
  by_cases h2 : n = 3
  case neg =>
    have h2' : ((n : Int) == 3) = false := by simp; omega
    have H2 := Lib.hid h2
    clear h2
    go_enter Try.func26, Try.ntmps26
    go_wp2_with (fail)
    refine wp_region_quiet_below (by kernel_rfl) (by kernel_rfl) ?_
    repeat (first | go_big_quiet_step ((first | (go_at_call 41; exact regrown_same (VR.out _ _)))) | quiet_step ((first | (go_at_call 41; exact regrown_same (VR.out _ _)))))
    refine wpQuiet_nil ?_
    intro wq hw'
    have hbq : Below (w.alloc (.cells #[.int .i64 t, .slice A n c, .slice A' n' c'] 33)).heap.size (w.alloc (.cells #[.int .i64 t, .slice A n c, .slice A' n' c'] 33)) wq := by obtain ⟨p, rfl⟩ := hw'; exact below_regrown _ _ _
    have BQ := Lib.hid (below_then (below_new w _) hbq)
    clear hw' hbq
    go_wp2_with (fail)
    go_ret
    exact ⟨ret_bool (validB_f (fun hh => by have := (cnt_iff.1 hh.2.1).1; have := HL.out; have := H2.out; omega)).symm, BQ.out⟩
  have h2' : ((n : Int) == 3) = true := by simp; omega
  have HN := Lib.hid h2
  have hn3 : n ≤ 1000000 := by omega
  clear h2
  rcases h3 : allR ks 0 200 with _ | _
  · have VK := Lib.hid (fun (d : Nat) (os : Array Obj) => call_b (spec_allIn_any 0 200 (Go.Sort.grow (redrawn (w.alloc (.cells #[.int .i64 t, .slice A n c, .slice A' n' c'] 33)) d) os) (H.out.regrown d os)) h3)
    have H3 := Lib.hid h3
    clear h3
    go_enter Try.func26, Try.ntmps26
    go_wp2_with (fail)
    refine wp_region_quiet_below (by kernel_rfl) (by kernel_rfl) ?_
    repeat (first | go_big_quiet_step ((first | (go_at_call 41; exact regrown_same (VR.out _ _)) | (go_at_call 45; with_reducible exact regrown_same (VK.out _ _)))) | quiet_step ((first | (go_at_call 41; exact regrown_same (VR.out _ _)) | (go_at_call 45; with_reducible exact regrown_same (VK.out _ _)))))
    refine wpQuiet_nil ?_
    intro wq hw'
    have hbq : Below (w.alloc (.cells #[.int .i64 t, .slice A n c, .slice A' n' c'] 33)).heap.size (w.alloc (.cells #[.int .i64 t, .slice A n c, .slice A' n' c'] 33)) wq := by obtain ⟨p, rfl⟩ := hw'; exact below_regrown _ _ _
    have BQ := Lib.hid (below_then (below_new w _) hbq)
    clear hw' hbq
    go_wp2_with (fail)
    go_ret
    exact ⟨ret_bool (validB_f (fun hh => by have := (cnt_iff.1 hh.2.1).2; rw [H3.out] at this; cases this)).symm, BQ.out⟩
  have VK := Lib.hid (fun (d : Nat) (os : Array Obj) => call_b (spec_allIn_any 0 200 (Go.Sort.grow (redrawn (w.alloc (.cells #[.int .i64 t, .slice A n c, .slice A' n' c'] 33)) d) os) (H.out.regrown d os)) h3)
  have HK : Hid (cnt ks 0 200 = true) := Lib.hid (cnt_iff.2 ⟨by rw [HL.out, HN.out], h3⟩)
  obtain ⟨S, hS⟩ : ∃ S, ks.sum = S := ⟨_, rfl⟩
  have VS := Lib.hid (fun (d : Nat) (os : Array Obj) => call_int (spec_sum_any (Go.Sort.grow (redrawn (w.alloc (.cells #[.int .i64 t, .slice A n c, .slice A' n' c'] 33)) d) os) (H.out.regrown d os) (allR_wide h3 (by omega) (by omega)) hn3) hS)
  obtain ⟨hs0, hs1⟩ := sum3_bd HK.out
  rw [hS] at hs0 hs1
  have HS := Lib.hid hS
  clear hS h3
  rcases Int.lt_or_le t S with h4 | h4
  · have h4' : decide (S ≤ t) = false := decide_eq_false (by omega)
    go_enter Try.func26, Try.ntmps26
    go_wp2_with (fail)
    refine wp_region_quiet_below (by kernel_rfl) (by kernel_rfl) ?_
    repeat (first | go_big_quiet_step ((first | (go_at_call 41; exact regrown_same (VR.out _ _)) | (go_at_call 45; with_reducible exact regrown_same (VK.out _ _)) | (go_at_call 27; exact regrown_same (VS.out _ _)))) | quiet_step ((first | (go_at_call 41; exact regrown_same (VR.out _ _)) | (go_at_call 45; with_reducible exact regrown_same (VK.out _ _)) | (go_at_call 27; exact regrown_same (VS.out _ _)))))
    refine wpQuiet_nil ?_
    intro wq hw'
    have hbq : Below (w.alloc (.cells #[.int .i64 t, .slice A n c, .slice A' n' c'] 33)).heap.size (w.alloc (.cells #[.int .i64 t, .slice A n c, .slice A' n' c'] 33)) wq := by obtain ⟨p, rfl⟩ := hw'; exact below_regrown _ _ _
    have BQ := Lib.hid (below_then (below_new w _) hbq)
    clear hw' hbq
    go_wp2_with (fail)
    go_ret
    exact ⟨ret_bool (validB_f (fun hh => by have h8 := shL_bd hh.2.1 hh.2.2.1; have h9 := hh.2.2.2; rw [HS.out] at h9; omega)).symm, BQ.out⟩
  by_cases h5 : n' = 3
  case neg =>
    have h5' : ((n' : Int) == 3) = false := by simp; omega
    have H5 := Lib.hid h5
    clear h5
    go_enter Try.func26, Try.ntmps26
    go_wp2_with (fail)
    refine wp_region_quiet_below (by kernel_rfl) (by kernel_rfl) ?_
    repeat (first | go_big_quiet_step ((first | (go_at_call 41; exact regrown_same (VR.out _ _)) | (go_at_call 45; with_reducible exact regrown_same (VK.out _ _)) | (go_at_call 27; exact regrown_same (VS.out _ _)))) | quiet_step ((first | (go_at_call 41; exact regrown_same (VR.out _ _)) | (go_at_call 45; with_reducible exact regrown_same (VK.out _ _)) | (go_at_call 27; exact regrown_same (VS.out _ _)))))
    refine wpQuiet_nil ?_
    intro wq hw'
    have hbq : Below (w.alloc (.cells #[.int .i64 t, .slice A n c, .slice A' n' c'] 33)).heap.size (w.alloc (.cells #[.int .i64 t, .slice A n c, .slice A' n' c'] 33)) wq := by obtain ⟨p, rfl⟩ := hw'; exact below_regrown _ _ _
    have BQ := Lib.hid (below_then (below_new w _) hbq)
    clear hw' hbq
    go_wp2_with (fail)
    go_ret
    exact ⟨ret_bool (validB_f (fun hh => by have := (cnt_iff.1 hh.2.2.1).1; have := HL'.out; have := H5.out; omega)).symm, BQ.out⟩
  have h5' : ((n' : Int) == 3) = true := by simp; omega
  have HN' := Lib.hid h5
  clear h5
  rcases h6 : allR us 0 200 with _ | _
  · have VU := Lib.hid (fun (d : Nat) (os : Array Obj) => call_b (spec_allIn_any 0 200 (Go.Sort.grow (redrawn (w.alloc (.cells #[.int .i64 t, .slice A n c, .slice A' n' c'] 33)) d) os) (H'.out.regrown d os)) h6)
    have H6 := Lib.hid h6
    clear h6
    go_enter Try.func26, Try.ntmps26
    go_wp2_with (fail)
    refine wp_region_quiet_below (by kernel_rfl) (by kernel_rfl) ?_
    repeat (first | go_big_quiet_step ((first | (go_at_call 41; exact regrown_same (VR.out _ _)) | (go_at_call 45; with_reducible exact regrown_same (VK.out _ _)) | (go_at_call 27; exact regrown_same (VS.out _ _)) | (go_at_call 45; with_reducible exact regrown_same (VU.out _ _)))) | quiet_step ((first | (go_at_call 41; exact regrown_same (VR.out _ _)) | (go_at_call 45; with_reducible exact regrown_same (VK.out _ _)) | (go_at_call 27; exact regrown_same (VS.out _ _)) | (go_at_call 45; with_reducible exact regrown_same (VU.out _ _)))))
    refine wpQuiet_nil ?_
    intro wq hw'
    have hbq : Below (w.alloc (.cells #[.int .i64 t, .slice A n c, .slice A' n' c'] 33)).heap.size (w.alloc (.cells #[.int .i64 t, .slice A n c, .slice A' n' c'] 33)) wq := by obtain ⟨p, rfl⟩ := hw'; exact below_regrown _ _ _
    have BQ := Lib.hid (below_then (below_new w _) hbq)
    clear hw' hbq
    go_wp2_with (fail)
    go_ret
    exact ⟨ret_bool (validB_f (fun hh => by have := (cnt_iff.1 hh.2.2.1).2; rw [H6.out] at this; cases this)).symm, BQ.out⟩
  have VU := Lib.hid (fun (d : Nat) (os : Array Obj) => call_b (spec_allIn_any 0 200 (Go.Sort.grow (redrawn (w.alloc (.cells #[.int .i64 t, .slice A n c, .slice A' n' c'] 33)) d) os) (H'.out.regrown d os)) h6)
  have HU : Hid (cnt us 0 200 = true) := Lib.hid (cnt_iff.2 ⟨by rw [HL'.out, HN'.out], h6⟩)
  obtain ⟨Z, hZ⟩ : ∃ Z, shL ks us = Z := ⟨_, rfl⟩
  obtain ⟨hz0, hz1⟩ := shL_bd HK.out HU.out
  rw [hZ] at hz0 hz1
  have VH := Lib.hid (fun (d : Nat) (os : Array Obj) => call_int (spec_shared_any t (Go.Sort.grow (redrawn (w.alloc (.cells #[.int .i64 t, .slice A n c, .slice A' n' c'] 33)) d) os) (H.out.regrown d os) (H'.out.regrown d os) HK.out HU.out) hZ)
  have HZ := Lib.hid hZ
  clear hZ h6
  rcases Int.lt_or_le (t - S) Z with h7 | h7
  · have h7' : decide (Z ≤ t - S) = false := decide_eq_false (by omega)
    have H7 := Lib.hid h7
    go_enter Try.func26, Try.ntmps26
    go_wp2_with (fail)
    refine wp_region_quiet_below (by kernel_rfl) (by kernel_rfl) ?_
    repeat (first | go_big_quiet_step ((first | (go_at_call 41; exact regrown_same (VR.out _ _)) | (go_at_call 45; with_reducible exact regrown_same (VK.out _ _)) | (go_at_call 27; exact regrown_same (VS.out _ _)) | (go_at_call 45; with_reducible exact regrown_same (VU.out _ _)) | (go_at_call 46; exact Calls.regrown_of (VH.out _ _)))) | quiet_step ((first | (go_at_call 41; exact regrown_same (VR.out _ _)) | (go_at_call 45; with_reducible exact regrown_same (VK.out _ _)) | (go_at_call 27; exact regrown_same (VS.out _ _)) | (go_at_call 45; with_reducible exact regrown_same (VU.out _ _)) | (go_at_call 46; exact Calls.regrown_of (VH.out _ _)))))
    refine wpQuiet_nil ?_
    intro wq hw'
    have hbq : Below (w.alloc (.cells #[.int .i64 t, .slice A n c, .slice A' n' c'] 33)).heap.size (w.alloc (.cells #[.int .i64 t, .slice A n c, .slice A' n' c'] 33)) wq := by obtain ⟨p, rfl⟩ := hw'; exact below_regrown _ _ _
    have BQ := Lib.hid (below_then (below_new w _) hbq)
    clear hw' hbq
    go_wp2_with (fail)
    go_ret
    exact ⟨ret_bool (by rw [validB_f (fun hh => by have h9 := hh.2.2.2; rw [HS.out, HZ.out] at h9; have := H7.out; omega)]; try (simp; try omega)), BQ.out⟩
  · go_enter Try.func26, Try.ntmps26
    go_wp2_with (fail)
    refine wp_region_quiet_below (by kernel_rfl) (by kernel_rfl) ?_
    repeat (first | go_big_quiet_step ((first | (go_at_call 41; exact regrown_same (VR.out _ _)) | (go_at_call 45; with_reducible exact regrown_same (VK.out _ _)) | (go_at_call 27; exact regrown_same (VS.out _ _)) | (go_at_call 45; with_reducible exact regrown_same (VU.out _ _)) | (go_at_call 46; exact Calls.regrown_of (VH.out _ _)))) | quiet_step ((first | (go_at_call 41; exact regrown_same (VR.out _ _)) | (go_at_call 45; with_reducible exact regrown_same (VK.out _ _)) | (go_at_call 27; exact regrown_same (VS.out _ _)) | (go_at_call 45; with_reducible exact regrown_same (VU.out _ _)) | (go_at_call 46; exact Calls.regrown_of (VH.out _ _)))))
    refine wpQuiet_nil ?_
    intro wq hw'
    have hbq : Below (w.alloc (.cells #[.int .i64 t, .slice A n c, .slice A' n' c'] 33)).heap.size (w.alloc (.cells #[.int .i64 t, .slice A n c, .slice A' n' c'] 33)) wq := by obtain ⟨p, rfl⟩ := hw'; exact below_regrown _ _ _
    have BQ := Lib.hid (below_then (below_new w _) hbq)
    clear hw' hbq
    go_wp2_with (fail)
    go_ret
    exact ⟨ret_bool (by rw [validB_iff.2 ⟨⟨ht0, ht1⟩, HK.out, HU.out, by rw [HS.out, HZ.out]; exact h7⟩]; try (simp; try omega)), BQ.out⟩
end Go.Proofs.Ytcbphifadokfeaa
