/-
  Contracts of budgets: validity and room on both sides.
-/
import Derived.Test.YtcbphifadokfeaaBud
namespace Go.Proofs.Ytcbphifadokfeaa
open Go.RowKit

set_option maxHeartbeats 1000000 in
theorem impl_ValidBudget_any {A A' : Option Addr} {n c n' c' : Nat} {ks us : List Int} (t : Int) (w : World) (h : IS w A n c ks) (h' : IS w A' n' c' us) :
    Calls Try.prog 29 #[.agg #[.int .i64 t, .slice A n c, .slice A' n' c']] w fun e w' => e = .returned (.bool (validB t ks us)) ∧ Below w.heap.size w w' := by
  have H := Lib.hid (h.alloc (.cells #[.int .i64 t, .slice A n c, .slice A' n' c'] 33))
  have H' := Lib.hid (h'.alloc (.cells #[.int .i64 t, .slice A n c, .slice A' n' c'] 33))
  clear h h'
  rcases h1 : inR t 0 200 with _ | _
  · go_enter Try.func29, Try.ntmps29
    go_wp2_with (go_at_call 24; refine (impl_within_any _ _ _ _).mono ?_; rintro e w' ⟨rfl, rfl⟩)
    go_ret
    exact ⟨ret_bool (validB_f (fun hh => by have := inR_t hh.1.1 hh.1.2; rw [h1] at this; cases this)).symm, below_new w _⟩
  rcases h2 : cnt ks 0 200 with _ | _
  · go_enter Try.func29, Try.ntmps29
    go_wp2_with (first | (go_at_call 24; refine (impl_within_any _ _ _ _).mono ?_; rintro e w' ⟨rfl, rfl⟩) | (go_at_call 47; refine (impl_validCounters_any _ _ _ H.out).mono ?_; rintro e w' ⟨rfl, rfl⟩))
    go_ret
    exact ⟨ret_bool (validB_f (fun hh => by have := hh.2.1; rw [h2] at this; cases this)).symm, below_new w _⟩
  rcases h3 : cnt us 0 200 with _ | _
  · go_enter Try.func29, Try.ntmps29
    go_wp2_with (first | (go_at_call 24; refine (impl_within_any _ _ _ _).mono ?_; rintro e w' ⟨rfl, rfl⟩) | (go_at_call 47; with_reducible refine (impl_validCounters_any _ _ _ H.out).mono ?_; rintro e w' ⟨rfl, rfl⟩) | (go_at_call 47; with_reducible refine (impl_validCounters_any _ _ _ H'.out).mono ?_; rintro e w' ⟨rfl, rfl⟩))
    go_ret
    exact ⟨ret_bool (validB_f (fun hh => by have := hh.2.2.1; rw [h3] at this; cases this)).symm, below_new w _⟩
  obtain ⟨ht0, ht1⟩ := inR_iff.1 h1
  have HK := Lib.hid h2
  have HU := Lib.hid h3
  obtain ⟨Z, hZ⟩ : ∃ Z, t - ks.sum - shL ks us = Z := ⟨_, rfl⟩
  have VC := Lib.hid (fun (W : World) (i : IS W A n c ks) (i' : IS W A' n' c' us) => call_int (impl_commonRoom_any t W i i' ht0 ht1 h2 h3) hZ)
  have HZ := Lib.hid hZ
  clear hZ
  go_enter Try.func29, Try.ntmps29
  go_wp2_with (first | (go_at_call 24; refine (impl_within_any _ _ _ _).mono ?_; rintro e w' ⟨rfl, rfl⟩) | (go_at_call 47; with_reducible refine (impl_validCounters_any _ _ _ H.out).mono ?_; rintro e w' ⟨rfl, rfl⟩) | (go_at_call 47; with_reducible refine (impl_validCounters_any _ _ _ H'.out).mono ?_; rintro e w' ⟨rfl, rfl⟩))
  refine (VC.out _ H.out H'.out).mono ?_
  rintro e w1 ⟨rfl, hb⟩
  go_wp2_with (fail)
  go_ret
  refine ⟨ret_bool ?_, below_then (below_new w _) hb⟩
  by_cases hz : 0 ≤ Z
  · rw [validB_iff.2 ⟨⟨ht0, ht1⟩, HK.out, HU.out, by have := HZ.out; omega⟩]
    simp [hz]
  · rw [validB_f (fun hh => by have h9 := hh.2.2.2; have := HZ.out; omega)]
    simp; omega
/-- The room of a class of a valid budget. -/
def roomL (t : Int) (ks us : List Int) (cl : Int) : Int := max 0 (ks.getD cl.toNat 0 - us.getD cl.toNat 0) + (t - ks.sum - shL ks us)
/-- The room of a class, -1 for other arguments. -/
def roomV (t : Int) (ks us : List Int) (cl : Int) : Int := if validB t ks us && inR cl 0 2 then roomL t ks us cl else -1
theorem roomV_t {t cl : Int} {ks us : List Int} (h : validB t ks us = true) (h2 : inR cl 0 2 = true) : roomV t ks us cl = roomL t ks us cl := by simp [roomV, h, h2]
theorem roomV_f1 {t cl : Int} {ks us : List Int} (h : validB t ks us = false) : roomV t ks us cl = -1 := by simp [roomV, h]
theorem roomV_f2 {t cl : Int} {ks us : List Int} (h : inR cl 0 2 = false) : roomV t ks us cl = -1 := by simp [roomV, h]
theorem cnt_at {xs : List Int} {j : Nat} (h : cnt xs 0 200 = true) (hj : j < 3) : ∃ v, xs[j]? = some v ∧ xs.getD j 0 = v ∧ 0 ≤ v ∧ v ≤ 200 := by
  obtain ⟨h1, h2⟩ := cnt_iff.1 h
  have hx : xs[j]? = some xs[j] := List.getElem?_eq_getElem (by omega)
  obtain ⟨a, b⟩ := allR_at hx h2
  exact ⟨_, hx, by rw [List.getD_eq_getElem?_getD, hx]; rfl, a, b⟩
theorem roomL_bd {t cl : Int} {ks us : List Int} (h : validB t ks us = true) (h2 : inR cl 0 2 = true) : 0 ≤ roomL t ks us cl ∧ roomL t ks us cl ≤ 200 := by
  obtain ⟨⟨ht0, ht1⟩, hk, hu, hs⟩ := validB_iff.1 h
  obtain ⟨hc0, hc1⟩ := inR_iff.1 h2
  obtain ⟨k, hk1, hk2, hk3, hk4⟩ := cnt_at hk (j := cl.toNat) (by omega)
  obtain ⟨u, hu1, hu2, hu3, hu4⟩ := cnt_at hu (j := cl.toNat) (by omega)
  obtain ⟨hz0, hz1⟩ := shL_bd hk hu
  have hsum : k ≤ ks.sum := by
    obtain ⟨h1, h2⟩ := cnt_iff.1 hk
    rcases ks with _ | ⟨a, _ | ⟨b, _ | ⟨d, _ | _⟩⟩⟩ <;> simp at h1
    simp only [allR, List.all_cons, List.all_nil, Bool.and_eq_true, inR_iff] at h2
    simp
    have : cl = 0 ∨ cl = 1 ∨ cl = 2 := by omega
    rcases this with rfl | rfl | rfl <;> simp at hk1 <;> omega
  unfold roomL
  rw [hk2, hu2]
  omega
set_option maxHeartbeats 2000000 in
theorem spec_roomFor_any {A A' : Option Addr} {n c n' c' : Nat} {ks us : List Int} (t cl : Int) (w : World) (h : IS w A n c ks) (h' : IS w A' n' c' us) (hv : validB t ks us = true) (hc : inR cl 0 2 = true) :
    Calls Try.prog 42 #[.agg #[.int .i64 t, .slice A n c, .slice A' n' c'], .int .i64 cl] w fun e w' => e = .returned (.int .i64 (roomL t ks us cl)) ∧ Below w.heap.size w w' := by
  obtain ⟨⟨ht0, ht1⟩, hk, hu, hs⟩ := validB_iff.1 hv
  obtain ⟨hc0, hc1⟩ := inR_iff.1 hc
  obtain ⟨j, rfl⟩ := Int.eq_ofNat_of_zero_le hc0
  have hj : j < 3 := by omega
  obtain ⟨k, hk1, hk2, hk3, hk4⟩ := cnt_at hk hj
  obtain ⟨u, hu1, hu2, hu3, hu4⟩ := cnt_at hu hj
  obtain ⟨hz0, hz1⟩ := shL_bd hk hu
  obtain ⟨hs0, hs1⟩ := sum3_bd hk
  obtain rfl : n = 3 := h.len ▸ (cnt_iff.1 hk).1
  obtain rfl : n' = 3 := h'.len ▸ (cnt_iff.1 hu).1
  have H := Lib.hid (h.alloc (.cells #[.int .i64 t, .slice A 3 c, .slice A' 3 c'] 33))
  have H' := Lib.hid (h'.alloc (.cells #[.int .i64 t, .slice A 3 c, .slice A' 3 c'] 33))
  obtain ⟨S, hS⟩ : ∃ S, ks.sum = S := ⟨_, rfl⟩
  obtain ⟨Z, hZ⟩ : ∃ Z, shL ks us = Z := ⟨_, rfl⟩
  have VS := Lib.hid (fun (d : Nat) (os : Array Obj) => call_int (spec_sum_any (Go.Sort.grow (redrawn (w.alloc (.cells #[.int .i64 t, .slice A 3 c, .slice A' 3 c'] 33)) d) os) (H.out.regrown d os) (allR_wide (cnt_iff.1 hk).2 (by omega) (by omega)) (by omega)) hS)
  have VH := Lib.hid (fun (d : Nat) (os : Array Obj) => call_int (spec_shared_any t (Go.Sort.grow (redrawn (w.alloc (.cells #[.int .i64 t, .slice A 3 c, .slice A' 3 c'] 33)) d) os) (H.out.regrown d os) (H'.out.regrown d os) hk hu) hZ)
  obtain ⟨b, off, x, rfl, hx, hcx⟩ := H.out.at_ hj
  obtain ⟨b', off', y, rfl, hy, hcy⟩ := H'.out.at_ hj
  obtain rfl : k = x := by rw [hk1] at hx; injection hx
  obtain rfl : u = y := by rw [hu1] at hy; injection hy
  have HR : Hid (roomL t ks us (j : Int) = max 0 (k - u) + t - S - Z) := Lib.hid (by unfold roomL; rw [Int.toNat_natCast, hk2, hu2, hS, hZ]; omega)
  rw [hS] at hs0 hs1 hs
  rw [hZ] at hz0 hz1 hs
  clear hv hc hk hu hk1 hk2 hu1 hu2 hx hy hS hZ
  obtain ⟨b0, b1, b2⟩ := (Blk.new w 33 #[.int .i64 t, .slice (some ⟨b, off, none⟩) 3 c, .slice (some ⟨b', off', none⟩) 3 c']).c3
  have qa := fun d os => cell_regrown b0 d os
  have qb := fun d os => cell_regrown b1 d os
  have qc := fun d os => cell_regrown b2 d os
  have qx := fun d os => cell_regrown hcx d os
  have qy := fun d os => cell_regrown hcy d os
  obtain ⟨hm0, hm1⟩ := max_bd hk3 hk4 hu3 hu4
  have hj1 : (j : Int) < 3 := by omega
  clear b0 b1 b2 hcx hcy h h'
  go_enter Try.func42, Try.ntmps42
  go_wp2_with (fail)
  refine wp_region_quiet_below (by kernel_rfl) (by kernel_rfl) ?_
  repeat (first | go_big_quiet_step ((first | (go_at_call 27; exact regrown_same (VS.out _ _)) | (go_at_call 46; exact Calls.regrown_of (VH.out _ _)))) | quiet_step ((first | (go_at_call 27; exact regrown_same (VS.out _ _)) | (go_at_call 46; exact Calls.regrown_of (VH.out _ _)))))
  refine wpQuiet_nil ?_
  intro wq hw'
  have hbq : Below (w.alloc (.cells #[.int .i64 t, .slice (some ⟨b, off, none⟩) 3 c, .slice (some ⟨b', off', none⟩) 3 c'] 33)).heap.size (w.alloc (.cells #[.int .i64 t, .slice (some ⟨b, off, none⟩) 3 c, .slice (some ⟨b', off', none⟩) 3 c'] 33)) wq := by obtain ⟨p, rfl⟩ := hw'; exact below_regrown _ _ _
  have BQ := Lib.hid (below_then (below_new w _) hbq)
  clear hw' hbq qa qb qc qx qy
  go_wp2_with (fail)
  go_ret
  exact ⟨ret_int HR.out.symm, BQ.out⟩
set_option maxHeartbeats 1000000 in
theorem spec_RoomFor_any {A A' : Option Addr} {n c n' c' : Nat} {ks us : List Int} (t cl : Int) (w : World) (h : IS w A n c ks) (h' : IS w A' n' c' us) :
    Calls Try.prog 38 #[.agg #[.int .i64 t, .slice A n c, .slice A' n' c'], .int .i64 cl] w fun e w' => e = .returned (.int .i64 (roomV t ks us cl)) ∧ Below w.heap.size w w' := by
  have H := Lib.hid h
  have H' := Lib.hid h'
  clear h h'
  rcases hv : validB t ks us with _ | _
  · go_enter Try.func38, Try.ntmps38
    go_wp2_with (fail)
    refine (spec_validBudget_any t _ (H.out.alloc _) (H'.out.alloc _)).mono ?_
    rintro e w1 ⟨rfl, hb⟩
    rw [hv]
    go_wp2_with (fail)
    go_ret
    exact ⟨ret_int (roomV_f1 hv).symm, below_then (below_new w _) hb⟩
  rcases hc : inR cl 0 2 with _ | _
  · go_enter Try.func38, Try.ntmps38
    go_wp2_with (fail)
    refine (spec_validBudget_any t _ (H.out.alloc _) (H'.out.alloc _)).mono ?_
    rintro e w1 ⟨rfl, hb⟩
    rw [hv]
    go_wp2_with (go_at_call 41; refine (spec_inRange_any _ _ _ _).mono ?_; rintro e w' ⟨rfl, rfl⟩)
    go_ret
    exact ⟨ret_int (roomV_f2 hc).symm, below_then (below_new w _) hb⟩
  go_enter Try.func38, Try.ntmps38
  go_wp2_with (fail)
  refine (spec_validBudget_any t _ (H.out.alloc _) (H'.out.alloc _)).mono ?_
  rintro e w1 ⟨rfl, hb⟩
  rw [hv]
  have K := Lib.hid ((Blk.new w 33 #[.int .i64 t, .slice A n c, .slice A' n' c']).on hb)
  have B1 := Lib.hid (below_then (below_new w _) hb)
  clear hb
  obtain ⟨k0, k1, k2⟩ := K.out.c3
  have k3 := K.out.lt
  go_wp2_with (go_at_call 41; refine (spec_inRange_any _ _ _ _).mono ?_; rintro e w' ⟨rfl, rfl⟩)
  refine (spec_roomFor_any t cl _ (H.out.below B1.out (Nat.le_refl _)) (H'.out.below B1.out (Nat.le_refl _)) hv hc).mono ?_
  rintro e w2 ⟨rfl, hb2⟩
  have HV := Lib.hid (roomV_t hv hc)
  clear k0 k1 k2 hv hc
  go_wp2_with (fail)
  go_ret
  exact ⟨ret_int HV.out.symm, below_then B1.out hb2⟩
set_option maxHeartbeats 2000000 in
theorem impl_RoomFor_any {A A' : Option Addr} {n c n' c' : Nat} {ks us : List Int} (t cl : Int) (w : World) (h : IS w A n c ks) (h' : IS w A' n' c' us) :
    Calls Try.prog 39 #[.agg #[.int .i64 t, .slice A n c, .slice A' n' c'], .int .i64 cl] w fun e w' => e = .returned (.int .i64 (roomV t ks us cl)) ∧ Below w.heap.size w w' := by
  have H := Lib.hid h
  have H' := Lib.hid h'
  clear h h'
  rcases hv : validB t ks us with _ | _
  · go_enter Try.func39, Try.ntmps39
    go_wp2_with (fail)
    refine (impl_ValidBudget_any t _ (H.out.alloc _) (H'.out.alloc _)).mono ?_
    rintro e w1 ⟨rfl, hb⟩
    rw [hv]
    go_wp2_with (fail)
    go_ret
    exact ⟨ret_int (roomV_f1 hv).symm, below_then (below_new w _) hb⟩
  rcases hc : inR cl 0 2 with _ | _
  · go_enter Try.func39, Try.ntmps39
    go_wp2_with (fail)
    refine (impl_ValidBudget_any t _ (H.out.alloc _) (H'.out.alloc _)).mono ?_
    rintro e w1 ⟨rfl, hb⟩
    rw [hv]
    go_wp2_with (go_at_call 52; refine (impl_validClass_any _ _).mono ?_; rintro e w' ⟨rfl, rfl⟩)
    go_ret
    exact ⟨ret_int (roomV_f2 hc).symm, below_then (below_new w _) hb⟩
  obtain ⟨⟨ht0, ht1⟩, hk, hu, hs⟩ := validB_iff.1 hv
  obtain ⟨hc0, hc1⟩ := inR_iff.1 hc
  obtain ⟨j, rfl⟩ := Int.eq_ofNat_of_zero_le hc0
  have hj : j < 3 := by omega
  obtain ⟨k, hk1, hk2, hk3, hk4⟩ := cnt_at hk hj
  obtain ⟨u, hu1, hu2, hu3, hu4⟩ := cnt_at hu hj
  obtain ⟨hz0, hz1⟩ := shL_bd hk hu
  obtain ⟨hs0, hs1⟩ := sum3_bd hk
  obtain rfl : n = 3 := H.out.len ▸ (cnt_iff.1 hk).1
  obtain rfl : n' = 3 := H'.out.len ▸ (cnt_iff.1 hu).1
  obtain ⟨b, off, x, rfl, hx, hcx⟩ := H.out.at_ hj
  obtain ⟨b', off', y, rfl, hy, hcy⟩ := H'.out.at_ hj
  obtain rfl : k = x := by rw [hk1] at hx; injection hx
  obtain rfl : u = y := by rw [hu1] at hy; injection hy
  obtain ⟨Z, hZ⟩ : ∃ Z, t - ks.sum - shL ks us = Z := ⟨_, rfl⟩
  have hZ0 : 0 ≤ Z := by omega
  have hZ1 : Z ≤ 200 := by omega
  have VC := Lib.hid (fun (W : World) (i : IS W (some ⟨b, off, none⟩) 3 c ks) (i' : IS W (some ⟨b', off', none⟩) 3 c' us) => call_int (impl_commonRoom_any t W i i' ht0 ht1 hk hu) hZ)
  have hm2 : max (k - u) 0 = max 0 (k - u) := Int.max_comm _ _
  obtain ⟨hm0, hm1⟩ := max_bd hk3 hk4 hu3 hu4
  rw [← hm2] at hm0 hm1
  have HR : Hid (roomV t ks us (j : Int) = max (k - u) 0 + Z) := Lib.hid (by rw [roomV_t hv hc, hm2]; unfold roomL; rw [Int.toNat_natCast, hk2, hu2, hZ])
  have HV := Lib.hid hv
  have hj1 : (j : Int) < 3 := by omega
  have HC := Lib.hid hc
  clear hv hc hk hu hk1 hk2 hu1 hu2 hx hy hZ hs0 hs1 hz0 hz1 hs hm2
  have hcx' := cell_alloc hcx (.cells #[.int .i64 t, .slice (some ⟨b, off, none⟩) 3 c, .slice (some ⟨b', off', none⟩) 3 c'] 33)
  have hcy' := cell_alloc hcy (.cells #[.int .i64 t, .slice (some ⟨b, off, none⟩) 3 c, .slice (some ⟨b', off', none⟩) 3 c'] 33)
  clear hcx hcy
  go_enter Try.func39, Try.ntmps39
  go_wp2_with (fail)
  refine (call_b (impl_ValidBudget_any t _ (H.out.alloc _) (H'.out.alloc _)) HV.out).mono ?_
  rintro e w1 ⟨rfl, hb⟩
  have K := Lib.hid ((Blk.new w 33 #[.int .i64 t, .slice (some ⟨b, off, none⟩) 3 c, .slice (some ⟨b', off', none⟩) 3 c']).on hb)
  have B1 := Lib.hid (below_then (below_new w _) hb)
  have hcx1 := cell_up hb hcx'
  have hcy1 := cell_up hb hcy'
  clear hb hcx' hcy'
  obtain ⟨k0, k1, k2⟩ := K.out.c3
  have k3 := K.out.lt
  have hj0 : (0 : Int) ≤ (j : Int) := by omega
  go_wp2_with (go_at_call 52; refine (call_b (impl_validClass_any _ _) HC.out).mono ?_; rintro e w' ⟨rfl, rfl⟩)
  have VC1 := Lib.hid (fun (d : Nat) (os : Array Obj) => VC.out (Go.Sort.grow (redrawn w1 d) os) ((H.out.below B1.out (Nat.le_refl _)).regrown d os) ((H'.out.below B1.out (Nat.le_refl _)).regrown d os))
  have qa := fun d os => cell_regrown k0 d os
  have qb := fun d os => cell_regrown k1 d os
  have qc := fun d os => cell_regrown k2 d os
  have qx := fun d os => cell_regrown hcx1 d os
  have qy := fun d os => cell_regrown hcy1 d os
  clear k0 k1 k2 hcx1 hcy1
  refine wp_region_quiet_below (by kernel_rfl) (by kernel_rfl) ?_
  repeat (first | go_big_quiet_step ((go_at_call 48; exact Calls.regrown_of (VC1.out _ _))) | quiet_step ((go_at_call 48; exact Calls.regrown_of (VC1.out _ _))))
  refine wpQuiet_nil ?_
  intro wq hw'
  have hbq : Below w1.heap.size w1 wq := by obtain ⟨p, rfl⟩ := hw'; exact below_regrown _ _ _
  have BQ := Lib.hid (below_then B1.out hbq)
  clear hw' hbq qa qb qc qx qy
  go_wp2_with (fail)
  go_ret
  exact ⟨ret_int HR.out.symm, BQ.out⟩
/-- The sum of what is used, -1 for other budgets. -/
def usedV (t : Int) (ks us : List Int) : Int := if validB t ks us then us.sum else -1
set_option maxHeartbeats 1000000 in
theorem impl_UsedAll_any {A A' : Option Addr} {n c n' c' : Nat} {ks us : List Int} (t : Int) (w : World) (h : IS w A n c ks) (h' : IS w A' n' c' us) :
    Calls Try.prog 18 #[.agg #[.int .i64 t, .slice A n c, .slice A' n' c']] w fun e w' => e = .returned (.int .i64 (usedV t ks us)) ∧ Below w.heap.size w w' := by
  have H := Lib.hid h
  have H' := Lib.hid h'
  clear h h'
  rcases hv : validB t ks us with _ | _
  · go_enter Try.func18, Try.ntmps18
    go_wp2_with (fail)
    refine (impl_ValidBudget_any t _ (H.out.alloc _) (H'.out.alloc _)).mono ?_
    rintro e w1 ⟨rfl, hb⟩
    rw [hv]
    go_wp2_with (fail)
    go_ret
    exact ⟨ret_int (by simp [usedV, hv]), below_then (below_new w _) hb⟩
  have hu := (validB_iff.1 hv).2.2.1
  have hn : n' ≤ 1000000 := by have := (cnt_iff.1 hu).1; have := H'.out.len; omega
  have HU := Lib.hid (cnt_iff.1 hu).2
  have HV := Lib.hid hv
  clear hu hv
  go_enter Try.func18, Try.ntmps18
  go_wp2_with (fail)
  refine (call_b (impl_ValidBudget_any t _ (H.out.alloc _) (H'.out.alloc _)) HV.out).mono ?_
  rintro e w1 ⟨rfl, hb⟩
  have K := Lib.hid ((Blk.new w 33 #[.int .i64 t, .slice A n c, .slice A' n' c']).on hb)
  have B1 := Lib.hid (below_then (below_new w _) hb)
  clear hb
  obtain ⟨k0, k1, k2⟩ := K.out.c3
  have k3 := K.out.lt
  go_wp2_with (fail)
  refine (impl_sumOf_any _ (H'.out.below B1.out (Nat.le_refl _)) (allR_wide HU.out (by omega) (by omega)) hn).mono ?_
  rintro e w2 ⟨rfl, rfl⟩
  clear k0 k1 k2
  go_wp2_with (fail)
  go_ret
  exact ⟨ret_int (by simp [usedV, HV.out]), B1.out⟩
end Go.Proofs.Ytcbphifadokfeaa
