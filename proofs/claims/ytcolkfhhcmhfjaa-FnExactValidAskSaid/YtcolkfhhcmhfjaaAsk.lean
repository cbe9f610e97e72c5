/-
  Contracts: whether an item, a budget and entries fit together, on both sides.
-/
import Derived.Test.YtcolkfhhcmhfjaaQuY
import Derived.Test.YtcolkfhhcmhfjaaBudV
import Derived.Deep.RegionHeld3
import Derived.RegionTactic
namespace Go.Proofs.Ytcolkfhhcmhfjaa
open Go.RowKit

noncomputable def askV (t : Int) (ks us : List Int) (xs : List Tr) (cl sz : Int) : Bool := validB t ks us && (validE xs && (inR cl 0 2 && (inR sz 1 200 && decide (bytesE xs = us))))
section
variable {t cl sz : Int} {ks us : List Int} {xs : List Tr}
theorem askV_1 (h : validB t ks us = false) : askV t ks us xs cl sz = false := by simp [askV, h]
theorem askV_2 (h : validE xs = false) : askV t ks us xs cl sz = false := by simp [askV, h]
theorem askV_3 (h : inR cl 0 2 = false) : askV t ks us xs cl sz = false := by simp [askV, h]
theorem askV_4 (h : inR sz 1 200 = false) : askV t ks us xs cl sz = false := by simp [askV, h]
theorem askV_5 (h1 : validB t ks us = true) (h2 : validE xs = true) (h3 : inR cl 0 2 = true) (h4 : inR sz 1 200 = true) : askV t ks us xs cl sz = decide (bytesE xs = us) := by simp [askV, h1, h2, h3, h4]
end
set_option maxHeartbeats 800000 in
theorem slices_Equal_any {A A' : Option Addr} {n c n' c' : Nat} {xs ys : List Int} (w : World) (h : IS w A n c xs) (h' : IS w A' n' c' ys) :
    Calls Try.prog 56 #[.slice A n c, .slice A' n' c'] w fun e w' => e = .returned (.bool (decide (xs = ys))) ∧ ∃ m, w' = w.drewN m := by
  have hcap := h.cap
  have hl := h.len
  have hl' := h'.len
  by_cases hn : n = n'
  · subst hn
    have HL := Lib.hid hl
    have HL' := Lib.hid hl'
    clear hl hl'
    have H := Lib.hid h
    have H' := Lib.hid h'
    clear h h'
    go_enter Try.func56, Try.ntmps56
    go_wp2_with (fail)
    go_loopw [13] (fun i wr => ∃ k : Nat, ∃ m : Nat, k ≤ n ∧ i = .int .i64 k ∧ wr = w.drewN m ∧ Hid (xs.take k = ys.take k)) (fun i _ => n - (intOf i).toNat)
    case atStart => exact ⟨0, 0, Nat.zero_le _, rfl, rfl, Lib.hid (by simp)⟩
    case round =>
      obtain ⟨k, m, hk, rfl, rfl, ha⟩ := hrel
      by_cases hlt : k < n
      · obtain ⟨b, off, v, rfl, hx, hc⟩ := H.out.at_ hlt
        obtain ⟨b', off', v', rfl, hx', hc'⟩ := H'.out.at_ hlt
        have HX := Lib.hid hx
        have HX' := Lib.hid hx'
        clear hx hx'
        have hi1 : (k : Int) < (n : Int) := by omega
        by_cases hv : v = v'
        · subst hv
          have hne : (v != v) = false := by simp
          go_wp2_with (fail)
          go_quiet (fail)
          go_wp2_with (fail)
          go_roundw
          case rel => exact ⟨k + 1, _, by omega, by go_num, rfl, Lib.hid (take_eq_snoc HX.out HX'.out ha.out)⟩
          case measure => simp [intOf]; omega
        · have hne : (v != v') = true := by simpa using hv
          go_wp2_with (fail)
          go_quiet (fail)
          go_wp2_with (fail)
          go_ret
          exact ⟨ret_bool (eq_no HX.out HX'.out hv).symm, _, World.drewN_drewN _ _ _⟩
      · go_wp2_with (fail)
        go_ret
        have ht := ha.out
        rw [List.take_of_length_le (by have := HL.out; omega), List.take_of_length_le (by have := HL'.out; omega)] at ht
        exact ⟨ret_bool (decide_eq_true ht).symm, _, rfl⟩
  · have hne : ((n : Int) != (n' : Int)) = true := by simp; omega
    have hxy : decide (xs = ys) = false := decide_eq_false (by rintro rfl; omega)
    have HL := Lib.hid hxy
    clear hxy hl hl' h h'
    go_enter Try.func56, Try.ntmps56
    go_wp2_with (fail)
    go_ret
    exact ⟨ret_bool HL.out.symm, 0, rfl⟩
theorem impl_newAsk_any {A A' B : Option Addr} {n c n' c' m d : Nat} (t cl sz : Int) (w : World) :
    Calls Try.prog 35 #[.agg #[.int .i64 t, .slice A n c, .slice A' n' c'], .slice B m d, .int .i64 cl, .int .i64 sz] w fun e w' => e = .returned (.agg #[.int .i64 t, .slice A n c, .slice A' n' c', .slice B m d, .int .i64 cl, .int .i64 sz, .slice none 0 0]) ∧ Below w.heap.size w w' := by
  go_enter Try.func35, Try.ntmps35
  go_wp2_with (fail)
  refine bodyPost_ret (v := .agg #[.int .i64 t, .slice A n c, .slice A' n' c', .slice B m d, .int .i64 cl, .int .i64 sz, .slice none 0 0]) (by simp [results, Try.results35, go_sem]) rfl ?_
  exact ⟨rfl, ((Below.refl _ _).alloc (by simp) _).alloc (by simp; try omega) _⟩
set_option maxHeartbeats 2000000 in
theorem impl_askvalid_any {A A' B : Option Addr} {n c n' c' m d : Nat} {ks us : List Int} {xs : List Tr} (t cl sz : Int) (w : World) (h : IS w A n c ks) (h' : IS w A' n' c' us) (h2 : TS w B m d xs) :
    Calls Try.prog 36 #[.agg #[.int .i64 t, .slice A n c, .slice A' n' c', .slice B m d, .int .i64 cl, .int .i64 sz, .slice none 0 0]] w fun e w' => e = .returned (.bool (askV t ks us xs cl sz)) ∧ Below w.heap.size w w' := by
  have P := Lib.hid (Blk.new w 53 #[.int .i64 t, .slice A n c, .slice A' n' c', .slice B m d, .int .i64 cl, .int .i64 sz, .slice none 0 0])
  have H := Lib.hid (h.alloc (.cells #[.int .i64 t, .slice A n c, .slice A' n' c', .slice B m d, .int .i64 cl, .int .i64 sz, .slice none 0 0] 53))
  have H' := Lib.hid (h'.alloc (.cells #[.int .i64 t, .slice A n c, .slice A' n' c', .slice B m d, .int .i64 cl, .int .i64 sz, .slice none 0 0] 53))
  have H2 := Lib.hid (h2.alloc (.cells #[.int .i64 t, .slice A n c, .slice A' n' c', .slice B m d, .int .i64 cl, .int .i64 sz, .slice none 0 0] 53))
  have B0 := Lib.hid (below_new w (.cells #[.int .i64 t, .slice A n c, .slice A' n' c', .slice B m d, .int .i64 cl, .int .i64 sz, .slice none 0 0] 53))
  clear h h' h2
  rcases e1 : validB t ks us with _ | _
  · go_enter Try.func36, Try.ntmps36
    go_wp2_with (fail)
    refine (call_b (impl_ValidBudget_any t _ H.out H'.out) e1).mono ?_
    rintro e w1 ⟨rfl, hb⟩
    have BB := Lib.hid (below_then B0.out hb)
    clear hb
    go_wp2_with (fail)
    go_ret
    exact ⟨ret_bool (askV_1 e1).symm, BB.out⟩
  have E1 := Lib.hid e1
  clear e1
  rcases e2 : validE xs with _ | _
  · go_enter Try.func36, Try.ntmps36
    go_wp2_with (fail)
    refine (call_b (impl_ValidBudget_any t _ H.out H'.out) E1.out).mono ?_
    rintro e w1 ⟨rfl, hb⟩
    have B1 := Lib.hid (below_then B0.out hb)
    have T1 := Lib.hid (H2.out.below hb (Nat.le_refl _))
    have P1 := Lib.hid (P.out.on hb)
    clear hb
    have k3 : w1.cell? ⟨w.heap.size, 3, none⟩ = some (.slice B m d) := P1.out.cell 3
    go_wp2_with (fail)
    refine (call_b (impl_ValidEntries_any _ T1.out) e2).mono ?_
    rintro e w2 ⟨rfl, hb⟩
    have BB := Lib.hid (below_then B1.out hb)
    clear hb
    go_wp2_with (fail)
    go_ret
    exact ⟨ret_bool (askV_2 e2).symm, BB.out⟩
  have E2 := Lib.hid e2
  clear e2
  rcases e3 : inR cl 0 2 with _ | _
  · go_enter Try.func36, Try.ntmps36
    go_wp2_with (fail)
    refine (call_b (impl_ValidBudget_any t _ H.out H'.out) E1.out).mono ?_
    rintro e w1 ⟨rfl, hb⟩
    have B1 := Lib.hid (below_then B0.out hb)
    have T1 := Lib.hid (H2.out.below hb (Nat.le_refl _))
    have P1 := Lib.hid (P.out.on hb)
    clear hb
    have k3 : w1.cell? ⟨w.heap.size, 3, none⟩ = some (.slice B m d) := P1.out.cell 3
    go_wp2_with (fail)
    refine (call_b (impl_ValidEntries_any _ T1.out) E2.out).mono ?_
    rintro e w2 ⟨rfl, hb⟩
    have B2 := Lib.hid (below_then B1.out hb)
    have P2 := Lib.hid (P1.out.on hb)
    clear hb k3
    have k4 : w2.cell? ⟨w.heap.size, 4, none⟩ = some (.int .i64 cl) := P2.out.cell 4
    go_wp2_with (go_at_call 55; refine (call_b (impl_validClass_any _ _) e3).mono ?_; rintro e w' ⟨rfl, rfl⟩)
    go_ret
    exact ⟨ret_bool (askV_3 e3).symm, B2.out⟩
  have E3 := Lib.hid e3
  clear e3
  rcases e4 : inR sz 1 200 with _ | _
  · go_enter Try.func36, Try.ntmps36
    go_wp2_with (fail)
    refine (call_b (impl_ValidBudget_any t _ H.out H'.out) E1.out).mono ?_
    rintro e w1 ⟨rfl, hb⟩
    have B1 := Lib.hid (below_then B0.out hb)
    have T1 := Lib.hid (H2.out.below hb (Nat.le_refl _))
    have P1 := Lib.hid (P.out.on hb)
    clear hb
    have k3 : w1.cell? ⟨w.heap.size, 3, none⟩ = some (.slice B m d) := P1.out.cell 3
    go_wp2_with (fail)
    refine (call_b (impl_ValidEntries_any _ T1.out) E2.out).mono ?_
    rintro e w2 ⟨rfl, hb⟩
    have B2 := Lib.hid (below_then B1.out hb)
    have P2 := Lib.hid (P1.out.on hb)
    clear hb k3
    have k4 : w2.cell? ⟨w.heap.size, 4, none⟩ = some (.int .i64 cl) := P2.out.cell 4
    have k5 : w2.cell? ⟨w.heap.size, 5, none⟩ = some (.int .i64 sz) := P2.out.cell 5
    go_wp2_with (first | (go_at_call 55; refine (call_b (impl_validClass_any _ _) E3.out).mono ?_; rintro e w' ⟨rfl, rfl⟩) | (go_at_call 50; refine (call_b (impl_within_any _ _ _ _) e4).mono ?_; rintro e w' ⟨rfl, rfl⟩))
    go_ret
    exact ⟨ret_bool (askV_4 e4).symm, B2.out⟩
  have E4 := Lib.hid e4
  clear e4
  have EV := Lib.hid (askV_5 E1.out E2.out E3.out E4.out)
  have HV := Lib.hid (validE_iff.1 E2.out)
  go_enter Try.func36, Try.ntmps36
  go_wp2_with (fail)
  refine (call_b (impl_ValidBudget_any t _ H.out H'.out) E1.out).mono ?_
  rintro e w1 ⟨rfl, hb⟩
  have B1 := Lib.hid (below_then B0.out hb)
  have T1 := Lib.hid (H2.out.below hb (Nat.le_refl _))
  have U1 := Lib.hid (H'.out.below hb (Nat.le_refl _))
  have P1 := Lib.hid (P.out.on hb)
  clear hb
  have k3 : w1.cell? ⟨w.heap.size, 3, none⟩ = some (.slice B m d) := P1.out.cell 3
  go_wp2_with (fail)
  refine (call_b (impl_ValidEntries_any _ T1.out) E2.out).mono ?_
  rintro e w2 ⟨rfl, hb⟩
  have B2 := Lib.hid (below_then B1.out hb)
  have P2 := Lib.hid (P1.out.on hb)
  have T2 := Lib.hid (T1.out.below hb (Nat.le_refl _))
  have U2 := Lib.hid (U1.out.below hb (Nat.le_refl _))
  clear hb k3
  have k2 : w2.cell? ⟨w.heap.size, 2, none⟩ = some (.slice A' n' c') := P2.out.cell 2
  have k3 : w2.cell? ⟨w.heap.size, 3, none⟩ = some (.slice B m d) := P2.out.cell 3
  have k4 : w2.cell? ⟨w.heap.size, 4, none⟩ = some (.int .i64 cl) := P2.out.cell 4
  have k5 : w2.cell? ⟨w.heap.size, 5, none⟩ = some (.int .i64 sz) := P2.out.cell 5
  go_wp2_with (first | (go_at_call 55; refine (call_b (impl_validClass_any _ _) E3.out).mono ?_; rintro e w' ⟨rfl, rfl⟩) | (go_at_call 50; refine (call_b (impl_within_any _ _ _ _) E4.out).mono ?_; rintro e w' ⟨rfl, rfl⟩))
  go_region_held3 (fun w' => w'.cell? ⟨w.heap.size, 2, none⟩ = some (.slice A' n' c') ∧ w'.cell? ⟨w.heap.size, 3, none⟩ = some (.slice B m d)) (first | exact S2 | exact S1 | go_keep) (first
    | (go_at_call 57; go_must (refine (impl_bytesByClass_any _ T2.out.drew HV.out).mono ?_; rintro e w3 ⟨A3, n3, c3, rfl, ho3, hb3⟩; have HB3 := Lib.hid hb3; clear hb3; have O3 := Lib.hid ho3; clear ho3; have P3 := Lib.hid (P2.out.drew.on HB3.out); have B3 := Lib.hid (Below.trans B2.out.drew (HB3.out.mono B2.out.size)); have S1 := (And.intro (show w3.cell? ⟨w.heap.size, 2, none⟩ = some (.slice A' n' c') from P3.out.cell 2) (show w3.cell? ⟨w.heap.size, 3, none⟩ = some (.slice B m d) from P3.out.cell 3))))
    | (go_at_call 56; go_must (refine (slices_Equal_any _ O3.out.is (U2.out.drew.below HB3.out (Nat.le_refl _))).mono ?_; rintro e w4 ⟨rfl, N4, rfl⟩; have S2 := (And.intro (show (w3.drewN N4).cell? ⟨w.heap.size, 2, none⟩ = some (.slice A' n' c') from P3.out.cell 2) (show (w3.drewN N4).cell? ⟨w.heap.size, 3, none⟩ = some (.slice B m d) from P3.out.cell 3)))))
  clear k2 k3 k4 k5
  go_wp2_with (fail)
  go_ret
  exact ⟨ret_bool EV.out.symm, below_drewN B3.out _⟩
theorem impl_ValidAsk_any {A A' B : Option Addr} {n c n' c' m d : Nat} {ks us : List Int} {xs : List Tr} (t cl sz : Int) (w : World) (h : IS w A n c ks) (h' : IS w A' n' c' us) (h2 : TS w B m d xs) :
    Calls Try.prog 13 #[.agg #[.int .i64 t, .slice A n c, .slice A' n' c'], .slice B m d, .int .i64 cl, .int .i64 sz] w fun e w' => e = .returned (.bool (askV t ks us xs cl sz)) ∧ Below w.heap.size w w' := by
  have H := Lib.hid h
  have H' := Lib.hid h'
  have H2 := Lib.hid h2
  clear h h' h2
  go_enter Try.func13, Try.ntmps13
  go_wp2_with (fail)
  refine (impl_newAsk_any t cl sz _).mono ?_
  rintro e w1 ⟨rfl, hb⟩
  have B1 := Lib.hid (below_then (below_new w _) hb)
  clear hb
  go_wp2_with (fail)
  refine (impl_askvalid_any t cl sz _ (H.out.below B1.out (Nat.le_refl _)) (H'.out.below B1.out (Nat.le_refl _)) (H2.out.below B1.out (Nat.le_refl _))).mono ?_
  rintro e w2 ⟨rfl, hb⟩
  have B2 := Lib.hid (below_then B1.out hb)
  clear hb
  go_wp2_with (fail)
  go_ret
  exact ⟨rfl, B2.out⟩
end Go.Proofs.Ytcolkfhhcmhfjaa
