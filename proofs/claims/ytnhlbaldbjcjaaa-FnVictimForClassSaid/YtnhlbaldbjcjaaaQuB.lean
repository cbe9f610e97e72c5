/-
  Contracts of entries and queues: what the model's entries are, bytes by classes, what can be shed.
-/
import Derived.Test.YtnhlbaldbjcjaaaQuS
import Derived.Deep.RegionHeld3
import Derived.RegionTactic
import Derived.ChangeAlike
import Derived.BigRegion
namespace Go.Proofs.Ytnhlbaldbjcjaaa
open Go.RowKit
set_option maxHeartbeats 1000000 in
theorem spec_validEntries_any {A : Option Addr} {n c : Nat} {xs : List Tr} (w : World) (h : TS w A n c xs) :
    Calls Try.prog 17 #[.slice A n c] w fun e w' => e = .returned (.bool (validE xs)) ∧ Below w.heap.size w w' := by
  have o1 := OW.lit w 3 w.heap.size [1, 1, 1] (Nat.le_refl _) (by decide)
  have o2 := OW.lit (w.alloc (.cells #[.int .i64 1, .int .i64 1, .int .i64 1] 3)) 3 w.heap.size [0, 0, 0] (by simp) (by decide)
  have H := Lib.hid ((h.alloc (.cells #[.int .i64 1, .int .i64 1, .int .i64 1] 3)).alloc (.cells #[.int .i64 0, .int .i64 0, .int .i64 0] 3))
  have I1 : Hid (IS ((w.alloc (.cells #[.int .i64 1, .int .i64 1, .int .i64 1] 3)).alloc (.cells #[.int .i64 0, .int .i64 0, .int .i64 0] 3)) (some ⟨w.heap.size, 0, none⟩) 3 3 [1, 1, 1]) := Lib.hid (by have := (o1.alloc (.cells #[.int .i64 0, .int .i64 0, .int .i64 0] 3)).is; simpa using this)
  have I2 : Hid (IS ((w.alloc (.cells #[.int .i64 1, .int .i64 1, .int .i64 1] 3)).alloc (.cells #[.int .i64 0, .int .i64 0, .int .i64 0] 3)) (some ⟨w.heap.size + 1, 0, none⟩) 3 3 [0, 0, 0]) := Lib.hid (by have := o2.is; simpa using this)
  have B0 := Lib.hid (((Below.refl w.heap.size w).alloc (Nat.le_refl _) (.cells #[.int .i64 1, .int .i64 1, .int .i64 1] 3)).alloc (by simp) (.cells #[.int .i64 0, .int .i64 0, .int .i64 0] 3))
  clear h o1 o2
  go_enter Try.func17, Try.ntmps17
  go_wp2_with (fail)
  refine (spec_validQueue_any 0 _ H.out I1.out I2.out).mono ?_
  rintro e w1 ⟨rfl, hb⟩
  have BB := Lib.hid (B0.out.trans (hb.mono B0.out.size))
  clear hb
  go_wp2_with (fail)
  go_ret
  exact ⟨ret_bool (validQ_entries xs), BB.out⟩
theorem canShed_f {xs : List Tr} {c : Int} (h : validE xs = false ∨ inR c 0 2 = false) : canShed xs c = -1 := by
  rcases h with h | h <;> simp [canShed, h]
theorem canShed_t {xs : List Tr} {c : Int} (h : validE xs = true) (h2 : inR c 0 2 = true) : canShed xs c = shedB xs c := by simp [canShed, h, h2]
set_option maxHeartbeats 2000000 in
theorem impl_CanShed_any {A : Option Addr} {n c : Nat} {xs : List Tr} (cl : Int) (w : World) (h : TS w A n c xs) :
    Calls Try.prog 9 #[.slice A n c, .int .i64 cl] w fun e w' => e = .returned (.int .i64 (canShed xs cl)) ∧ Below w.heap.size w w' := by
  have H := Lib.hid h
  have hl := h.len
  have HL := Lib.hid hl
  clear h hl
  rcases hv : validE xs with _ | _
  · go_enter Try.func9, Try.ntmps9
    go_wp2_with (fail)
    refine (call_b (impl_ValidEntries_any _ H.out) hv).mono ?_
    rintro e w1 ⟨rfl, hb⟩
    have BB := Lib.hid hb
    clear hb
    go_wp2_with (fail)
    go_ret
    exact ⟨ret_int (canShed_f (.inl hv)).symm, BB.out⟩
  have HV := Lib.hid hv
  clear hv
  rcases hc : inR cl 0 2 with _ | _
  · go_enter Try.func9, Try.ntmps9
    go_wp2_with (fail)
    refine (call_b (impl_ValidEntries_any _ H.out) HV.out).mono ?_
    rintro e w1 ⟨rfl, hb⟩
    have BB := Lib.hid hb
    clear hb
    go_wp2_with (go_at_call 14; refine (call_b (impl_validClass_any _ _) hc).mono ?_; rintro e w' ⟨rfl, rfl⟩)
    go_ret
    exact ⟨ret_int (canShed_f (.inr hc)).symm, BB.out⟩
  have HR := Lib.hid (canShed_t HV.out hc)
  have HC := Lib.hid hc
  have hn : n ≤ 10 := by have := (validE_iff.1 HV.out).1; have := HL.out; omega
  have HE := Lib.hid (fun x hx => ((validE_iff.1 HV.out).at_ (x := x) hx).2.2)
  clear hc
  go_enter Try.func9, Try.ntmps9
  go_wp2_with (fail)
  refine (call_b (impl_ValidEntries_any _ H.out) HV.out).mono ?_
  rintro e w1 ⟨rfl, hb⟩
  have BB := Lib.hid hb
  have T1 := Lib.hid (H.out.below hb (Nat.le_refl _))
  clear hb
  go_wp2_with (go_at_call 14; refine (call_b (impl_validClass_any _ _) HC.out).mono ?_; rintro e w' ⟨rfl, rfl⟩)
  go_loopw [5, 18] (fun t i wr => ∃ k : Nat, ∃ m : Int, k ≤ n ∧ 0 ≤ m ∧ m ≤ 20 * (k : Int) ∧ i = .int .i64 k ∧ t = .int .i64 m ∧ Hid (shedB (xs.take k) cl = m) ∧ Hid (Below w1.heap.size w1 wr)) (fun _ i _ => n - (intOf i).toNat)
  case atStart => exact ⟨0, 0, Nat.zero_le _, by omega, by omega, rfl, rfl, Lib.hid (by simp [shedB]), Lib.hid (Below.refl _ _)⟩
  case round =>
    obtain ⟨k, m, hk, hm0, hm1, rfl, rfl, ha, hB⟩ := hrel
    by_cases hlt : k < n
    · obtain ⟨b, off, x, rfl, hx, ca, cb, cc⟩ := (T1.out.below hB.out (Nat.le_refl _)).at_ hlt
      obtain ⟨hv0, hv1⟩ := HE.out x (List.mem_of_getElem? hx)
      have HX := Lib.hid (shedB_next hx cl)
      have hki : (k : Int) < (n : Int) := by omega
      clear hx
      rcases Int.lt_or_le cl x.b with hcx | hcx
      · have hd : decide (cl < x.b) = true := decide_eq_true hcx
        go_wp2_with (fail)
        go_roundw
        case rel => exact ⟨k + 1, m + x.c, by omega, by omega, by omega, by go_num, by go_num, Lib.hid (by rw [HX.out, ha.out, if_pos hcx]), Lib.hid (hB.out.alloc hB.out.size _)⟩
        case measure => simp [intOf]; omega
      · have hd : decide (cl < x.b) = false := decide_eq_false (by omega)
        go_wp2_with (fail)
        go_roundw
        case rel => exact ⟨k + 1, m, by omega, by omega, by omega, by go_num, rfl, Lib.hid (by rw [HX.out, ha.out, if_neg (by omega)]; omega), Lib.hid (hB.out.alloc hB.out.size _)⟩
        case measure => simp [intOf]; omega
    · go_wp2_with (fail)
      go_ret
      have ht := ha.out
      rw [List.take_of_length_le (by have := HL.out; omega)] at ht
      exact ⟨ret_int (by rw [HR.out, ht]), BB.out.trans (hB.out.mono BB.out.size)⟩
end Go.Proofs.Ytnhlbaldbjcjaaa
