/-
  slices.Contains on integers; DeliveredOver of the program.
-/
import Derived.Test.YthbdcindhkjboaaLiT
namespace Go.Proofs.Ythbdcindhkjboaa
open Go.RowKit

set_option maxHeartbeats 1000000 in
theorem Index_any {A : Option Addr} {n c : Nat} {xs : List Int} (v : Int) (w : World) (h : IS w A n c xs) :
    Calls Try.prog 48 #[.slice A n c, .int .i64 v] w fun e w' => (∃ r : Int, e = .returned (.int .i64 r) ∧ decide (0 ≤ r) = xs.contains v) ∧ w = w' := by
  have hcap := h.cap
  have HL := Lib.hid h.len
  have H := Lib.hid h
  clear h
  go_enter Try.func48, Try.ntmps48
  go_wp2_with (fail)
  go_loop [8] (fun i => ∃ k : Nat, k ≤ n ∧ i = .int .i64 (k : Int) ∧ Hid ((xs.take k).contains v = false)) (fun i => n - (intOf i).toNat)
  case atStart => exact ⟨0, Nat.zero_le _, rfl, Lib.hid (by simp)⟩
  case round =>
    obtain ⟨k, hk, rfl, ha⟩ := hrel
    by_cases hlt : k < n
    · obtain ⟨g, off, u, rfl, hx, hc⟩ := H.out.at_ hlt
      have HX := Lib.hid hx
      clear hx
      by_cases hu : v = u
      · have hu' : (v == u) = true := by simp [hu]
        go_wp2_with (fail)
        go_ret
        exact ⟨⟨(k : Int), rfl, by have := List.mem_of_getElem? HX.out; simp [this]⟩, rfl⟩
      · have hu' : (v == u) = false := by simp [hu]
        have HU := Lib.hid hu
        clear hu
        go_wp2_with (fail)
        go_round
        case rel => exact ⟨k + 1, by omega, by go_num, Lib.hid (by
          have hk : k < xs.length := (List.getElem?_eq_some_iff.1 HX.out).1
          have e : xs[k] = u := (List.getElem?_eq_some_iff.1 HX.out).2
          have h1 := ha.out
          rw [List.take_succ_eq_append_getElem hk, e]
          simp only [List.contains_eq_mem, List.mem_append, List.mem_singleton, decide_eq_false_iff_not] at h1 ⊢
          rintro (h2 | h2)
          · exact h1 h2
          · exact HU.out h2)⟩
        case measure => simp [intOf]; omega
    · go_wp2_with (fail)
      go_ret
      have ht := ha.out
      rw [List.take_of_length_le (by have := HL.out; omega)] at ht
      exact ⟨⟨-1, rfl, by simp only [List.contains_eq_mem, decide_eq_false_iff_not] at ht; simp [ht]⟩, rfl⟩
theorem Contains_any {A : Option Addr} {n c : Nat} {xs : List Int} (v : Int) (w : World) (h : IS w A n c xs) :
    Calls Try.prog 32 #[.slice A n c, .int .i64 v] w fun e w' => e = .returned (.bool (xs.contains v)) ∧ w = w' := by
  have H := Lib.hid h
  clear h
  go_enter Try.func32, Try.ntmps32
  go_wp2_with (go_at_call 48; refine (Index_any v _ H.out).mono ?_; rintro e w' ⟨⟨r, rfl, hr⟩, rfl⟩; have HRR := Lib.hid hr; clear hr)
  go_ret
  exact ⟨ret_bool HRR.out, rfl⟩
set_option maxHeartbeats 2000000 in
theorem impl_DeliveredOver_any {A : Option Addr} {n c : Nat} {xs : List Int} (m : Int) (w : World) (h : IS w A n c xs) :
    Calls Try.prog 21 #[.slice A n c, .int .i64 m] w (GaveInts 3 w (dlvV xs m)) := by
  have HL := Lib.hid h.len
  have H := Lib.hid h
  clear h
  rcases hk : okK xs m with _ | _
  · have HK := Lib.hid hk
    go_enter Try.func21, Try.ntmps21
    go_wp2_with (go_at_call 28; refine (call_b (impl_validLink_any m _ H.out) hk).mono ?_; rintro e w' ⟨rfl, rfl⟩)
    go_ret
    exact ⟨none, 0, 0, rfl, by simp only [dlvV, arrV, HK.out]; exact ⟨rfl, .inl ⟨rfl, rfl⟩⟩, Below.refl _ _⟩
  have HK := Lib.hid hk
  have hle := arrV_le xs m
  obtain ⟨h20, har, hm0, hm8⟩ := okK_facts hk
  obtain ⟨M, rfl⟩ := Int.eq_ofNat_of_zero_le hm0
  have hM : M ≤ 8 := by omega
  have hn : n ≤ 20 := by have := HL.out; omega
  have HF := fun (Q A : Option Addr) (nq cq na ca : Nat) (s : Int) (W : World) => (run_field Q A nq cq na ca s W).1
  have HAR := Lib.hid har
  obtain ⟨as_, ea⟩ : ∃ v, arrV xs (M : Int) = v := ⟨_, rfl⟩
  rw [ea] at hle
  have EA := Lib.hid ea
  clear h20 hm0 hm8 har ea
  go_enter Try.func21, Try.ntmps21
  go_wp2_with (first | (go_at_call 28; refine (call_b (impl_validLink_any (M : Int) _ H.out) hk).mono ?_; rintro e w' ⟨rfl, rfl⟩) | (go_at_call 29; go_must (refine (impl_runLink_any M _ H.out hn HAR.out hM).mono ?_; rintro e w1 ⟨Q, nq, cq, A1, na, ca, rfl, hq, ho, hd, hb⟩; have O1 : Hid (OW w1 3 w.heap.size A1 na ca as_) := Lib.hid (by rw [← EA.out]; simp only [arrV, HK.out, if_true]; exact ho); have B1 := Lib.hid hb; clear hq ho hd hb)))
  have hna : na ≤ 40 := by have h1 := O1.out.len; omega
  have HAL := Lib.hid O1.out.len
  have hz1 := B1.out.size
  go_loopw [5, 17] (fun q i wr => ∃ (j p c' : Nat) (A' : Option Addr), j ≤ na ∧ p ≤ j ∧ i = .int .i64 (j : Int) ∧ q = .slice A' p c' ∧ Hid (OW wr 3 w1.heap.size A' p c' (onceL (as_.take j))) ∧ Hid (Below w1.heap.size w1 wr)) (fun _ i _ => na - (intOf i).toNat)
  case atStart => exact ⟨0, 0, 0, none, Nat.zero_le _, Nat.zero_le _, rfl, rfl, Lib.hid ⟨rfl, .inl ⟨rfl, rfl⟩⟩, Lib.hid (Below.refl _ _)⟩
  case round =>
    obtain ⟨j, p, c', A', hj, hp, rfl, rfl, O, BW⟩ := hrel
    have hsz := BW.out.size
    have I := Lib.hid (O1.out.is.below BW.out (Nat.le_refl _))
    by_cases hlt : j < na
    · obtain ⟨g, off, v, rfl, hx, hc⟩ := I.out.at_ hlt
      have HX := Lib.hid hx
      clear hx
      rcases hbit : (onceL (as_.take j)).contains v with _ | _
      · have HB := Lib.hid hbit
        have O7 := Lib.hid (O.out.alloc (.cells #[.int .i64 v] 3))
        have SV : Hid (IS (wr.alloc (.cells #[.int .i64 v] 3)) (some ⟨wr.heap.size, 0, none⟩) 1 1 [v]) := Lib.hid (by simpa using (OW.lit wr 3 0 [v] (by simp) (by simp)).is)
        have B7 := Lib.hid (BW.out.alloc BW.out.size (.cells #[.int .i64 v] 3))
        go_wp2_with (first | (go_at_call 32; refine (call_b (Contains_any _ _ O.out.is) hbit).mono ?_; rintro e w' ⟨rfl, rfl⟩) | (at_builtin; go_must (refine wpList_append_is _ rfl (.tmp 25) (.tmp 27) _ rfl w1.heap.size 3 infoInt Try.underlying22 _ _ _ _ rfl O7.out _ _ _ _ rfl SV.out (by omega) (by simp; omega) ?_); intro A8 c8 w8 hown8 hg8; have O8 := Lib.hid hown8; have B8 := Lib.hid (O7.out.below_grown hg8 B7.out (Nat.le_refl _) (by simp; omega)); clear hown8 hg8))
        go_roundw
        case rel => exact ⟨j + 1, p + 1, c8, A8, by omega, by omega, by first | rfl | go_num, rfl, Lib.hid (by rw [onceL_step HX.out, HB.out]; exact O8.out), B8⟩
        case measure => simp [intOf]; omega
      · have HB := Lib.hid hbit
        go_wp2_with (go_at_call 32; refine (call_b (Contains_any _ _ O.out.is) hbit).mono ?_; rintro e w' ⟨rfl, rfl⟩)
        go_roundw
        case rel => exact ⟨j + 1, p, c', A', by omega, by omega, by first | rfl | go_num, rfl, Lib.hid (by rw [onceL_step HX.out, HB.out]; exact O.out), BW⟩
        case measure => simp [intOf]; omega
    · have ek : j = na := by omega
      subst ek
      go_wp2_with (fail)
      go_ret
      have h3 := O.out
      rw [List.take_of_length_le (by have := HAL.out; omega), ← EA.out] at h3
      exact ⟨A', p, c', rfl, h3.base_le hz1, B1.out.trans (BW.out.mono hz1)⟩
end Go.Proofs.Ythbdcindhkjboaa
