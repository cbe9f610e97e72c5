/-
  Contracts of the model's functions on windows: isIn, the validator, SendNext, OpenBatches.
-/
import Derived.Test.YthbdcindhkjboaaWiD
import Derived.Test.YthbdcindhkjboaaApp
import Derived.Test.YthbdcindhkjboaaCopy
import Derived.Deep.QuietTactic
namespace Go.Proofs.Ythbdcindhkjboaa
open Go.RowKit

set_option maxHeartbeats 1000000 in
theorem spec_isIn_any {A : Option Addr} {n c : Nat} {xs : List Int} (v : Int) (w : World) (h : IS w A n c xs) :
    Calls Try.prog 37 #[.slice A n c, .int .i64 v] w fun e w' => e = .returned (.bool (xs.contains v)) ∧ w = w' := by
  have hcap := h.cap
  have HL := Lib.hid h.len
  have H := Lib.hid h
  clear h
  go_enter Try.func37, Try.ntmps37
  go_wp2_with (fail)
  go_loop [5] (fun i => ∃ k : Nat, k ≤ n ∧ i = .int .i64 (k : Int) ∧ Hid ((xs.take k).contains v = false)) (fun i => n - (intOf i).toNat)
  case atStart => exact ⟨0, Nat.zero_le _, rfl, Lib.hid (by simp)⟩
  case round =>
    obtain ⟨k, hk, rfl, ha⟩ := hrel
    by_cases hlt : k < n
    · obtain ⟨g, off, u, rfl, hx, hc⟩ := H.out.at_ hlt
      have HX := Lib.hid hx
      clear hx
      by_cases hu : u = v
      · have hu' : (u == v) = true := by simp [hu]
        go_wp2_with (fail)
        go_ret
        exact ⟨ret_bool (by have := List.mem_of_getElem? HX.out; rw [hu] at this; simp [this]), rfl⟩
      · have hu' : (u == v) = false := by simp [hu]
        have HU := Lib.hid hu
        clear hu
        go_wp2_with (fail)
        go_round
        case rel => exact ⟨k + 1, by omega, by go_num, Lib.hid (by
          have hk : k < xs.length := (List.getElem?_eq_some_iff.1 HX.out).1
          have e : xs[k] = u := (List.getElem?_eq_some_iff.1 HX.out).2
          have h1 := ha.out
          rw [List.take_succ_eq_append_getElem hk, e]
          simp only [List.contains_eq_mem, List.mem_append, List.mem_singleton, decide_eq_false_iff_not] at h1 ⊢
          rintro (h2 | h2)
          · exact h1 h2
          · exact HU.out h2.symm)⟩
        case measure => simp [intOf]; omega
    · go_wp2_with (fail)
      go_ret
      have ht := ha.out
      rw [List.take_of_length_le (by have := HL.out; omega)] at ht
      exact ⟨ret_bool (by simpa using ht.symm), rfl⟩
set_option maxHeartbeats 1000000 in
theorem laws_isIn_any {A : Option Addr} {n c : Nat} {xs : List Int} (v : Int) (w : World) (h : IS w A n c xs) :
    Calls Try.prog 19 #[.slice A n c, .int .i64 v] w fun e w' => e = .returned (.bool (xs.contains v)) ∧ w = w' := by
  have hcap := h.cap
  have HL := Lib.hid h.len
  have H := Lib.hid h
  clear h
  go_enter Try.func19, Try.ntmps19
  go_wp2_with (fail)
  go_loop [5] (fun i => ∃ k : Nat, k ≤ n ∧ i = .int .i64 (k : Int) ∧ Hid ((xs.take k).contains v = false)) (fun i => n - (intOf i).toNat)
  case atStart => exact ⟨0, Nat.zero_le _, rfl, Lib.hid (by simp)⟩
  case round =>
    obtain ⟨k, hk, rfl, ha⟩ := hrel
    by_cases hlt : k < n
    · obtain ⟨g, off, u, rfl, hx, hc⟩ := H.out.at_ hlt
      have HX := Lib.hid hx
      clear hx
      by_cases hu : u = v
      · have hu' : (u == v) = true := by simp [hu]
        go_wp2_with (fail)
        go_ret
        exact ⟨ret_bool (by have := List.mem_of_getElem? HX.out; rw [hu] at this; simp [this]), rfl⟩
      · have hu' : (u == v) = false := by simp [hu]
        have HU := Lib.hid hu
        clear hu
        go_wp2_with (fail)
        go_round
        case rel => exact ⟨k + 1, by omega, by go_num, Lib.hid (by
          have hk : k < xs.length := (List.getElem?_eq_some_iff.1 HX.out).1
          have e : xs[k] = u := (List.getElem?_eq_some_iff.1 HX.out).2
          have h1 := ha.out
          rw [List.take_succ_eq_append_getElem hk, e]
          simp only [List.contains_eq_mem, List.mem_append, List.mem_singleton, decide_eq_false_iff_not] at h1 ⊢
          rintro (h2 | h2)
          · exact h1 h2
          · exact HU.out h2.symm)⟩
        case measure => simp [intOf]; omega
    · go_wp2_with (fail)
      go_ret
      have ht := ha.out
      rw [List.take_of_length_le (by have := HL.out; omega)] at ht
      exact ⟨ret_bool (by simpa using ht.symm), rfl⟩
set_option maxHeartbeats 2000000 in
theorem spec_validWindow_any {A : Option Addr} {n c : Nat} {xs : List Int} (b nx : Int) (w : World) (h : IS w A n c xs) :
    Calls Try.prog 36 #[.agg #[.int .i64 b, .int .i64 nx, .slice A n c]] w fun e w' => e = .returned (.bool (winV b nx xs)) ∧ Below w.heap.size w w' := by
  have hcap := h.cap
  have HL := Lib.hid h.len
  have H := Lib.hid (h.alloc (.cells #[.int .i64 b, .int .i64 nx, .slice A n c] 34))
  clear h
  rcases h1 : inR b 0 1000 with _ | _
  · go_enter Try.func36, Try.ntmps36
    go_wp2_with (go_at_call 35; refine (spec_inRange_any _ _ _ _).mono ?_; rintro e w' ⟨rfl, rfl⟩)
    go_ret
    exact ⟨ret_bool (by simp [winV, h1]), below_new _ _⟩
  obtain ⟨hb0, hb1⟩ := inR_iff.1 h1
  have hw8 : IntKind.i64.wrap (b + 8) = b + 8 := by rw [IntKind.wrap_i64]; omega
  rcases h2 : inR nx b (b + 8) with _ | _
  · go_enter Try.func36, Try.ntmps36
    go_wp2_with (go_at_call 35; refine (spec_inRange_any _ _ _ _).mono ?_; rintro e w' ⟨rfl, rfl⟩)
    go_ret
    exact ⟨ret_bool (by simp [winV, h2]), below_new _ _⟩
  obtain ⟨hx0, hx1⟩ := inR_iff.1 h2
  have HV : Hid (winV b nx xs = okA b nx xs) := Lib.hid (by simp [winV, h1, h2])
  have P0 := Lib.hid (Blk.new w 34 #[.int .i64 b, .int .i64 nx, .slice A n c])
  have hwb : IntKind.i64.wrap (b + 1) = b + 1 := by rw [IntKind.wrap_i64]; omega
  have hwn : IntKind.i64.wrap (nx - 1) = nx - 1 := by rw [IntKind.wrap_i64]; omega
  go_enter Try.func36, Try.ntmps36
  go_wp2_with (go_at_call 35; refine (spec_inRange_any _ _ _ _).mono ?_; rintro e w' ⟨rfl, rfl⟩)
  clear h1 h2
  obtain ⟨W, eW⟩ : ∃ v : World, v = w.alloc (.cells #[.int .i64 b, .int .i64 nx, .slice A n c] 34) := ⟨_, rfl⟩
  have B0 : Hid (Below w.heap.size w W) := Lib.hid (by rw [eW]; exact below_new _ _)
  rw [← eW] at P0 H ⊢
  clear eW
  obtain ⟨p0, p1, p2⟩ := P0.out.c3
  go_loopw [3] (fun i wr => ∃ (k mm : Nat), k ≤ n ∧ i = .int .i64 (k : Int) ∧ wr = W.drewN mm ∧ Hid (okA b nx (xs.take k) = true)) (fun i _ => n - (intOf i).toNat)
  case atStart => exact ⟨0, 0, Nat.zero_le _, rfl, rfl, Lib.hid rfl⟩
  case round =>
    obtain ⟨k, mm, hk, rfl, rfl, ha⟩ := hrel
    have q0 : (W.drewN mm).cell? ⟨w.heap.size, 0, none⟩ = some (.int .i64 b) := p0
    have q1 : (W.drewN mm).cell? ⟨w.heap.size, 1, none⟩ = some (.int .i64 nx) := p1
    have q2 : (W.drewN mm).cell? ⟨w.heap.size, 2, none⟩ = some (.slice A n c) := p2
    by_cases hlt : k < n
    · have hlt' : (k : Int) < (n : Int) := by omega
      have zk : (0 : Int) ≤ (k : Int) := by omega
      obtain ⟨g, off, v, rfl, hx, hc⟩ := H.out.at_ hlt
      have HX := Lib.hid hx
      have hlast := Lib.hid (okA_last ha.out)
      clear hx
      rcases hb : inR v (b + 1) (nx - 1) with _ | _
      · have HB := Lib.hid hb
        go_wp2_with (fail)
        go_quiet ((go_at_call 35; refine (call_bool (spec_inRange_any _ _ _ _) hb).mono ?_; rintro e w' ⟨rfl, rfl⟩; exact ⟨rfl, _, rfl⟩))
        go_wp2_with (fail)
        go_ret
        exact ⟨ret_bool (by
          have h1 := HB.out
          have h2 := hlast.out
          rw [HV.out, okA_bad HX.out]
          simp only [inR, decide_eq_false_iff_not] at h1 ⊢
          omega), below_drewN (below_drewN B0.out _) _⟩
      · have HB := Lib.hid hb
        obtain ⟨hv0, hv1⟩ := inR_iff.1 hb
        rcases Nat.eq_zero_or_pos k with hk0 | hk0
        · have z1 : ¬ 0 < k := by omega
          have z1' : ¬ (0 : Int) < (k : Int) := by omega
          have z1d : decide (0 < k) = false := by simp; omega
          have HK0 := Lib.hid hk0
          clear hk0
          go_wp2_with (fail)
          go_quiet ((go_at_call 35; refine (call_bool (spec_inRange_any _ _ _ _) hb).mono ?_; rintro e w' ⟨rfl, rfl⟩; exact ⟨rfl, _, rfl⟩))
          go_wp2_with (fail)
          go_roundw
          case rel => exact ⟨k + 1, _, by omega, by first | rfl | go_num, rfl, Lib.hid (okA_step HX.out ha.out (by rw [HK0.out]; exact HB.out))⟩
          case measure => simp [intOf]; omega
        · obtain ⟨q, hq⟩ : ∃ q, k = q + 1 := ⟨k - 1, by omega⟩
          obtain ⟨g2, off2, u, e2, hxu, hcu⟩ := H.out.at_ (k := q) (by omega)
          simp only [Option.some.injEq, Addr.mk.injEq, and_true] at e2
          obtain ⟨rfl, rfl⟩ := e2
          have HLU : Hid (lastV b (xs.take k) = u) := Lib.hid (by rw [hq]; exact last_step hxu)
          have z1 : (0 : Int) < (k : Int) := by omega
          have z1d : decide (0 < k) = true := by simp; omega
          have z1n : 0 < k := by omega
          have z2 : (0 : Int) ≤ (q : Int) := by omega
          have z3 : (q : Int) < (n : Int) := by omega
          have w1' : IntKind.i64.wrap ((k : Int) - 1) = (q : Int) := by rw [IntKind.wrap_i64]; omega
          clear hxu hq hk0
          by_cases hvu : v ≤ u
          · go_wp2_with (fail)
            go_quiet ((go_at_call 35; refine (call_bool (spec_inRange_any _ _ _ _) hb).mono ?_; rintro e w' ⟨rfl, rfl⟩; exact ⟨rfl, _, rfl⟩))
            go_wp2_with (fail)
            go_ret
            exact ⟨ret_bool (by
              rw [HV.out, okA_bad HX.out]
              rw [HLU.out]
              simp only [inR, decide_eq_false_iff_not]
              omega), below_drewN (below_drewN B0.out _) _⟩
          · go_wp2_with (fail)
            go_quiet ((go_at_call 35; refine (call_bool (spec_inRange_any _ _ _ _) hb).mono ?_; rintro e w' ⟨rfl, rfl⟩; exact ⟨rfl, _, rfl⟩))
            go_wp2_with (fail)
            go_roundw
            case rel => exact ⟨k + 1, _, by omega, by first | rfl | go_num, rfl, Lib.hid (okA_step HX.out ha.out (by rw [HLU.out]; exact inR_t (by omega) (by omega)))⟩
            case measure => simp [intOf]; omega
    · go_wp2_with (fail)
      go_ret
      have ht := ha.out
      rw [List.take_of_length_le (by have := HL.out; omega)] at ht
      exact ⟨ret_bool (by rw [HV.out, ht]), below_drewN B0.out _⟩
end Go.Proofs.Ythbdcindhkjboaa
