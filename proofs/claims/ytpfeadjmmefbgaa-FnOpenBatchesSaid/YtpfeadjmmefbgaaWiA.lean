/-
  Contracts of the program's sets of bits, its validator of windows, and what reads a window.
-/
import Derived.Test.YtpfeadjmmefbgaaWiM
import Derived.Test.YtpfeadjmmefbgaaOwn
namespace Go.Proofs.Ytpfeadjmmefbgaa
open Go.RowKit

theorem IS.nat {w : World} {A : Option Addr} {n c : Nat} {xs : List Int} (h : IS w A n c xs) : n ≤ 9223372036854775807 := h.cap
theorem or8 : ∀ s : Fin 256, ∀ p : Fin 8, bits .or .u8 (s.val : Int) (2 ^ p.val % 256) = ((s.val ||| 2 ^ p.val : Nat) : Int) := by decide +kernel
theorem has8 : ∀ s : Fin 256, ∀ p : Fin 8, (bits .and .u8 ((s.val : Int) / 2 ^ p.val) 1 == 1) = s.val.testBit p.val := by decide +kernel
/-- How many bits a set has. -/
def popc (s : Nat) : Nat := (selL (fun m => s.testBit m.toNat) 0 8).length
theorem with_any (s p : Nat) (w : World) (hs : s < 256) (hp : p < 8) :
    Calls Try.prog 26 #[.int .u8 s, .int .i64 p] w fun e w' => e = .returned (.int .u8 ((s ||| 2 ^ p : Nat) : Int)) ∧ w = w' := by
  go_enter Try.func26, Try.ntmps26
  go_wp2_with (fail)
  go_ret
  exact ⟨ret_int (or8 ⟨s, hs⟩ ⟨p, hp⟩), rfl⟩
theorem has_any (s p : Nat) (w : World) (hs : s < 256) (hp : p < 8) :
    Calls Try.prog 23 #[.int .u8 s, .int .i64 p] w fun e w' => e = .returned (.bool (s.testBit p)) ∧ w = w' := by
  go_enter Try.func23, Try.ntmps23
  go_wp2_with (fail)
  go_ret
  exact ⟨ret_bool (has8 ⟨s, hs⟩ ⟨p, hp⟩), rfl⟩
theorem behind_any (s p : Nat) (w : World) (_ : s < 256) (hp : p < 8) :
    Calls Try.prog 27 #[.int .u8 s, .int .i64 p] w fun e w' => e = .returned (.int .u8 ((s >>> (p + 1) : Nat) : Int)) ∧ w = w' := by
  go_enter Try.func27, Try.ntmps27
  go_wp2_with (fail)
  go_ret
  exact ⟨ret_int (by rw [Nat.shiftRight_eq_div_pow, Nat.pow_succ, ← Nat.div_div_eq_div_mul]; simp), rfl⟩
set_option maxHeartbeats 1000000 in
theorem impl_ValidWindow_any {A : Option Addr} {n c : Nat} {xs : List Int} (b nx : Int) (w : World) (h : IS w A n c xs) :
    Calls Try.prog 11 #[.agg #[.int .i64 b, .int .i64 nx, .slice A n c]] w fun e w' => e = .returned (.bool (winV b nx xs)) ∧ Below w.heap.size w w' := by
  have hcap := h.cap
  have HL := Lib.hid h.len
  have H := Lib.hid (h.alloc (.cells #[.int .i64 b, .int .i64 nx, .slice A n c] 25))
  clear h
  rcases h1 : inR b 0 1000 with _ | _
  · go_enter Try.func11, Try.ntmps11
    go_wp2_with (go_at_call 24; refine (impl_within_any _ _ _ _).mono ?_; rintro e w' ⟨rfl, rfl⟩)
    go_ret
    exact ⟨ret_bool (by simp [winV, h1]), below_new _ _⟩
  obtain ⟨hb0, hb1⟩ := inR_iff.1 h1
  have H1 := Lib.hid h1
  have hw8 : IntKind.i64.wrap (b + 8) = b + 8 := by rw [IntKind.wrap_i64]; omega
  rcases h2 : inR nx b (b + 8) with _ | _
  · go_enter Try.func11, Try.ntmps11
    go_wp2_with (go_at_call 24; refine (impl_within_any _ _ _ _).mono ?_; rintro e w' ⟨rfl, rfl⟩)
    go_ret
    exact ⟨ret_bool (by simp [winV, h2]), below_new _ _⟩
  obtain ⟨hx0, hx1⟩ := inR_iff.1 h2
  have H2 := Lib.hid h2
  have HV : Hid (winV b nx xs = okA b nx xs) := Lib.hid (by simp [winV, h1, h2])
  have P0 := Lib.hid (Blk.new w 25 #[.int .i64 b, .int .i64 nx, .slice A n c])
  go_enter Try.func11, Try.ntmps11
  go_wp2_with (go_at_call 24; refine (impl_within_any _ _ _ _).mono ?_; rintro e w' ⟨rfl, rfl⟩)
  clear h1 h2
  obtain ⟨W, eW⟩ : ∃ v : World, v = w.alloc (.cells #[.int .i64 b, .int .i64 nx, .slice A n c] 25) := ⟨_, rfl⟩
  have B0 : Hid (Below w.heap.size w W) := Lib.hid (by rw [eW]; exact below_new _ _)
  rw [← eW] at P0 H ⊢
  clear eW
  obtain ⟨p0, p1, p2⟩ := P0.out.c3
  go_loop [3, 26] (fun q i => ∃ (k : Nat) (l : Int), k ≤ n ∧ b ≤ l ∧ l ≤ b + 8 ∧ i = .int .i64 (k : Int) ∧ q = .int .i64 l ∧ Hid (lastV b (xs.take k) = l) ∧ Hid (okA b nx (xs.take k) = true)) (fun _ i => n - (intOf i).toNat)
  case atStart => exact ⟨0, b, Nat.zero_le _, by omega, by omega, rfl, rfl, Lib.hid rfl, Lib.hid rfl⟩
  case round =>
    obtain ⟨k, l, hk, hl0, hl1, rfl, rfl, hl, ha⟩ := hrel
    by_cases hlt : k < n
    · obtain ⟨g, off, v, rfl, hx, hc⟩ := H.out.at_ hlt
      have HX := Lib.hid hx
      have hw1 : IntKind.i64.wrap (l + 1) = l + 1 := by rw [IntKind.wrap_i64]; omega
      have hw2 : IntKind.i64.wrap (nx - 1) = nx - 1 := by rw [IntKind.wrap_i64]; omega
      clear hx
      rcases hb : inR v (l + 1) (nx - 1) with _ | _
      · have HB := Lib.hid hb
        go_wp2_with (go_at_call 24; refine (impl_within_any _ _ _ _).mono ?_; rintro e w' ⟨rfl, rfl⟩)
        go_ret
        exact ⟨ret_bool (by rw [HV.out, okA_bad HX.out (by rw [hl.out]; exact HB.out)]), B0.out⟩
      · have HB := Lib.hid hb
        obtain ⟨hv0, hv1⟩ := inR_iff.1 hb
        go_wp2_with (go_at_call 24; refine (impl_within_any _ _ _ _).mono ?_; rintro e w' ⟨rfl, rfl⟩)
        go_round
        case rel => exact ⟨k + 1, v, by omega, by omega, by omega, by go_num, rfl, Lib.hid (last_step HX.out), Lib.hid (okA_step HX.out ha.out (by rw [hl.out]; exact HB.out))⟩
        case measure => simp [intOf]; omega
    · go_wp2_with (fail)
      go_ret
      have ht := ha.out
      rw [List.take_of_length_le (by have := HL.out; omega)] at ht
      exact ⟨ret_bool (by rw [HV.out, ht]), B0.out⟩
theorem winV_facts {b nx : Int} {xs : List Int} (h : winV b nx xs = true) : 0 ≤ b ∧ b ≤ 1000 ∧ b ≤ nx ∧ nx ≤ b + 8 ∧ okA b nx xs = true := by
  simp only [winV, Bool.and_eq_true, inR_iff] at h
  exact ⟨h.1.1, h.1.2, h.2.1.1, h.2.1.2, h.2.2⟩
set_option maxHeartbeats 1000000 in
theorem impl_acksOf_any {A : Option Addr} {n c : Nat} {xs : List Int} (b nx : Int) (w : World) (h : IS w A n c xs) (hv : winV b nx xs = true) :
    Calls Try.prog 20 #[.agg #[.int .i64 b, .int .i64 nx, .slice A n c]] w fun e w' => e = .returned (.int .u8 (bitsL b xs : Int)) ∧ Below w.heap.size w w' := by
  have hcap := h.cap
  have HL := Lib.hid h.len
  have H := Lib.hid (h.alloc (.cells #[.int .i64 b, .int .i64 nx, .slice A n c] 25))
  clear h
  obtain ⟨hb0, hb1, hx0, hx1, hok⟩ := winV_facts hv
  have HM := Lib.hid (okA_mem hok)
  clear hv hok
  have P0 := Lib.hid (Blk.new w 25 #[.int .i64 b, .int .i64 nx, .slice A n c])
  have B0 := Lib.hid (below_new w (.cells #[.int .i64 b, .int .i64 nx, .slice A n c] 25))
  have HLT : Hid (∀ k : Nat, bitsL b (xs.take k) < 256) := Lib.hid fun k => bitsL_lt fun x hx => by have := HM.out x (List.mem_of_mem_take hx); omega
  go_enter Try.func20, Try.ntmps20
  go_wp2_with (fail)
  obtain ⟨W, eW⟩ : ∃ v : World, v = w.alloc (.cells #[.int .i64 b, .int .i64 nx, .slice A n c] 25) := ⟨_, rfl⟩
  rw [← eW] at P0 H B0 ⊢
  clear eW
  obtain ⟨p0, p1, p2⟩ := P0.out.c3
  go_loop [3, 9] (fun q i => ∃ (k s : Nat), k ≤ n ∧ s < 256 ∧ i = .int .i64 (k : Int) ∧ q = .int .u8 (s : Int) ∧ Hid (bitsL b (xs.take k) = s)) (fun _ i => n - (intOf i).toNat)
  case atStart => exact ⟨0, 0, Nat.zero_le _, by omega, rfl, rfl, Lib.hid rfl⟩
  case round =>
    obtain ⟨k, s, hk, hs, rfl, rfl, ha⟩ := hrel
    by_cases hlt : k < n
    · obtain ⟨g, off, v, rfl, hx, hc⟩ := H.out.at_ hlt
      have HX := Lib.hid hx
      obtain ⟨hv0, hv1⟩ := HM.out v (List.mem_of_getElem? hx)
      obtain ⟨p, hp⟩ : ∃ p : Nat, v = b + (p : Int) := ⟨(v - b).toNat, by omega⟩
      have hp8 : p < 8 := by omega
      have hw1 : IntKind.i64.wrap (v - b) = (p : Int) := by rw [IntKind.wrap_i64]; omega
      have HP := Lib.hid hp
      clear hx hp
      go_wp2_with (go_at_call 26; refine (with_any s p _ hs hp8).mono ?_; rintro e w' ⟨rfl, rfl⟩)
      go_round
      case rel => exact ⟨k + 1, s ||| 2 ^ p, by omega, Nat.or_lt_two_pow (n := 8) hs (Nat.pow_lt_pow_right (by omega) (by omega)), by go_num, rfl, Lib.hid (by
        rw [bitsL_step HX.out, ha.out, HP.out]
        congr 2
        omega)⟩
      case measure => simp [intOf]; omega
    · go_wp2_with (fail)
      go_ret
      have ht := ha.out
      rw [List.take_of_length_le (by have := HL.out; omega)] at ht
      exact ⟨ret_int (by rw [ht]), B0.out⟩
end Go.Proofs.Ytpfeadjmmefbgaa
