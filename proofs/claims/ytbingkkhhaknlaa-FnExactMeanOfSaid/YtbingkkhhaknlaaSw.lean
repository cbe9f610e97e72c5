/-
  MeanOf of the program and of the model. (Its words were written by a program of my own.)
-/
import Derived.Test.YtbingkkhhaknlaaSv
namespace Go.Proofs.Ytbingkkhhaknlaa
open Go.RowKit

set_option maxHeartbeats 1600000 in
theorem impl_MeanOf_any {A : Option Addr} {n c : Nat} {xs : List Su} (key : Int) (w : World) (h : SS w A n c xs) :
    Calls Try.prog 11 #[.slice A n c, .int .i64 key] w fun e w' => e = .returned (.tuple #[.int .i64 (meV xs key), .bool (meOK xs key)]) ∧ Below w.heap.size w w' := by
  have hcap := h.cap
  have HL := Lib.hid h.len
  have H0 := Lib.hid h
  clear h
  rcases hv : validS xs with _ | _
  · have HV : Hid (meV xs key = 0 ∧ meOK xs key = false) := Lib.hid (by simp [meV, meOK, hv])
    go_enter Try.func11, Try.ntmps11
    go_wp2_with (fail)
    refine (call_bool (impl_ValidSums_any _ H0.out) hv).mono ?_
    rintro e w1 ⟨rfl, hb⟩
    have B1 := Lib.hid hb
    clear hb hv
    go_wp2_with (fail)
    refine bodyPost_ret (v := .tuple #[.int .i64 0, .bool false]) (by simp [results, Try.results11, go_sem]) rfl ?_
    exact ⟨by rw [HV.out.1, HV.out.2], B1.out⟩
  have HV := Lib.hid hv
  go_enter Try.func11, Try.ntmps11
  go_wp2_with (fail)
  refine (call_bool (impl_ValidSums_any _ H0.out) hv).mono ?_
  rintro e w1 ⟨rfl, hb⟩
  have B1 := Lib.hid hb
  clear hb hv
  go_wp2_with (fail)
  go_loopw [13] (fun i wr => ∃ k : Nat, k ≤ n ∧ i = .int .i64 (k : Int) ∧ Hid (∀ j y, j < k → xs[j]? = some y → y.a ≠ key) ∧ Hid (Below w.heap.size w wr)) (fun i _ => n - (intOf i).toNat)
  case atStart => exact ⟨0, Nat.zero_le _, rfl, Lib.hid (fun j y hj => by omega), B1⟩
  case round =>
    obtain ⟨k, hk, rfl, hb, HB⟩ := hrel
    clear B1
    by_cases hlt : k < n
    · have hlt' : (k : Int) < (n : Int) := by omega
      have hk0 : (0 : Int) ≤ (k : Int) := by omega
      have hat := (H0.out.below HB.out (Nat.le_refl _)).at_ hlt
      obtain ⟨g, off, x, rfl, hx, ca, cb, cc, cd, ce⟩ := hat
      have hok := okV_in (okF_at (validS_in HV.out).2 (List.mem_of_getElem? hx))
      have hb0 : (x.b == 0) = false := by simp; omega
      have hb1 : ¬ x.b = 0 := by omega
      have BN := Lib.hid (HB.out.alloc HB.out.size (.cells #[.int .i64 x.a, .int .i64 x.b, .int .i64 x.c, .int .i64 x.d, .int .i64 x.e] 33))
      by_cases he : x.a = key
      · have he' : (x.a == key) = true := by simp [he]
        have HM : Hid (meanAt key xs = some (x.c.tdiv x.b)) := Lib.hid (meanAt_yes hx he hb.out)
        obtain ⟨q, hq⟩ : ∃ q, x.c.tdiv x.b = q := ⟨_, rfl⟩
        have hqb : 0 ≤ q ∧ q ≤ x.c := by
          have h0 : 0 ≤ x.d * x.b := Int.mul_nonneg hok.2.1.1 (by omega)
          have h1 : 0 ≤ x.c := by omega
          rw [← hq, Int.tdiv_eq_ediv_of_nonneg h1]
          exact ⟨Int.ediv_nonneg h1 (by omega), Int.ediv_le_self _ h1⟩
        have hcb : x.c ≤ 25500 := by
          have h2 := mul_bd5 (a := x.e) (b := x.b) (m := 255) (n := 100) (by omega) (by omega) (by omega) (by omega)
          omega
        have hw1 : IntKind.i64.wrap q = q := by rw [IntKind.wrap_i64]; omega
        have HQ : Hid (meV xs key = q ∧ meOK xs key = true) := Lib.hid (by
          have h := HM.out
          rw [hq] at h
          simp [meV, meOK, HV.out, h])
        clear he hx hok hqb hcb
        go_wp2_with (fail)
        refine bodyPost_ret (v := .tuple #[.int .i64 q, .bool true]) (by simp [results, Try.results11, go_sem]) rfl ?_
        exact ⟨by rw [HQ.out.1, HQ.out.2], BN.out⟩
      · have he' : (x.a == key) = false := by simp [he]
        have HNX : Hid (∀ j y, j < k + 1 → xs[j]? = some y → y.a ≠ key) := Lib.hid (fun j y hj hy => by
          rcases Nat.lt_or_ge j k with h1 | h1
          · exact hb.out j y h1 hy
          · have e : j = k := by omega
            subst e
            rw [hx] at hy
            injection hy with hy
            rw [← hy]; exact he)
        clear he hx hok
        go_wp2_with (fail)
        go_roundw
        case rel => exact ⟨k + 1, by omega, by first | rfl | go_num, HNX, by first | exact BN | exact HB⟩
        case measure => simp [intOf]; omega
    · have hlt' : ¬ (k : Int) < (n : Int) := by omega
      obtain rfl : k = n := by omega
      have HQ : Hid (meV xs key = 0 ∧ meOK xs key = false) := Lib.hid (by
        have h := meanAt_none (key := key) (xs := xs) (fun x hx => by
          obtain ⟨i, hi, rfl⟩ := List.getElem_of_mem hx
          exact hb.out i _ (by have := HL.out; omega) (List.getElem?_eq_getElem hi))
        simp [meV, meOK, h])
      go_wp2_with (fail)
      refine bodyPost_ret (v := .tuple #[.int .i64 0, .bool false]) (by simp [results, Try.results11, go_sem]) rfl ?_
      exact ⟨by rw [HQ.out.1, HQ.out.2], HB.out⟩
set_option maxHeartbeats 1600000 in
theorem spec_MeanOf_any {A : Option Addr} {n c : Nat} {xs : List Su} (key : Int) (w : World) (h : SS w A n c xs) :
    Calls Try.prog 10 #[.slice A n c, .int .i64 key] w fun e w' => e = .returned (.tuple #[.int .i64 (meV xs key), .bool (meOK xs key)]) ∧ Below w.heap.size w w' := by
  have hcap := h.cap
  have HL := Lib.hid h.len
  have H0 := Lib.hid h
  clear h
  rcases hv : validS xs with _ | _
  · have HV : Hid (meV xs key = 0 ∧ meOK xs key = false) := Lib.hid (by simp [meV, meOK, hv])
    go_enter Try.func10, Try.ntmps10
    go_wp2_with (fail)
    refine (call_bool (spec_validSums_any _ H0.out) hv).mono ?_
    rintro e w1 ⟨rfl, hb⟩
    have B1 := Lib.hid hb
    clear hb hv
    go_wp2_with (fail)
    refine bodyPost_ret (v := .tuple #[.int .i64 0, .bool false]) (by simp [results, Try.results10, go_sem]) rfl ?_
    exact ⟨by rw [HV.out.1, HV.out.2], B1.out⟩
  have HV := Lib.hid hv
  go_enter Try.func10, Try.ntmps10
  go_wp2_with (fail)
  refine (call_bool (spec_validSums_any _ H0.out) hv).mono ?_
  rintro e w1 ⟨rfl, hb⟩
  have B1 := Lib.hid hb
  clear hb hv
  go_wp2_with (fail)
  go_loopw [6] (fun i wr => ∃ k : Nat, k ≤ n ∧ i = .int .i64 (k : Int) ∧ Hid (∀ j y, j < k → xs[j]? = some y → y.a ≠ key) ∧ Hid (Below w.heap.size w wr)) (fun i _ => n - (intOf i).toNat)
  case atStart => exact ⟨0, Nat.zero_le _, rfl, Lib.hid (fun j y hj => by omega), B1⟩
  case round =>
    obtain ⟨k, hk, rfl, hb, HB⟩ := hrel
    clear B1
    by_cases hlt : k < n
    · have hlt' : (k : Int) < (n : Int) := by omega
      have hk0 : (0 : Int) ≤ (k : Int) := by omega
      have hat := (H0.out.below HB.out (Nat.le_refl _)).at_ hlt
      obtain ⟨g, off, x, rfl, hx, ca, cb, cc, cd, ce⟩ := hat
      have hok := okV_in (okF_at (validS_in HV.out).2 (List.mem_of_getElem? hx))
      have hb0 : (x.b == 0) = false := by simp; omega
      have hb1 : ¬ x.b = 0 := by omega
      have BN := Lib.hid (HB.out.alloc HB.out.size (.cells #[.int .i64 x.a, .int .i64 x.b, .int .i64 x.c, .int .i64 x.d, .int .i64 x.e] 33))
      by_cases he : x.a = key
      · have he' : (x.a == key) = true := by simp [he]
        have HM : Hid (meanAt key xs = some (x.c.tdiv x.b)) := Lib.hid (meanAt_yes hx he hb.out)
        obtain ⟨q, hq⟩ : ∃ q, x.c.tdiv x.b = q := ⟨_, rfl⟩
        have hqb : 0 ≤ q ∧ q ≤ x.c := by
          have h0 : 0 ≤ x.d * x.b := Int.mul_nonneg hok.2.1.1 (by omega)
          have h1 : 0 ≤ x.c := by omega
          rw [← hq, Int.tdiv_eq_ediv_of_nonneg h1]
          exact ⟨Int.ediv_nonneg h1 (by omega), Int.ediv_le_self _ h1⟩
        have hcb : x.c ≤ 25500 := by
          have h2 := mul_bd5 (a := x.e) (b := x.b) (m := 255) (n := 100) (by omega) (by omega) (by omega) (by omega)
          omega
        have hw1 : IntKind.i64.wrap q = q := by rw [IntKind.wrap_i64]; omega
        have HQ : Hid (meV xs key = q ∧ meOK xs key = true) := Lib.hid (by
          have h := HM.out
          rw [hq] at h
          simp [meV, meOK, HV.out, h])
        clear he hx hok hqb hcb
        go_wp2_with (fail)
        go_quiet (fail)
        go_wp2_with (fail)
        refine bodyPost_ret (v := .tuple #[.int .i64 q, .bool true]) (by simp [results, Try.results10, go_sem]) rfl ?_
        exact ⟨by rw [HQ.out.1, HQ.out.2], by first | exact HB.out | exact below_drewN HB.out _⟩
      · have he' : (x.a == key) = false := by simp [he]
        have HNX : Hid (∀ j y, j < k + 1 → xs[j]? = some y → y.a ≠ key) := Lib.hid (fun j y hj hy => by
          rcases Nat.lt_or_ge j k with h1 | h1
          · exact hb.out j y h1 hy
          · have e : j = k := by omega
            subst e
            rw [hx] at hy
            injection hy with hy
            rw [← hy]; exact he)
        clear he hx hok
        go_wp2_with (fail)
        go_roundw
        case rel => exact ⟨k + 1, by omega, by first | rfl | go_num, HNX, by first | exact BN | exact HB⟩
        case measure => simp [intOf]; omega
    · have hlt' : ¬ (k : Int) < (n : Int) := by omega
      obtain rfl : k = n := by omega
      have HQ : Hid (meV xs key = 0 ∧ meOK xs key = false) := Lib.hid (by
        have h := meanAt_none (key := key) (xs := xs) (fun x hx => by
          obtain ⟨i, hi, rfl⟩ := List.getElem_of_mem hx
          exact hb.out i _ (by have := HL.out; omega) (List.getElem?_eq_getElem hi))
        simp [meV, meOK, h])
      go_wp2_with (fail)
      refine bodyPost_ret (v := .tuple #[.int .i64 0, .bool false]) (by simp [results, Try.results10, go_sem]) rfl ?_
      exact ⟨by rw [HQ.out.1, HQ.out.2], HB.out⟩
end Go.Proofs.Ytbingkkhhaknlaa
