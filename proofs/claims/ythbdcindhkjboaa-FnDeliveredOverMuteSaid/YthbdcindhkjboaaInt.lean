/-
  Contracts of the functions that only read integers and slices of integers.
-/
import Derived.Test.YthbdcindhkjboaaBase
import Derived.Test.YthbdcindhkjboaaProg
import Derived.Deep.QuietTactic
import Derived.BigQuiet
namespace Go.Proofs.Ythbdcindhkjboaa
open Go.RowKit

/-- A number is in a range. -/
def inR (n lo hi : Int) : Bool := decide (lo ≤ n ∧ n ≤ hi)
theorem inR_t {n lo hi : Int} (h1 : lo ≤ n) (h2 : n ≤ hi) : inR n lo hi = true := by simp [inR, h1, h2]
theorem inR_l {n lo hi : Int} (h1 : n < lo) : inR n lo hi = false := by simp [inR]; omega
theorem inR_h {n lo hi : Int} (h1 : hi < n) : inR n lo hi = false := by simp [inR]; omega
theorem inR_iff {n lo hi : Int} : inR n lo hi = true ↔ lo ≤ n ∧ n ≤ hi := by simp [inR]

theorem spec_inRange_any (n lo hi : Int) (w : World) :
    Calls Try.prog 35 #[.int .i64 n, .int .i64 lo, .int .i64 hi] w fun e w' => e = .returned (.bool (inR n lo hi)) ∧ w = w' := by
  rcases Int.lt_or_le n lo with h1 | h1
  · go_enter Try.func35, Try.ntmps35
    go_wp2
    go_ret
    exact ⟨ret_bool (inR_l h1).symm, rfl⟩
  · rcases Int.lt_or_le hi n with h2 | h2
    · go_enter Try.func35, Try.ntmps35
      go_wp2
      go_ret
      exact ⟨ret_bool (by rw [inR_h h2]; simp; omega), rfl⟩
    · go_enter Try.func35, Try.ntmps35
      go_wp2
      go_ret
      exact ⟨ret_bool (inR_t h1 h2).symm, rfl⟩
theorem impl_within_any (n lo hi : Int) (w : World) :
    Calls Try.prog 41 #[.int .i64 n, .int .i64 lo, .int .i64 hi] w fun e w' => e = .returned (.bool (inR n lo hi)) ∧ w = w' := by
  rcases Int.lt_or_le n lo with h1 | h1
  · go_enter Try.func41, Try.ntmps41
    go_wp2
    go_ret
    exact ⟨ret_bool (inR_l h1).symm, rfl⟩
  · rcases Int.lt_or_le hi n with h2 | h2
    · go_enter Try.func41, Try.ntmps41
      go_wp2
      go_ret
      exact ⟨ret_bool (by rw [inR_h h2]; simp; omega), rfl⟩
    · go_enter Try.func41, Try.ntmps41
      go_wp2
      go_ret
      exact ⟨ret_bool (inR_t h1 h2).symm, rfl⟩

/-- All numbers are in a range. -/
def allR (xs : List Int) (lo hi : Int) : Bool := xs.all fun n => inR n lo hi
theorem allR_bad {xs : List Int} {lo hi v : Int} {k : Nat} (h : xs[k]? = some v) (hv : inR v lo hi = false) : allR xs lo hi = false := by
  unfold allR
  rw [List.all_eq_false]
  exact ⟨v, List.mem_of_getElem? h, by simp [hv]⟩
theorem allR_snoc {xs : List Int} {lo hi v : Int} {k : Nat} (h : xs[k]? = some v) (ha : allR (xs.take k) lo hi = true) (hv : inR v lo hi = true) : allR (xs.take (k + 1)) lo hi = true := by
  unfold allR at ha ⊢
  have hk : k < xs.length := (List.getElem?_eq_some_iff.1 h).1
  have hx : xs[k] = v := (List.getElem?_eq_some_iff.1 h).2
  rw [List.take_succ_eq_append_getElem hk, List.all_append, ha, hx]
  simp [hv]
set_option maxHeartbeats 400000 in
theorem spec_allIn_any {A : Option Addr} {n c : Nat} {xs : List Int} (lo hi : Int) (w : World) (h : IS w A n c xs) :
    Calls Try.prog 34 #[.slice A n c, .int .i64 lo, .int .i64 hi] w fun e w' => e = .returned (.bool (allR xs lo hi)) ∧ w = w' := by
  have hcap := h.cap
  have H := Lib.hid h
  clear h
  go_enter Try.func34, Try.ntmps34
  go_wp2
  go_loop [7] (fun i => ∃ k : Nat, k ≤ n ∧ i = .int .i64 k ∧ Hid (allR (xs.take k) lo hi = true)) (fun i => n - (intOf i).toNat)
  case atStart => exact ⟨0, Nat.zero_le _, rfl, Lib.hid (by simp [allR])⟩
  case round =>
    obtain ⟨k, hk, rfl, ha⟩ := hrel
    by_cases hlt : k < n
    · obtain ⟨b, off, v, rfl, hx, hc⟩ := H.out.at_ hlt
      have HX := Lib.hid hx
      clear hx
      rcases hb : inR v lo hi with _ | _
      · go_wp2_with (go_at_call 35; refine (spec_inRange_any _ _ _ _).mono ?_; rintro e w' ⟨rfl, rfl⟩)
        go_ret
        exact ⟨ret_bool (allR_bad HX.out hb).symm, rfl⟩
      · go_wp2_with (go_at_call 35; refine (spec_inRange_any _ _ _ _).mono ?_; rintro e w' ⟨rfl, rfl⟩)
        go_round
        case rel => exact ⟨k + 1, by omega, by go_num, Lib.hid (allR_snoc HX.out ha.out hb)⟩
        case measure => simp [intOf]; omega
    · go_wp2_with (fail)
      go_ret
      have hl := H.out.len
      have ht := ha.out
      rw [List.take_of_length_le (by omega)] at ht
      exact ⟨ret_bool ht.symm, rfl⟩

/-- At most some numbers, all of which may stand in a frame. -/
def okB (xs : List Int) (most : Int) : Bool := decide ((xs.length : Int) ≤ most) && allR xs 0 255
theorem okB_long {xs : List Int} {most : Int} (h : most < (xs.length : Int)) : okB xs most = false := by simp [okB]; omega
theorem okB_short {xs : List Int} {most : Int} (h : (xs.length : Int) ≤ most) : okB xs most = allR xs 0 255 := by simp [okB, h]
set_option maxHeartbeats 400000 in
theorem impl_allWithin_any {A : Option Addr} {n c : Nat} {xs : List Int} (lo hi : Int) (w : World) (h : IS w A n c xs) :
    Calls Try.prog 40 #[.slice A n c, .int .i64 lo, .int .i64 hi] w fun e w' => e = .returned (.bool (allR xs lo hi)) ∧ w = w' := by
  have hcap := h.cap
  have H := Lib.hid h
  clear h
  go_enter Try.func40, Try.ntmps40
  go_wp2_with (fail)
  go_loop [11] (fun i => ∃ k : Nat, k ≤ n ∧ i = .int .i64 k ∧ Hid (allR (xs.take k) lo hi = true)) (fun i => n - (intOf i).toNat)
  case atStart => exact ⟨0, Nat.zero_le _, rfl, Lib.hid (by simp [allR])⟩
  case round =>
    obtain ⟨k, hk, rfl, ha⟩ := hrel
    by_cases hlt : k < n
    · obtain ⟨b, off, v, rfl, hx, hc⟩ := H.out.at_ hlt
      have HX := Lib.hid hx
      clear hx
      rcases hb : inR v lo hi with _ | _
      · go_wp2_with (go_at_call 41; refine (impl_within_any _ _ _ _).mono ?_; rintro e w' ⟨rfl, rfl⟩)
        go_ret
        exact ⟨ret_bool (allR_bad HX.out hb).symm, rfl⟩
      · go_wp2_with (go_at_call 41; refine (impl_within_any _ _ _ _).mono ?_; rintro e w' ⟨rfl, rfl⟩)
        go_round
        case rel => exact ⟨k + 1, by omega, by go_num, Lib.hid (allR_snoc HX.out ha.out hb)⟩
        case measure => simp [intOf]; omega
    · go_wp2_with (fail)
      go_ret
      have hl := H.out.len
      have ht := ha.out
      rw [List.take_of_length_le (by omega)] at ht
      exact ⟨ret_bool ht.symm, rfl⟩

/-- The check of numbers. -/
def chk (xs : List Int) : Int := xs.foldl (fun a n => (31 * a + n) % 251) 17
theorem chk_bd (xs : List Int) : 0 ≤ chk xs ∧ chk xs ≤ 250 := by
  have h : ∀ (l : List Int) (a : Int), 0 ≤ a ∧ a ≤ 250 → 0 ≤ l.foldl (fun a n => (31 * a + n) % 251) a ∧ l.foldl (fun a n => (31 * a + n) % 251) a ≤ 250 := by
    intro l
    induction l with
    | nil => intro a ha; exact ha
    | cons x l ih => intro a ha; exact ih _ (by show 0 ≤ (31 * a + x) % 251 ∧ (31 * a + x) % 251 ≤ 250; omega)
  exact h xs 17 (by omega)
theorem chk_snoc {xs : List Int} {v : Int} {k : Nat} (h : xs[k]? = some v) : chk (xs.take (k + 1)) = (31 * chk (xs.take k) + v) % 251 := by
  have hk : k < xs.length := (List.getElem?_eq_some_iff.1 h).1
  have hx : xs[k] = v := (List.getElem?_eq_some_iff.1 h).2
  unfold chk
  rw [List.take_succ_eq_append_getElem hk, List.foldl_append, hx]
  rfl
theorem allR_at {xs : List Int} {lo hi v : Int} {k : Nat} (h : xs[k]? = some v) (ha : allR xs lo hi = true) : lo ≤ v ∧ v ≤ hi := by
  unfold allR at ha
  exact inR_iff.1 (List.all_eq_true.1 ha v (List.mem_of_getElem? h))
/-- The check of numbers that a stream may have, else -1. -/
def chkOf (xs : List Int) : Int := if okB xs 60 = true then chk xs else -1

theorem take_eq_snoc {xs ys : List Int} {k : Nat} {v : Int} (hx : xs[k]? = some v) (hy : ys[k]? = some v) (h : xs.take k = ys.take k) : xs.take (k + 1) = ys.take (k + 1) := by
  have hk : k < xs.length := (List.getElem?_eq_some_iff.1 hx).1
  have hk' : k < ys.length := (List.getElem?_eq_some_iff.1 hy).1
  have e1 : xs[k] = v := (List.getElem?_eq_some_iff.1 hx).2
  have e2 : ys[k] = v := (List.getElem?_eq_some_iff.1 hy).2
  rw [List.take_succ_eq_append_getElem hk, List.take_succ_eq_append_getElem hk', h, e1, e2]
theorem eq_no {xs ys : List Int} {k : Nat} {v u : Int} (hx : xs[k]? = some v) (hy : ys[k]? = some u) (h : v ≠ u) : decide (xs = ys) = false := by
  apply decide_eq_false
  rintro rfl
  rw [hx] at hy
  exact h (by injection hy)
set_option maxHeartbeats 800000 in
theorem laws_eqIntS_any {A A' : Option Addr} {n c n' c' : Nat} {xs ys : List Int} (w : World) (h : IS w A n c xs) (h' : IS w A' n' c' ys) :
    Calls Try.prog 12 #[.slice A n c, .slice A' n' c'] w fun e w' => e = .returned (.bool (decide (xs = ys))) ∧ ∃ m, w' = w.drewN m := by
  have hcap := h.cap
  have hl := h.len
  have hl' := h'.len
  by_cases hn : n = n'
  · subst hn
    have HL := Lib.hid hl
    have HL' := Lib.hid hl'
    clear hl hl'
    have H := Lib.hid h
    have H' := Lib.hid h'
    clear h h'
    go_enter Try.func12, Try.ntmps12
    go_wp2_with (fail)
    go_loopw [5] (fun i wr => ∃ k : Nat, ∃ m : Nat, k ≤ n ∧ i = .int .i64 k ∧ wr = w.drewN m ∧ Hid (xs.take k = ys.take k)) (fun i _ => n - (intOf i).toNat)
    case atStart => exact ⟨0, 0, Nat.zero_le _, rfl, rfl, Lib.hid (by simp)⟩
    case round =>
      obtain ⟨k, m, hk, rfl, rfl, ha⟩ := hrel
      by_cases hlt : k < n
      · obtain ⟨b, off, v, rfl, hx, hc⟩ := H.out.at_ hlt
        obtain ⟨b', off', v', rfl, hx', hc'⟩ := H'.out.at_ hlt
        have HX := Lib.hid hx
        have HX' := Lib.hid hx'
        clear hx hx'
        have hi1 : (k : Int) < (n : Int) := by omega
        by_cases hv : v = v'
        · subst hv
          have hne : (v != v) = false := by simp
          go_wp2_with (fail)
          go_quiet (fail)
          go_wp2_with (fail)
          go_roundw
          case rel => exact ⟨k + 1, _, by omega, by go_num, rfl, Lib.hid (take_eq_snoc HX.out HX'.out ha.out)⟩
          case measure => simp [intOf]; omega
        · have hne : (v != v') = true := by simpa using hv
          go_wp2_with (fail)
          go_quiet (fail)
          go_wp2_with (fail)
          go_ret
          exact ⟨ret_bool (eq_no HX.out HX'.out hv).symm, _, World.drewN_drewN _ _ _⟩
      · go_wp2_with (fail)
        go_ret
        have ht := ha.out
        rw [List.take_of_length_le (by have := HL.out; omega), List.take_of_length_le (by have := HL'.out; omega)] at ht
        exact ⟨ret_bool (decide_eq_true ht).symm, _, rfl⟩
  · have hne : ((n : Int) != (n' : Int)) = true := by simp; omega
    have hxy : decide (xs = ys) = false := decide_eq_false (by rintro rfl; omega)
    have HL := Lib.hid hxy
    clear hxy hl hl' h h'
    go_enter Try.func12, Try.ntmps12
    go_wp2_with (fail)
    go_ret
    exact ⟨ret_bool HL.out.symm, 0, rfl⟩
set_option maxHeartbeats 800000 in
theorem laws_equalInts_any {A A' : Option Addr} {n c n' c' : Nat} {xs ys : List Int} (w : World) (h : IS w A n c xs) (h' : IS w A' n' c' ys) :
    Calls Try.prog 16 #[.slice A n c, .slice A' n' c'] w fun e w' => e = .returned (.bool (decide (xs = ys))) ∧ ∃ m, w' = w.drewN m := by
  have hcap := h.cap
  have hl := h.len
  have hl' := h'.len
  by_cases hn : n = n'
  · subst hn
    have HL := Lib.hid hl
    have HL' := Lib.hid hl'
    clear hl hl'
    have H := Lib.hid h
    have H' := Lib.hid h'
    clear h h'
    go_enter Try.func16, Try.ntmps16
    go_wp2_with (fail)
    go_loopw [5] (fun i wr => ∃ k : Nat, ∃ m : Nat, k ≤ n ∧ i = .int .i64 k ∧ wr = w.drewN m ∧ Hid (xs.take k = ys.take k)) (fun i _ => n - (intOf i).toNat)
    case atStart => exact ⟨0, 0, Nat.zero_le _, rfl, rfl, Lib.hid (by simp)⟩
    case round =>
      obtain ⟨k, m, hk, rfl, rfl, ha⟩ := hrel
      by_cases hlt : k < n
      · obtain ⟨b, off, v, rfl, hx, hc⟩ := H.out.at_ hlt
        obtain ⟨b', off', v', rfl, hx', hc'⟩ := H'.out.at_ hlt
        have HX := Lib.hid hx
        have HX' := Lib.hid hx'
        clear hx hx'
        have hi1 : (k : Int) < (n : Int) := by omega
        by_cases hv : v = v'
        · subst hv
          have hne : (v != v) = false := by simp
          go_wp2_with (fail)
          go_quiet (fail)
          go_wp2_with (fail)
          go_roundw
          case rel => exact ⟨k + 1, _, by omega, by go_num, rfl, Lib.hid (take_eq_snoc HX.out HX'.out ha.out)⟩
          case measure => simp [intOf]; omega
        · have hne : (v != v') = true := by simpa using hv
          go_wp2_with (fail)
          go_quiet (fail)
          go_wp2_with (fail)
          go_ret
          exact ⟨ret_bool (eq_no HX.out HX'.out hv).symm, _, World.drewN_drewN _ _ _⟩
      · go_wp2_with (fail)
        go_ret
        have ht := ha.out
        rw [List.take_of_length_le (by have := HL.out; omega), List.take_of_length_le (by have := HL'.out; omega)] at ht
        exact ⟨ret_bool (decide_eq_true ht).symm, _, rfl⟩
  · have hne : ((n : Int) != (n' : Int)) = true := by simp; omega
    have hxy : decide (xs = ys) = false := decide_eq_false (by rintro rfl; omega)
    have HL := Lib.hid hxy
    clear hxy hl hl' h h'
    go_enter Try.func16, Try.ntmps16
    go_wp2_with (fail)
    go_ret
    exact ⟨ret_bool HL.out.symm, 0, rfl⟩
end Go.Proofs.Ythbdcindhkjboaa
