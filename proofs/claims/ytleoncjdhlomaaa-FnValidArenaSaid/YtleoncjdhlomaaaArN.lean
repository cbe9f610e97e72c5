/-
  Contracts of arenas: the number of a block.
-/
import Derived.Test.YtleoncjdhlomaaaArI
import Derived.Test.YtleoncjdhlomaaaAr
namespace Go.Proofs.Ytleoncjdhlomaaa
open Go.RowKit

/-- The number of the first block with a name, the length for none. -/
def whereA (nm : Int) (xs : List Tr) : Nat := xs.findIdx (fun x => x.a == nm)
/-- The same as a Go function hands it back. -/
def namedA (nm : Int) (xs : List Tr) : Int := if whereA nm xs < xs.length then (whereA nm xs : Int) else -1
theorem named_at {nm : Int} {xs : List Tr} {k : Nat} {x : Tr} (h : xs[k]? = some x) (hx : x.a = nm) (hb : ∀ j, j < k → ∀ y, xs[j]? = some y → y.a ≠ nm) : namedA nm xs = (k : Int) := by
  have hk : k < xs.length := (List.getElem?_eq_some_iff.1 h).1
  have hv : xs[k] = x := (List.getElem?_eq_some_iff.1 h).2
  have e : whereA nm xs = k := by
    unfold whereA
    rw [List.findIdx_eq hk]
    refine ⟨by simp [hv, hx], fun j hj => ?_⟩
    have := hb j hj _ (List.getElem?_eq_getElem (Nat.lt_trans hj hk))
    simpa using this
  simp [namedA, e, hk]
theorem named_none {nm : Int} {xs : List Tr} (hb : ∀ j, j < xs.length → ∀ y, xs[j]? = some y → y.a ≠ nm) : namedA nm xs = -1 := by
  have e : whereA nm xs = xs.length := by
    unfold whereA
    rw [List.findIdx_eq_length]
    intro x hx
    obtain ⟨j, hj, e⟩ := List.mem_iff_getElem.1 hx
    have := hb j hj x (by rw [List.getElem?_eq_getElem hj, e])
    simpa using this
  simp [namedA, e]
theorem named_neg {nm : Int} {xs : List Tr} : namedA nm xs < 0 ↔ ¬ whereA nm xs < xs.length := by
  unfold namedA
  split <;> omega
theorem named_eq {nm : Int} {xs : List Tr} (h : whereA nm xs < xs.length) : namedA nm xs = (whereA nm xs : Int) := by
  simp [namedA, h]
set_option maxHeartbeats 1000000 in
theorem spec_named_any {A : Option Addr} {n c : Nat} {xs : List Tr} (s nm : Int) (w : World) (h : TS w A n c xs) (hn : n ≤ 1000000000) :
    Calls Try.prog 46 #[.agg #[.int .i64 s, .slice A n c], .int .i64 nm] w fun e w' => e = .returned (.int .i64 (namedA nm xs)) ∧ Below w.heap.size w w' := by
  have H := Lib.hid (h.alloc (.cells #[.int .i64 s, .slice A n c] 25))
  have B0 := Lib.hid (below_new w (.cells #[.int .i64 s, .slice A n c] 25))
  clear h
  go_enter Try.func46, Try.ntmps46
  go_wp2_with (fail)
  go_loop [5] (fun i => ∃ k : Nat, k ≤ n ∧ i = .int .i64 k ∧ Hid (∀ j, j < k → ∀ y, xs[j]? = some y → y.a ≠ nm)) (fun i => n - (intOf i).toNat)
  case atStart => exact ⟨0, Nat.zero_le _, rfl, Lib.hid (fun j hj => absurd hj (by omega))⟩
  case round =>
    obtain ⟨k, hk, rfl, hp⟩ := hrel
    by_cases hlt : k < n
    · obtain ⟨b, off, x, rfl, hx, ca, cb, cc⟩ := H.out.at_ hlt
      have HX := Lib.hid hx
      clear hx
      by_cases hv : x.a = nm
      · subst hv
        go_wp2_with (fail)
        go_ret
        exact ⟨ret_int (named_at HX.out rfl hp.out).symm, B0.out⟩
      · have hv2 : ¬ x.a = nm := hv
        go_wp2_with (fail)
        go_round
        case rel =>
          refine ⟨k + 1, by omega, by go_num, Lib.hid fun j hj y hy => ?_⟩
          rcases Nat.lt_or_ge j k with h1 | h1
          · exact hp.out j h1 y hy
          · obtain rfl : j = k := by omega
            obtain rfl : x = y := by have h2 := HX.out; rw [hy] at h2; injection h2 with h2; exact h2.symm
            exact hv2
        case measure => simp [intOf]; omega
    · go_wp2_with (fail)
      go_ret
      have ek : k = n := by omega
      subst ek
      exact ⟨ret_int (named_none fun j hj => hp.out j (by have := H.out.len; omega)).symm, B0.out⟩
set_option maxHeartbeats 1000000 in
theorem impl_placeOfName_any {A : Option Addr} {n c : Nat} {xs : List Tr} (s nm : Int) (w : World) (h : TS w A n c xs) (hn : n ≤ 1000000000) :
    Calls Try.prog 42 #[.agg #[.int .i64 s, .slice A n c], .int .i64 nm] w fun e w' => e = .returned (.int .i64 (namedA nm xs)) ∧ Below w.heap.size w w' := by
  have H := Lib.hid (h.alloc (.cells #[.int .i64 s, .slice A n c] 25))
  have B0 := Lib.hid (below_new w (.cells #[.int .i64 s, .slice A n c] 25))
  clear h
  go_enter Try.func42, Try.ntmps42
  go_wp2_with (fail)
  go_loopw [10] (fun i wr => ∃ k : Nat, k ≤ n ∧ i = .int .i64 k ∧ Hid (∀ j, j < k → ∀ y, xs[j]? = some y → y.a ≠ nm) ∧ Hid (Below w.heap.size w wr ∧ TS wr A n c xs)) (fun i _ => n - (intOf i).toNat)
  case atStart => exact ⟨0, Nat.zero_le _, rfl, Lib.hid (fun j hj => absurd hj (by omega)), Lib.hid ⟨B0.out, H.out⟩⟩
  case round =>
    obtain ⟨k, hk, rfl, hp, hB⟩ := hrel
    have hki2 : (k : Int) ≤ (n : Int) := by omega
    by_cases hlt : k < n
    · obtain ⟨b, off, x, rfl, hx, ca, cb, cc⟩ := hB.out.2.at_ hlt
      have hki : (k : Int) < (n : Int) := by omega
      have HX := Lib.hid hx
      clear hx
      have B2 := Lib.hid (hB.out.1.alloc hB.out.1.size (.cells #[.int .i64 x.a, .int .i64 x.b, .int .i64 x.c] 39))
      have T2 := Lib.hid (hB.out.2.alloc (.cells #[.int .i64 x.a, .int .i64 x.b, .int .i64 x.c] 39))
      clear hB
      by_cases hv : x.a = nm
      · subst hv
        go_wp2_with (fail)
        go_ret
        exact ⟨ret_int (named_at HX.out rfl hp.out).symm, B2.out⟩
      · have hv2 : ¬ x.a = nm := hv
        go_wp2_with (fail)
        go_roundw
        case rel =>
          refine ⟨k + 1, by omega, by go_num, Lib.hid fun j hj y hy => ?_, Lib.hid ⟨B2.out, T2.out⟩⟩
          rcases Nat.lt_or_ge j k with h1 | h1
          · exact hp.out j h1 y hy
          · obtain rfl : j = k := by omega
            obtain rfl : x = y := by have h2 := HX.out; rw [hy] at h2; injection h2 with h2; exact h2.symm
            exact hv2
        case measure => simp [intOf]; omega
    · go_wp2_with (fail)
      go_ret
      have ek : k = n := by omega
      subst ek
      exact ⟨ret_int (named_none fun j hj => hp.out j (by have := H.out.len; omega)).symm, hB.out.1⟩
end Go.Proofs.Ytleoncjdhlomaaa
