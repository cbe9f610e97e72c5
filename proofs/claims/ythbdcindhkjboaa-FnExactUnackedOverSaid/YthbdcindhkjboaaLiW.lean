/-
  Marks in integers that may begin behind their block's beginning.
-/
import Derived.Test.YthbdcindhkjboaaLiV
namespace Go.Proofs.Ythbdcindhkjboaa
open Go.RowKit
theorem QS.stored {w : World} {T base g off n c j : Nat} {xs : List Int} (h : QS w T base (some ⟨g, off, none⟩) n c xs) (hj : j < n) (v : Int) :
    QS (w.setCell ⟨g, off + j, none⟩ (.int .i64 v)) T base (some ⟨g, off, none⟩) n c (xs.set j v) := by
  obtain ⟨hl, h1 | ⟨g', off', cs, e, hb, hk, hc, hn, hm, hx⟩⟩ := h
  · cases h1.1
  · simp only [Option.some.injEq, Addr.mk.injEq, and_true] at e
    obtain ⟨rfl, rfl⟩ := e
    refine ⟨by rw [List.length_set]; exact hl, .inr ⟨g, off, _, rfl, hb, hk.set_ (off + j) _, by simpa using hc, hn, hm, fun i hi => ?_⟩⟩
    rw [List.getD_eq_getElem?_getD]
    by_cases hij : j = i
    · subst hij
      rw [List.getElem?_set_self (by omega), Array.getElem?_setIfInBounds_self_of_lt (by omega)]
      rfl
    · rw [List.getElem?_set_ne hij, Array.getElem?_setIfInBounds_ne (by omega), hx i hi, List.getD_eq_getElem?_getD]
theorem QS.frozen {w : World} {T base g off n c : Nat} {xs : List Int} (h : QS w T base (some ⟨g, off, none⟩) n c xs) (j : Nat) : w.frozen? ⟨g, j, none⟩ = false := by
  obtain ⟨hl, h1 | ⟨g', off', cs, e, hb, hk, _⟩⟩ := h
  · cases h1.1
  · simp only [Option.some.injEq, Addr.mk.injEq, and_true] at e
    obtain ⟨rfl, rfl⟩ := e
    exact hk.frozen _
set_option maxHeartbeats 1000000 in
theorem laws_markIntS_q {base : Nat} {A : Option Addr} {n c : Nat} {xs : List Int} (k : Int) (w : World) (h : QS w 3 base A n c xs) (hn : n ≤ 1073741824) (hk0 : 0 ≤ k) (hk1 : k ≤ 1099511627776) :
    Calls Try.prog 13 #[.slice A n c, .int .i64 k] w fun e w' => e = .returned (.int .i64 (k + n)) ∧ QS w' 3 base A n c (marks k n) ∧ Row w w' A := by
  have hl := h.len
  have HL := Lib.hid hl
  clear hl
  have H := Lib.hid h
  clear h
  go_enter Try.func13, Try.ntmps13
  go_wp2_with (fail)
  go_loopw [1, 5] (fun t i wr => ∃ j : Nat, j ≤ n ∧ t = .int .i64 (k + (j : Int)) ∧ i = .int .i64 j ∧ Hid (QS wr 3 base A n c (marks k j ++ xs.drop j) ∧ Row w wr A)) (fun _ i _ => n - (intOf i).toNat)
  case atStart => exact ⟨0, Nat.zero_le _, by go_num, rfl, Lib.hid ⟨by simpa [marks] using H.out, Row.refl _ _⟩⟩
  case round =>
    obtain ⟨j, hj, rfl, rfl, ho⟩ := hrel
    by_cases hlt : j < n
    · obtain ⟨g, off, v, rfl, hv, hc⟩ := ho.out.1.is.at_ hlt
      have hf : wr.frozen? ⟨g, off + j, none⟩ = false := ho.out.1.frozen _
      clear hv
      go_wp2_with (fail)
      go_roundw
      case rel =>
        refine ⟨j + 1, by omega, by go_num, by go_num, Lib.hid ⟨?_, ?_⟩⟩
        · have h2 := ho.out.1.stored hlt (k + (j : Int))
          have hl := HL.out
          have e : (marks k j ++ xs.drop j).set j (k + (j : Int)) = marks k (j + 1) ++ xs.drop (j + 1) := by
            have hm : (marks k j).length = j := by simp [marks]
            rw [List.set_append_right _ _ (by omega), hm, Nat.sub_self, List.drop_eq_getElem_cons (by omega), List.set_cons_zero]
            simp [marks, List.range_succ]
          rw [e] at h2
          exact h2
        · exact World.grownBy.trans ho.out.2 ⟨rfl, rfl, rfl, by simp [World.setCell], fun i _ hne => Below.heap_setCell _ _ _ i (fun e => hne (by rw [e]; rfl))⟩
      case measure => simp [intOf]; omega
    · go_wp2_with (fail)
      go_ret
      have ek : j = n := by omega
      subst ek
      have h2 := ho.out.1
      rw [List.drop_of_length_le (by have := HL.out; omega), List.append_nil] at h2
      exact ⟨rfl, h2, ho.out.2⟩
end Go.Proofs.Ythbdcindhkjboaa
