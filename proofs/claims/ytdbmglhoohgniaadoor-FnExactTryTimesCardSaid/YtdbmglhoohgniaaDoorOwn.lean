/-
  Contracts of the functions that make, mark or check integers of the call's own.
-/
import Derived.Test.YtdbmglhoohgniaaDoorInt
namespace Go.Proofs.YtdbmglhoohgniaaDoor
open Go.RowKit

theorem infoInt : (Tryd.prog.info? 3).map (fun i => (i.zero, i.size, i.bytes)) = some (some (.int .i64 0), 1, 8) := by kernel_rfl

set_option maxHeartbeats 1000000 in
theorem laws_markIntS_any {base : Nat} {A : Option Addr} {n c : Nat} {xs : List Int} (k : Int) (w : World) (h : OW w 3 base A n c xs) (hn : n ≤ 1073741824) (hk0 : 0 ≤ k) (hk1 : k ≤ 1099511627776) :
    Calls Tryd.prog 23 #[.slice A n c, .int .i64 k] w fun e w' => e = .returned (.int .i64 (k + n)) ∧ OW w' 3 base A n c (marks k n) ∧ Row w w' A := by
  have hl := h.len
  have HL := Lib.hid hl
  clear hl
  have H := Lib.hid h
  clear h
  go_enter Tryd.func23, Tryd.ntmps23
  go_wp2_with (fail)
  go_loopw [1, 5] (fun t i wr => ∃ j : Nat, j ≤ n ∧ t = .int .i64 (k + (j : Int)) ∧ i = .int .i64 j ∧ Hid (OW wr 3 base A n c (marks k j ++ xs.drop j) ∧ Row w wr A)) (fun _ i _ => n - (intOf i).toNat)
  case atStart => exact ⟨0, Nat.zero_le _, by go_num, rfl, Lib.hid ⟨by rw [← mark_start]; exact H.out, Row.refl _ _⟩⟩
  case round =>
    obtain ⟨j, hj, rfl, rfl, ho⟩ := hrel
    by_cases hlt : j < n
    · obtain ⟨g, rfl, hg1, hg2⟩ := ho.out.1.pos (by omega)
      obtain ⟨_, _, v, e0, _, hc⟩ := ho.out.1.is.at_ hlt
      simp only [Option.some.injEq, Addr.mk.injEq, and_true] at e0
      obtain ⟨rfl, rfl⟩ := e0
      rw [Nat.zero_add] at hc
      have hf : wr.frozen? ⟨g, j, none⟩ = false := World.ownsRow.frozenAt ho.out.1 j
      go_wp2_with (fail)
      go_roundw
      case rel =>
        refine ⟨j + 1, by omega, by go_num, by go_num, Lib.hid ⟨?_, ?_⟩⟩
        · unfold OW
          rw [← mark_step (by have := HL.out; omega)]
          exact (World.ownsRow.stored ho.out.1 j _).1
        · exact ho.out.2.trans (World.ownsRow.stored ho.out.1 j _).2
      case measure => simp [intOf]; omega
    · go_wp2_with (fail)
      go_ret
      have ek : j = n := by omega
      subst ek
      have h2 := ho.out.1
      rw [mark_end HL.out] at h2
      exact ⟨rfl, h2, ho.out.2⟩
set_option maxHeartbeats 1000000 in
theorem laws_heldIntS_any {A : Option Addr} {n c : Nat} (k : Int) (w : World) (h : IS w A n c (marks k n)) (hn : n ≤ 1073741824) (hk0 : 0 ≤ k) (hk1 : k ≤ 1099511627776) :
    Calls Tryd.prog 24 #[.slice A n c, .int .i64 k] w fun e w' => e = .returned (.int .i64 (k + n)) ∧ w = w' := by
  have H := Lib.hid h
  clear h
  go_enter Tryd.func24, Tryd.ntmps24
  go_wp2_with (fail)
  go_loop [1, 5] (fun t i => ∃ j : Nat, j ≤ n ∧ t = .int .i64 (k + (j : Int)) ∧ i = .int .i64 j) (fun _ i => n - (intOf i).toNat)
  case atStart => exact ⟨0, Nat.zero_le _, by go_num, rfl⟩
  case round =>
    obtain ⟨j, hj, rfl, rfl⟩ := hrel
    by_cases hlt : j < n
    · obtain ⟨b, off, v, rfl, hx, hc⟩ := H.out.at_ hlt
      rw [marks_at hlt] at hx
      obtain rfl : k + (j : Int) = v := by injection hx
      clear hx
      have hne : (k + (j : Int) != k + (j : Int)) = false := by simp
      go_wp2_with (fail)
      go_round
      case rel => exact ⟨j + 1, by omega, by go_num, by go_num⟩
      case measure => simp [intOf]; omega
    · go_wp2_with (fail)
      go_ret
      have ek : j = n := by omega
      subst ek
      exact ⟨rfl, rfl⟩
/-- What is left of a size, -1 if it is too great. -/
def szL (left : Int) (n : Nat) : Int := if left < (n : Int) then -1 else left - n
theorem szL_lo {left : Int} {n : Nat} (h : left < (n : Int)) : szL left n = -1 := if_pos h
theorem szL_hi {left : Int} {n : Nat} (h : (n : Int) ≤ left) : szL left n = left - n := if_neg (by omega)
end Go.Proofs.YtdbmglhoohgniaaDoor
