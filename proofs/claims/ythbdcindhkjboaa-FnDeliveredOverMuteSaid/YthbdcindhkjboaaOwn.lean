/-
  Contracts of the functions that make, mark or check integers of the call's own.
-/
import Derived.Test.YthbdcindhkjboaaInt
namespace Go.Proofs.Ythbdcindhkjboaa
open Go.RowKit

theorem infoInt : (Try.prog.info? 3).map (fun i => (i.zero, i.size, i.bytes)) = some (some (.int .i64 0), 1, 8) := by kernel_rfl

set_option maxHeartbeats 1000000 in
theorem laws_toIntS_any {A : Option Addr} {n c : Nat} {xs : List Int} (w : World) (h : IS w A n c xs) (hn : n ≤ 1073741824) :
    Calls Try.prog 10 #[.slice A n c] w (GaveInts 3 w xs) := by
  obtain ⟨i0, hi, hz0, hz1, hz2⟩ := info_parts infoInt
  have hm : n ≤ maxLen := by simp only [maxLen]; omega
  have hl := h.len
  have HL := Lib.hid hl
  clear hl
  have H := Lib.hid h
  clear h
  have hb2 : i0.bytes * n ≤ 281474976710656 := by rw [hz2]; omega
  have HB := Lib.hid hb2
  clear hb2
  have HZ := Lib.hid hz2
  have HZ1 := Lib.hid hz1
  have HZ0 := Lib.hid hz0
  have HI := Lib.hid hi
  clear hz0 hz1 hz2 hi
  go_enter Try.func10, Try.ntmps10
  go_wp2_with (at_make; refine wpList_make_full _ rfl _ _ 22 rfl w.heap.size 3 i0 (.int .i64 0) 1 Try.underlying22 HI.out HZ0.out HZ1.out .i64 .i64 _ _ n rfl rfl rfl rfl HB.out hm (Nat.le_refl _) ?_; intro w1 hown1 hgr1)
  have hbel : Below w.heap.size w w1 := (Below.refl _ _).grown hgr1 (Nat.le_refl _) (by simp)
  have hown2 : w1.ownsRow w.heap.size 3 1 (.slice (some ⟨w.heap.size, 0, none⟩) n n) n ((xs.take 0).map (Value.int .i64) ++ List.replicate (n - 0) (.int .i64 0)) := by
    rw [← fill_start]
    have e : (madeCells (Value.int .i64 0).cells (n * 1)).toList = List.replicate n (.int .i64 0) := by
      rw [Nat.mul_one]
      exact toList_madeCells_one _ _
    rw [← e]
    exact hown1
  clear hown1 hgr1
  have HO := Lib.hid hown2
  clear hown2
  go_loopw [4] (fun i wr => ∃ k : Nat, k ≤ n ∧ i = .int .i64 k ∧ Hid (wr.ownsRow w.heap.size 3 1 (.slice (some ⟨w.heap.size, 0, none⟩) n n) n ((xs.take k).map (Value.int .i64) ++ List.replicate (n - k) (.int .i64 0))) ∧ Below w.heap.size w wr) (fun i _ => n - (intOf i).toNat)
  case atStart => exact ⟨0, Nat.zero_le _, rfl, HO, hbel⟩
  case round =>
    obtain ⟨k, hk, rfl, ho, hb⟩ := hrel
    clear hbel HO
    by_cases hlt : k < n
    · obtain ⟨b, off, v, rfl, hx, hc⟩ := (H.out.below hb (Nat.le_refl _)).at_ hlt
      have HX := Lib.hid hx
      clear hx
      have hd : wr.cell? ⟨w.heap.size, k, none⟩ = some (.int .i64 0) := (World.ownsRow.cellAt ho.out k (by omega)).trans (fill_at HL.out hlt)
      have hf : wr.frozen? ⟨w.heap.size, k, none⟩ = false := World.ownsRow.frozenAt ho.out k
      go_wp2_with (fail)
      go_roundw
      case rel =>
        refine ⟨k + 1, by omega, by go_num, Lib.hid ?_, hb.setCell (Nat.le_refl _) _⟩
        rw [← fill_step HL.out hlt HX.out]
        exact (World.ownsRow.stored ho.out k _).1
      case measure => simp [intOf]; omega
    · go_wp2_with (fail)
      go_ret
      have ht := ho.out
      have ek : k = n := by omega
      subst ek
      rw [fill_end HL.out] at ht
      exact ⟨_, _, _, rfl, ht, hb⟩
set_option maxHeartbeats 1000000 in
theorem laws_markIntS_any {base : Nat} {A : Option Addr} {n c : Nat} {xs : List Int} (k : Int) (w : World) (h : OW w 3 base A n c xs) (hn : n ≤ 1073741824) (hk0 : 0 ≤ k) (hk1 : k ≤ 1099511627776) :
    Calls Try.prog 13 #[.slice A n c, .int .i64 k] w fun e w' => e = .returned (.int .i64 (k + n)) ∧ OW w' 3 base A n c (marks k n) ∧ Row w w' A := by
  have hl := h.len
  have HL := Lib.hid hl
  clear hl
  have H := Lib.hid h
  clear h
  go_enter Try.func13, Try.ntmps13
  go_wp2_with (fail)
  go_loopw [1, 5] (fun t i wr => ∃ j : Nat, j ≤ n ∧ t = .int .i64 (k + (j : Int)) ∧ i = .int .i64 j ∧ Hid (OW wr 3 base A n c (marks k j ++ xs.drop j) ∧ Row w wr A)) (fun _ i _ => n - (intOf i).toNat)
  case atStart => exact ⟨0, Nat.zero_le _, by go_num, rfl, Lib.hid ⟨by rw [← mark_start]; exact H.out, Row.refl _ _⟩⟩
  case round =>
    obtain ⟨j, hj, rfl, rfl, ho⟩ := hrel
    by_cases hlt : j < n
    · obtain ⟨g, rfl, hg1, hg2⟩ := ho.out.1.pos (by omega)
      obtain ⟨_, _, v, e0, _, hc⟩ := ho.out.1.is.at_ hlt
      simp only [Option.some.injEq, Addr.mk.injEq, and_true] at e0
      obtain ⟨rfl, rfl⟩ := e0
      rw [Nat.zero_add] at hc
      have hf : wr.frozen? ⟨g, j, none⟩ = false := World.ownsRow.frozenAt ho.out.1 j
      go_wp2_with (fail)
      go_roundw
      case rel =>
        refine ⟨j + 1, by omega, by go_num, by go_num, Lib.hid ⟨?_, ?_⟩⟩
        · unfold OW
          rw [← mark_step (by have := HL.out; omega)]
          exact (World.ownsRow.stored ho.out.1 j _).1
        · exact ho.out.2.trans (World.ownsRow.stored ho.out.1 j _).2
      case measure => simp [intOf]; omega
    · go_wp2_with (fail)
      go_ret
      have ek : j = n := by omega
      subst ek
      have h2 := ho.out.1
      rw [mark_end HL.out] at h2
      exact ⟨rfl, h2, ho.out.2⟩
set_option maxHeartbeats 1000000 in
theorem laws_heldIntS_any {A : Option Addr} {n c : Nat} (k : Int) (w : World) (h : IS w A n c (marks k n)) (hn : n ≤ 1073741824) (hk0 : 0 ≤ k) (hk1 : k ≤ 1099511627776) :
    Calls Try.prog 14 #[.slice A n c, .int .i64 k] w fun e w' => e = .returned (.int .i64 (k + n)) ∧ w = w' := by
  have H := Lib.hid h
  clear h
  go_enter Try.func14, Try.ntmps14
  go_wp2_with (fail)
  go_loop [1, 5] (fun t i => ∃ j : Nat, j ≤ n ∧ t = .int .i64 (k + (j : Int)) ∧ i = .int .i64 j) (fun _ i => n - (intOf i).toNat)
  case atStart => exact ⟨0, Nat.zero_le _, by go_num, rfl⟩
  case round =>
    obtain ⟨j, hj, rfl, rfl⟩ := hrel
    by_cases hlt : j < n
    · obtain ⟨b, off, v, rfl, hx, hc⟩ := H.out.at_ hlt
      rw [marks_at hlt] at hx
      obtain rfl : k + (j : Int) = v := by injection hx
      clear hx
      have hne : (k + (j : Int) != k + (j : Int)) = false := by simp
      go_wp2_with (fail)
      go_round
      case rel => exact ⟨j + 1, by omega, by go_num, by go_num⟩
      case measure => simp [intOf]; omega
    · go_wp2_with (fail)
      go_ret
      have ek : j = n := by omega
      subst ek
      exact ⟨rfl, rfl⟩
/-- What is left of a size, -1 if it is too great. -/
def szL (left : Int) (n : Nat) : Int := if left < (n : Int) then -1 else left - n
theorem szL_lo {left : Int} {n : Nat} (h : left < (n : Int)) : szL left n = -1 := if_pos h
theorem szL_hi {left : Int} {n : Nat} (h : (n : Int) ≤ left) : szL left n = left - n := if_neg (by omega)
end Go.Proofs.Ythbdcindhkjboaa
