/-
  Contracts of the functions that make, mark or check integers of the call's own.
-/
import Derived.Test.YtcbphifadokfeaaInt
namespace Go.Proofs.Ytcbphifadokfeaa
open Go.RowKit

theorem infoInt : (Try.prog.info? 3).map (fun i => (i.zero, i.size, i.bytes)) = some (some (.int .i64 0), 1, 8) := by kernel_rfl

set_option maxHeartbeats 1000000 in
theorem laws_toIntS_any {A : Option Addr} {n c : Nat} {xs : List Int} (w : World) (h : IS w A n c xs) (hn : n ≤ 1073741824) :
    Calls Try.prog 28 #[.slice A n c] w (GaveInts 3 w xs) := by
  obtain ⟨i0, hi, hz0, hz1, hz2⟩ := info_parts infoInt
  have hm : n ≤ maxLen := by simp only [maxLen]; omega
  have hl := h.len
  have HL := Lib.hid hl
  clear hl
  have H := Lib.hid h
  clear h
  have hb2 : i0.bytes * n ≤ 281474976710656 := by rw [hz2]; omega
  have HB := Lib.hid hb2
  clear hb2
  have HZ := Lib.hid hz2
  have HZ1 := Lib.hid hz1
  have HZ0 := Lib.hid hz0
  have HI := Lib.hid hi
  clear hz0 hz1 hz2 hi
  go_enter Try.func28, Try.ntmps28
  go_wp2_with (at_make; refine wpList_make_full _ rfl _ _ 28 rfl w.heap.size 3 i0 (.int .i64 0) 1 Try.underlying28 HI.out HZ0.out HZ1.out .i64 .i64 _ _ n rfl rfl rfl rfl HB.out hm (Nat.le_refl _) ?_; intro w1 hown1 hgr1)
  have hbel : Below w.heap.size w w1 := (Below.refl _ _).grown hgr1 (Nat.le_refl _) (by simp)
  have hown2 : w1.ownsRow w.heap.size 3 1 (.slice (some ⟨w.heap.size, 0, none⟩) n n) n ((xs.take 0).map (Value.int .i64) ++ List.replicate (n - 0) (.int .i64 0)) := by
    rw [← fill_start]
    have e : (madeCells (Value.int .i64 0).cells (n * 1)).toList = List.replicate n (.int .i64 0) := by
      rw [Nat.mul_one]
      exact toList_madeCells_one _ _
    rw [← e]
    exact hown1
  clear hown1 hgr1
  have HO := Lib.hid hown2
  clear hown2
  go_loopw [4] (fun i wr => ∃ k : Nat, k ≤ n ∧ i = .int .i64 k ∧ Hid (wr.ownsRow w.heap.size 3 1 (.slice (some ⟨w.heap.size, 0, none⟩) n n) n ((xs.take k).map (Value.int .i64) ++ List.replicate (n - k) (.int .i64 0))) ∧ Below w.heap.size w wr) (fun i _ => n - (intOf i).toNat)
  case atStart => exact ⟨0, Nat.zero_le _, rfl, HO, hbel⟩
  case round =>
    obtain ⟨k, hk, rfl, ho, hb⟩ := hrel
    clear hbel HO
    by_cases hlt : k < n
    · obtain ⟨b, off, v, rfl, hx, hc⟩ := (H.out.below hb (Nat.le_refl _)).at_ hlt
      have HX := Lib.hid hx
      clear hx
      have hd : wr.cell? ⟨w.heap.size, k, none⟩ = some (.int .i64 0) := (World.ownsRow.cellAt ho.out k (by omega)).trans (fill_at HL.out hlt)
      have hf : wr.frozen? ⟨w.heap.size, k, none⟩ = false := World.ownsRow.frozenAt ho.out k
      go_wp2_with (fail)
      go_roundw
      case rel =>
        refine ⟨k + 1, by omega, by go_num, Lib.hid ?_, hb.setCell (Nat.le_refl _) _⟩
        rw [← fill_step HL.out hlt HX.out]
        exact (World.ownsRow.stored ho.out k _).1
      case measure => simp [intOf]; omega
    · go_wp2_with (fail)
      go_ret
      have ht := ho.out
      have ek : k = n := by omega
      subst ek
      rw [fill_end HL.out] at ht
      exact ⟨_, _, _, rfl, ht, hb⟩
/-- What is left of a size, -1 if it is too great. -/
def szL (left : Int) (n : Nat) : Int := if left < (n : Int) then -1 else left - n
theorem szL_lo {left : Int} {n : Nat} (h : left < (n : Int)) : szL left n = -1 := if_pos h
theorem szL_hi {left : Int} {n : Nat} (h : (n : Int) ≤ left) : szL left n = left - n := if_neg (by omega)
theorem laws_szIntS_any {A : Option Addr} {n c : Nat} (left : Int) (w : World) (h1 : n ≤ 9223372036854775807) (h2 : 0 ≤ left) (h3 : left ≤ 1048576) :
    Calls Try.prog 25 #[.slice A n c, .int .i64 left] w fun e w' => e = .returned (.int .i64 (szL left n)) ∧ w = w' := by
  rcases Int.lt_or_le left (n : Int) with h | h
  · go_enter Try.func25, Try.ntmps25
    go_wp2
    go_ret
    exact ⟨ret_int (szL_lo h).symm, rfl⟩
  · go_enter Try.func25, Try.ntmps25
    go_wp2
    go_ret
    exact ⟨ret_int (szL_hi h).symm, rfl⟩
end Go.Proofs.Ytcbphifadokfeaa
