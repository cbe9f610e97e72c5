/-
  The batches as an iterator: what batchesOf hands back.
-/
import Derived.RangeFuncNested
import Derived.RangeFuncBound
import Derived.RangeFuncCalls
import Derived.RangeFuncLeaves
import Derived.RangeFuncBox
import Derived.Shelf.Abstract
import Derived.Shelf.RegionOpen
import Derived.WalkKit
import Derived.OwnWalkIn
import Derived.TacticsInMore
import Derived.LoopNIn
import Derived.LoopIn
import Derived.Maps.AppendAt
import Derived.Test.YtpodfjblojmkeaaCu
namespace Go.Proofs.Ytpodfjblojmkeaa
open Go.RowKit Go.Shelf
attribute [local go_sem] Oper.semAt_some

def lenS : Value → Nat
  | .slice _ n _ => n
  | _ => 0
/-- A slice of sizes that lay in a world. -/
def Bt (w : World) : Type := {x : Option Addr × Nat × Nat × List Int // IS w x.1 x.2.1 x.2.2.1 x.2.2.2 ∧ allR x.2.2.2 1 20 = true ∧ x.2.1 ≤ 12}
def Bt.xs {w : World} (x : Bt w) : List Int := x.1.2.2.2
def Bt.enc {w : World} (x : Bt w) : Array Value := #[.slice x.1.1 x.1.2.1 x.1.2.2.1]
/-- What a round keeps: all blocks below e but the one at n0, which it may write. -/
def Kp (n0 e : Nat) (W W' : World) : Prop := Below n0 W W' ∧ ∀ k, k < e → k ≠ n0 → W'.heap[k]? = W.heap[k]?
theorem Kp.refl (n0 e : Nat) (W : World) : Kp n0 e W W := ⟨Below.refl _ _, fun _ _ _ => rfl⟩
theorem Kp.trans {n0 e : Nat} {A B C : World} (h : Kp n0 e A B) (k : Kp n0 e B C) : Kp n0 e A C := ⟨h.1.trans k.1, fun j hj hn => (k.2 j hj hn).trans (h.2 j hj hn)⟩
theorem Kp.putObj {n0 e : Nat} {w : World} (hn : n0 ≤ w.heap.size) (he : e ≤ w.heap.size) (W : World) (l : Nat) (o o' : Obj) (hl : w.heap.size ≤ l) (h : W.heap[l]? = some o) (hc : o.isCells = false) (hw : o.isWalk = false) : Kp n0 e W (W.putObj l o') :=
  ⟨belowK_b hn W l o o' hl h hc hw, fun k hk _ => World.putObj_heap_other (by omega)⟩
set_option maxHeartbeats 1000000 in
theorem impl_batchesOf_any {A : Option Addr} {n c : Nat} (bytes many : Int) (w : World) :
    Calls Try.prog 34 #[.slice A n c, .int .i64 bytes, .int .i64 many] w fun e w' => e = .returned (.func (.func 44) #[] #[.pointer (some ⟨w.heap.size, 0, none⟩), .pointer (some ⟨w.heap.size + 1, 0, none⟩), .pointer (some ⟨w.heap.size + 1 + 1, 0, none⟩)]) ∧ w' = ((w.alloc (.cells #[.slice A n c] 23)).alloc (.cells #[.int .i64 bytes] 3)).alloc (.cells #[.int .i64 many] 3) := by
  go_enter Try.func34, Try.ntmps34
  go_wp2_with (fail)
  go_ret
  exact ⟨by first | rfl | simp, rfl⟩
set_option maxRecDepth 100000 in
set_option maxHeartbeats 4000000 in
theorem batches_in (n l b n0 e : Nat) (hn : 1 ≤ n) {A : Option Addr} {n1 c1 : Nat} {xs : List Int} (bytes : Int) (M : Nat) (w0 : World) (h : IS w0 A n1 c1 xs) (hr : allR xs 1 20 = true) (h12 : n1 ≤ 12) (hb0 : 20 ≤ bytes) (hb1 : bytes ≤ 200) (hM1 : 1 ≤ M) (hM12 : M ≤ 12)
    (hn0 : n0 = w0.heap.size) (hbn : n0 < b) (hbe : b + 3 ≤ e) (J Jx : List (Bt w0) → World → Prop)
    (hY : ∀ pre x W, J pre W → pre.length < 12 → YieldAt Fence.wide (n - 1) Try.prog l (Bt.enc x) W fun e' W' =>
      (e' = .returned (.bool true) ∧ J (pre ++ [x]) W' ∧ Kp n0 e W W') ∨ (e' = .returned (.bool false) ∧ Jx (pre ++ [x]) W'))
    (W : World) (hW : Below n0 w0 W) (c0 : Boxed W b 23 (.slice A n1 c1)) (c1' : Boxed W (b + 1) 3 (.int .i64 bytes)) (c2' : Boxed W (b + 1 + 1) 3 (.int .i64 (M : Int))) (h0 : J [] W) :
    CallsIn Fence.wide n Try.prog 44 #[.func (.yield l) #[] #[], .pointer (some ⟨b, 0, none⟩), .pointer (some ⟨b + 1, 0, none⟩), .pointer (some ⟨b + 1 + 1, 0, none⟩)] W fun e' W' => (∃ v, e' = .returned v) ∧
      ((∃ ys : List (Bt w0), ys.map Bt.xs = BB bytes M xs ∧ J ys W') ∨ (∃ pre, True ∧ Jx pre W')) := by
  have hc0 := c0.cell
  refine callsIn_of_wp Try.func44 rfl trivial ?_ rfl
  simp only [Try.ntmps44, List.size_toArray, List.length_cons, List.length_nil, Nat.reduceAdd, Nat.reduceSub, Array.replicate_succ, Array.replicate_zero, List.push_toArray, List.append_toArray, List.nil_append, List.cons_append]
  gi_wp2
  gi_loopw [5] (fun s wr => ∃ (pre : List (Bt w0)) (A2 : Option Addr) (n2 c2 : Nat) (ys : List Int), s = .slice A2 n2 c2 ∧ n2 + pre.length ≤ n1 ∧ Hid (pre.map Bt.xs ++ BB bytes M ys = BB bytes M xs) ∧ Hid (IS w0 A2 n2 c2 ys) ∧ Hid (allR ys 1 20 = true) ∧ J pre wr ∧ Kp n0 e W wr)
    (fun s _ => lenS s)
  case atStart =>
    exact ⟨[], A, n1, c1, xs, rfl, by simp, Lib.hid rfl, Lib.hid h, Lib.hid hr, h0, Kp.refl _ _ _⟩
  case round =>
    obtain ⟨pre, A2, n2, c2, ys, rfl, hk, hf, hs, hry, hJs, hkp⟩ := hrel
    by_cases h2 : 0 < n2
    · have hlt' : (0 : Int) < (n2 : Int) := by omega
      obtain ⟨bb, off, v, rfl, hx, hc⟩ := hs.out.at_ (k := 0) h2
      have hyl := hs.out.len
      have hcc := hs.out.2.1
      have hcm := hs.out.2.2.1
      simp only [maxLen] at hcm
      have hne : ys ≠ [] := by intro e; rw [e] at hyl; simp at hyl; omega
      obtain ⟨N, hN⟩ : ∃ N, fitN bytes M ys = N := ⟨_, rfl⟩
      have hN1 := fit_pos (m := M) hne hry.out hb0 hM1
      obtain ⟨hN2, hN3⟩ := fit_le M bytes ys
      rw [hN] at hN1 hN2 hN3
      rw [hyl] at hN3
      have hNn := BB_next hne hry.out hb0 hM1
      rw [hN] at hNn
      have hB : Below w0.heap.size w0 wr := by rw [← hn0]; exact hW.trans hkp.1
      have HC := Lib.hid (call_int (impl_countThatFit_any bytes M wr (hs.out.below hB (Nat.le_refl _)) hry.out (by omega) hb1 hM12) (show ((fitN bytes M ys : Nat) : Int) = (N : Int) by rw [hN]))
      have d1 : Boxed wr (b + 1) 3 (.int .i64 bytes) := (hkp.2 (b + 1) (by omega) (by omega)).trans c1'
      have d2 : Boxed wr (b + 1 + 1) 3 (.int .i64 (M : Int)) := (hkp.2 (b + 1 + 1) (by omega) (by omega)).trans c2'
      have e1 := d1.cell
      have e2 := d2.cell
      obtain ⟨x, hxd⟩ : ∃ x : Bt w0, x = ⟨(some ⟨bb, off, none⟩, N, c2, ys.take N), hs.out.first hN3, allR_take hry.out N, by show N ≤ 12; omega⟩ := ⟨_, rfl⟩
      have hxe : x.enc = #[.slice (some ⟨bb, off, none⟩) N c2] := by rw [hxd]; rfl
      have hxs : x.xs = ys.take N := by rw [hxd]; rfl
      obtain ⟨fn, tmps, assign, body, hy, hR⟩ := hY pre x wr hJs (by omega)
      rw [hxe] at hy
      have z1 : (0 : Int) ≤ (N : Int) := by omega
      have z2 : (N : Int) ≤ (n2 : Int) := by omega
      have z3 : (n2 : Int) ≤ (c2 : Int) := by omega
      have z4 : (N : Int) ≤ (c2 : Int) := by omega
      obtain ⟨AX, hAX⟩ : ∃ x, (if c2 = N then some (⟨bb, off, none⟩ : Addr) else some ⟨bb, off + N, none⟩) = x := ⟨_, rfl⟩
      have HS := Lib.hid (show IS w0 AX (n2 - N) (c2 - N) (ys.drop N) from hAX ▸ hs.out.rest hN3)
      have HRD := Lib.hid (allR_drop hry.out N)
      have HF : Hid ((pre ++ [x]).map Bt.xs ++ BB bytes M (ys.drop N) = BB bytes M xs) := Lib.hid (by rw [← hf.out, hNn, List.map_append, List.append_assoc, ← hxs]; rfl)
      clear hNn hne hyl hx hxd hxe hxs hN d1 d2 hB
      gi_wp2_with (refine ⟨trivial, ?_⟩; gi_at_call 45; refine (callsIn_wide.2 HC.out).mono ?_; rintro e' w' ⟨rfl, rfl⟩)
      refine hR.mono ?_
      rintro e' W3 (⟨rfl, hJ3, hk3⟩ | ⟨rfl, hJx3⟩)
      · gi_wp2
        go_roundw
        case rel => exact ⟨pre ++ [x], AX, n2 - N, c2 - N, ys.drop N, by first | rfl | simp, by simp; omega, HF, HS, HRD, hJ3, hkp.trans hk3⟩
        case measure => simp [lenS]; omega
      · gi_wp2
        refine bodyPost_ret (results_none rfl _ _ _) rfl ?_
        exact ⟨⟨_, rfl⟩, .inr ⟨pre ++ [x], trivial, hJx3⟩⟩
    · have hlt' : ¬ (0 : Int) < (n2 : Int) := by omega
      obtain rfl : n2 = 0 := by omega
      have hy0 : ys = [] := List.eq_nil_of_length_eq_zero hs.out.len
      have e0 := hf.out
      rw [hy0, BB_nil, List.append_nil] at e0
      gi_wp2
      go_end0
      exact ⟨⟨_, rfl⟩, .inl ⟨pre, e0, hJs⟩⟩
end Go.Proofs.Ytpodfjblojmkeaa
