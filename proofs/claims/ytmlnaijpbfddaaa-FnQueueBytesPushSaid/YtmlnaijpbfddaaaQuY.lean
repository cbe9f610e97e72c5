/-
  Contracts of entries and queues: bytes by classes.
-/
import Derived.Test.YtmlnaijpbfddaaaQuB
import Derived.Deep.RegionHeld3
import Derived.RegionTactic
import Derived.ChangeAlike
namespace Go.Proofs.Ytmlnaijpbfddaaa
open Go.RowKit
theorem bytesE_zero : bytesE [] = [0, 0, 0] := rfl
theorem bytesE_len (xs : List Tr) : (bytesE xs).length = 3 := rfl
theorem bytesE_get {xs : List Tr} {j : Nat} (hj : j < 3) : (bytesE xs)[j]? = some (bytesC xs (j : Int)) := by
  rcases (by omega : j = 0 ∨ j = 1 ∨ j = 2) with rfl | rfl | rfl <;> rfl
theorem bytesE_next {xs : List Tr} {k j : Nat} {x : Tr} (h : xs[k]? = some x) (hj : j < 3) (hx : x.b = (j : Int)) : (bytesE (xs.take k)).set j (bytesC (xs.take k) (j : Int) + x.c) = bytesE (xs.take (k + 1)) := by
  unfold bytesE
  simp only [bytesC_next h, hx]
  rcases (by omega : j = 0 ∨ j = 1 ∨ j = 2) with rfl | rfl | rfl <;> simp
theorem bytesE_bd {xs : List Tr} (h : ∀ x ∈ xs, 1 ≤ x.c ∧ x.c ≤ 20) (k : Nat) (hk : k ≤ 10) (c : Int) : 0 ≤ bytesC (xs.take k) c ∧ bytesC (xs.take k) c ≤ 200 := by
  have h1 := bytesC_bd (xs := xs.take k) (fun x hx => h x (List.mem_of_mem_take hx)) c
  have h2 := List.length_take_le k xs
  omega
set_option maxHeartbeats 4000000 in
theorem impl_bytesByClass_any {A : Option Addr} {n c : Nat} {xs : List Tr} (w : World) (h : TS w A n c xs) (hv : ValidE xs) :
    Calls Try.prog 23 #[.slice A n c] w (GaveInts 3 w (bytesE xs)) := by
  have H := Lib.hid h
  have hl := h.len
  have HL := Lib.hid hl
  have hn : n ≤ 10 := by have := hv.1; omega
  have HE := Lib.hid (fun x hx => (hv.at_ (x := x) hx).2)
  clear h hl hv
  have hmk : ∀ w : World, (Instr.makeSlice 24 (.int .i64 3) (.int .i64 3)).run Try.prog w = .ok (.slice (some ⟨w.heap.size, 0, none⟩) 3 3) (w.alloc (.cells #[.int .i64 0, .int .i64 0, .int .i64 0] 3)) := fun _ => by kernel_rfl
  have O0 : Hid (OW (w.alloc (.cells #[.int .i64 0, .int .i64 0, .int .i64 0] 3)) 3 w.heap.size (some ⟨w.heap.size, 0, none⟩) 3 3 (bytesE (xs.take 0))) := Lib.hid (OW.lit w 3 w.heap.size [0, 0, 0] (Nat.le_refl _) (by decide))
  have B0 := Lib.hid (below_new w (.cells #[.int .i64 0, .int .i64 0, .int .i64 0] 3))
  go_enter Try.func23, Try.ntmps23
  go_wp2_with (fail)
  generalize w.alloc (.cells #[.int .i64 0, .int .i64 0, .int .i64 0] 3) = W at *
  clear hmk
  go_loopw [9] (fun i wr => ∃ k : Nat, k ≤ n ∧ i = .int .i64 k ∧ Hid (OW wr 3 w.heap.size (some ⟨w.heap.size, 0, none⟩) 3 3 (bytesE (xs.take k))) ∧ Hid (Below w.heap.size w wr)) (fun i _ => n - (intOf i).toNat)
  case atStart => exact ⟨0, Nat.zero_le _, rfl, O0, B0⟩
  case round =>
    obtain ⟨k, hk, rfl, hO, hB⟩ := hrel
    by_cases hlt : k < n
    · obtain ⟨b, off, x, rfl, hx, ca, cb, cc⟩ := (H.out.below hB.out (Nat.le_refl _)).at_ hlt
      obtain ⟨⟨p0, p1⟩, p2, p3⟩ := HE.out x (List.mem_of_getElem? hx)
      obtain ⟨j, hj⟩ := Int.eq_ofNat_of_zero_le p0
      have hj3 : j < 3 := by omega
      have hki : (k : Int) < (n : Int) := by omega
      obtain ⟨q0, q1⟩ := bytesE_bd (fun x hx => (HE.out x hx).2) k (by omega) (j : Int)
      obtain ⟨bc, hbc⟩ : ∃ v, bytesC (xs.take k) (j : Int) = v := ⟨_, rfl⟩
      have HN : Hid ((bytesE (xs.take k)).set j (bc + x.c) = bytesE (xs.take (k + 1))) := Lib.hid (by rw [← hbc]; exact bytesE_next hx hj3 hj)
      have hcell : Hid (wr.cell? ⟨w.heap.size, j, none⟩ = some (.int .i64 bc)) := Lib.hid (by
        obtain ⟨_, _, v, e0, hv0, hcv⟩ := hO.out.is.at_ hj3
        simp only [Option.some.injEq, Addr.mk.injEq, and_true] at e0
        obtain ⟨rfl, rfl⟩ := e0
        rw [Nat.zero_add] at hcv
        rw [bytesE_get hj3, hbc] at hv0
        injection hv0 with hv0
        rw [hv0]; exact hcv)
      have hlw : w.heap.size < wr.heap.size := by
        obtain ⟨g, e, _, h2⟩ := hO.out.pos (by omega)
        simp only [Option.some.injEq, Addr.mk.injEq, and_true] at e
        rw [e]; exact h2
      rw [hbc] at q0 q1
      have HJ := Lib.hid hj
      rw [hj] at cb
      clear hx hbc p0 p1 hj
      obtain ⟨xb, xc, hxb, hxc⟩ : ∃ u v : Int, x.b = u ∧ x.c = v := ⟨_, _, rfl, rfl⟩
      rw [hxc] at cc HN p2 p3
      have HXC := Lib.hid hxc
      clear hxb hxc
      go_wp2_with (fail)
      have F1 : Hid (Blk (wr.alloc (.cells #[.int .i64 x.a, .int .i64 (j : Int), .int .i64 xc] 28)) wr.heap.size 28 #[.int .i64 x.a, .int .i64 (j : Int), .int .i64 xc]) := Lib.hid (Blk.new _ _ _)
      have O1 := Lib.hid (hO.out.alloc (.cells #[.int .i64 x.a, .int .i64 (j : Int), .int .i64 xc] 28))
      have B1 := Lib.hid (hB.out.alloc hB.out.size (.cells #[.int .i64 x.a, .int .i64 (j : Int), .int .i64 xc] 28))
      have C1 := Lib.hid (cell_alloc hcell.out (.cells #[.int .i64 x.a, .int .i64 (j : Int), .int .i64 xc] 28))
      generalize wr.alloc (.cells #[.int .i64 x.a, .int .i64 (j : Int), .int .i64 xc] 28) = W1 at *
      obtain ⟨e0, e1, e2⟩ := F1.out.c3
      have c1 := C1.out
      have f1 : W1.frozen? ⟨w.heap.size, j, none⟩ = false := World.ownsRow.frozenAt O1.out j
      have hj0 : (0 : Int) ≤ (j : Int) := by omega
      have hj1 : (j : Int) < 3 := by omega
      clear ca cb cc
      go_region
      have O2 := Lib.hid (O1.out.storedS j (bc + xc))
      have B2 := Lib.hid (B1.out.setCell (p := ⟨w.heap.size, j, none⟩) (Nat.le_refl _) (.int .i64 (bc + xc)))
      clear e0 e1 e2 c1 f1
      go_wp2_with (fail)
      go_roundw
      case rel => exact ⟨k + 1, by omega, by go_num, Lib.hid (by rw [← HN.out]; exact O2.out.drew), Lib.hid B2.out.drew⟩
      case measure => simp [intOf]; omega
    · go_wp2_with (fail)
      go_ret
      have ht := hO.out
      rw [List.take_of_length_le (by have := HL.out; omega)] at ht
      exact ⟨_, _, _, rfl, ht, hB.out⟩
set_option maxHeartbeats 4000000 in
theorem spec_bytesOf_any {A : Option Addr} {n c : Nat} {xs : List Tr} (w : World) (h : TS w A n c xs) (hv : ValidE xs) :
    Calls Try.prog 24 #[.slice A n c] w (GaveInts 3 w (bytesE xs)) := by
  have H := Lib.hid h
  have hl := h.len
  have HL := Lib.hid hl
  have hn : n ≤ 10 := by have := hv.1; omega
  have HE := Lib.hid (fun x hx => (hv.at_ (x := x) hx).2)
  clear h hl hv
  have hmk : ∀ w : World, (Instr.makeSlice 24 (.int .i64 3) (.int .i64 3)).run Try.prog w = .ok (.slice (some ⟨w.heap.size, 0, none⟩) 3 3) (w.alloc (.cells #[.int .i64 0, .int .i64 0, .int .i64 0] 3)) := fun _ => by kernel_rfl
  have O0 : Hid (OW (w.alloc (.cells #[.int .i64 0, .int .i64 0, .int .i64 0] 3)) 3 w.heap.size (some ⟨w.heap.size, 0, none⟩) 3 3 (bytesE (xs.take 0))) := Lib.hid (OW.lit w 3 w.heap.size [0, 0, 0] (Nat.le_refl _) (by decide))
  have B0 := Lib.hid (below_new w (.cells #[.int .i64 0, .int .i64 0, .int .i64 0] 3))
  go_enter Try.func24, Try.ntmps24
  go_wp2_with (fail)
  generalize w.alloc (.cells #[.int .i64 0, .int .i64 0, .int .i64 0] 3) = W at *
  clear hmk
  go_loopw [4] (fun i wr => ∃ k : Nat, k ≤ n ∧ i = .int .i64 k ∧ Hid (OW wr 3 w.heap.size (some ⟨w.heap.size, 0, none⟩) 3 3 (bytesE (xs.take k))) ∧ Hid (Below w.heap.size w wr)) (fun i _ => n - (intOf i).toNat)
  case atStart => exact ⟨0, Nat.zero_le _, rfl, O0, B0⟩
  case round =>
    obtain ⟨k, hk, rfl, hO, hB⟩ := hrel
    by_cases hlt : k < n
    · obtain ⟨b, off, x, rfl, hx, ca, cb, cc⟩ := (H.out.below hB.out (Nat.le_refl _)).at_ hlt
      obtain ⟨⟨p0, p1⟩, p2, p3⟩ := HE.out x (List.mem_of_getElem? hx)
      obtain ⟨j, hj⟩ := Int.eq_ofNat_of_zero_le p0
      have hj3 : j < 3 := by omega
      have hki : (k : Int) < (n : Int) := by omega
      obtain ⟨q0, q1⟩ := bytesE_bd (fun x hx => (HE.out x hx).2) k (by omega) (j : Int)
      obtain ⟨bc, hbc⟩ : ∃ v, bytesC (xs.take k) (j : Int) = v := ⟨_, rfl⟩
      have HN : Hid ((bytesE (xs.take k)).set j (bc + x.c) = bytesE (xs.take (k + 1))) := Lib.hid (by rw [← hbc]; exact bytesE_next hx hj3 hj)
      have hcell : Hid (wr.cell? ⟨w.heap.size, j, none⟩ = some (.int .i64 bc)) := Lib.hid (by
        obtain ⟨_, _, v, e0, hv0, hcv⟩ := hO.out.is.at_ hj3
        simp only [Option.some.injEq, Addr.mk.injEq, and_true] at e0
        obtain ⟨rfl, rfl⟩ := e0
        rw [Nat.zero_add] at hcv
        rw [bytesE_get hj3, hbc] at hv0
        injection hv0 with hv0
        rw [hv0]; exact hcv)
      have hlw : w.heap.size < wr.heap.size := by
        obtain ⟨g, e, _, h2⟩ := hO.out.pos (by omega)
        simp only [Option.some.injEq, Addr.mk.injEq, and_true] at e
        rw [e]; exact h2
      rw [hbc] at q0 q1
      have HJ := Lib.hid hj
      rw [hj] at cb
      clear hx hbc p0 p1 hj
      obtain ⟨xb, xc, hxb, hxc⟩ : ∃ u v : Int, x.b = u ∧ x.c = v := ⟨_, _, rfl, rfl⟩
      rw [hxc] at cc HN p2 p3
      have HXC := Lib.hid hxc
      clear hxb hxc
      go_wp2_with (fail)
      have c1 := hcell.out
      have f1 : wr.frozen? ⟨w.heap.size, j, none⟩ = false := World.ownsRow.frozenAt hO.out j
      have hj0 : (0 : Int) ≤ (j : Int) := by omega
      have hj1 : (j : Int) < 3 := by omega
      go_region
      have O2 := Lib.hid (hO.out.storedS j (bc + xc))
      have B2 := Lib.hid (hB.out.setCell (p := ⟨w.heap.size, j, none⟩) (Nat.le_refl _) (.int .i64 (bc + xc)))
      clear ca cb cc c1 f1
      go_wp2_with (fail)
      go_roundw
      case rel => exact ⟨k + 1, by omega, by go_num, Lib.hid (by rw [← HN.out]; exact O2.out.drew), Lib.hid B2.out.drew⟩
      case measure => simp [intOf]; omega
    · go_wp2_with (fail)
      go_ret
      have ht := hO.out
      rw [List.take_of_length_le (by have := HL.out; omega)] at ht
      exact ⟨_, _, _, rfl, ht, hB.out⟩
end Go.Proofs.Ytmlnaijpbfddaaa
