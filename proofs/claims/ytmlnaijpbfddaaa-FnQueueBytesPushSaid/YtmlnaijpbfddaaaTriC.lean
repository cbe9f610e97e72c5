/-
  Slices of triples: the first ones of a row, and a row whose rest is cleared.
-/
import Derived.Test.YtmlnaijpbfddaaaTri
import Derived.Lib.SliceRun
namespace Go.Proofs.Ytmlnaijpbfddaaa
open Go.RowKit
theorem cellsT_take (xs : List Tr) (k : Nat) : (cellsT xs).take (k * 3) = cellsT (xs.take k) := by
  induction xs generalizing k with
  | nil => simp [cellsT]
  | cons x xs ih =>
    rcases k with _ | k
    · simp [cellsT]
    · have e : (k + 1) * 3 = k * 3 + 1 + 1 + 1 := by omega
      have h := ih k
      unfold cellsT at h ⊢
      rw [e]
      simp [h]
theorem OT.cutTo {w : World} {T base : Nat} {A : Option Addr} {n c : Nat} {xs : List Tr} (h : OT w T base A n c xs) {k : Nat} (hk : k ≤ n) : OT w T base A k c (xs.take k) := by
  have hl := h.len
  obtain ⟨h1, h2⟩ := h
  refine ⟨by rw [cellsT_len, List.length_take]; omega, ?_⟩
  rcases h2 with ⟨hv, hx⟩ | ⟨g, cap, cur, hv, hb, hg, hnc, hcm, hcs, ht⟩
  · left
    simp only [Value.slice.injEq] at hv
    obtain ⟨rfl, rfl, rfl⟩ := hv
    have : k = 0 := by omega
    subst this
    exact ⟨rfl, rfl⟩
  · right
    simp only [Value.slice.injEq] at hv
    obtain ⟨rfl, _, rfl⟩ := hv
    refine ⟨g, c, cur, rfl, hb, hg, by omega, hcm, hcs, ?_⟩
    rw [← cellsT_take, ← ht, List.take_take]
    congr 1
    omega
theorem OT.beyond {w : World} {T base g n c : Nat} {xs : List Tr} (h : OT w T base (some ⟨g, 0, none⟩) n c xs) {o : Nat} (ho : n * 3 ≤ o) (v : Value) : OT (w.setCell ⟨g, o, none⟩ v) T base (some ⟨g, 0, none⟩) n c xs := by
  obtain ⟨h1, h2⟩ := h
  refine ⟨h1, ?_⟩
  rcases h2 with ⟨hv, _⟩ | ⟨g', cap, cur, hv, hb, hg, hnc, hcm, hcs, ht⟩
  · simp at hv
  · right
    simp only [Value.slice.injEq, Option.some.injEq, Addr.mk.injEq, and_true, true_and] at hv
    obtain ⟨rfl, rfl⟩ := hv
    refine ⟨g, c, cur.setIfInBounds o v, rfl, hb, Blk.set_ (w := w) hg o v, hnc, hcm, by simpa using hcs, ?_⟩
    rw [Array.toList_setIfInBounds, List.take_set_of_le ho]
    exact ht
theorem OT.cleared {T base g n c : Nat} {xs : List Tr} : ∀ (vs : List Value) (o : Nat) {w : World}, OT w T base (some ⟨g, 0, none⟩) n c xs → n * 3 ≤ o → OT (w.setCells g o vs) T base (some ⟨g, 0, none⟩) n c xs
  | [], _, _, h, _ => h
  | v :: r, o, _, h, ho => OT.cleared r (o + 1) (h.beyond ho v) (by omega)
theorem row_setCells (g : Nat) : ∀ (vs : List Value) (o : Nat) (w : World), Row w (w.setCells g o vs) (some ⟨g, 0, none⟩)
  | [], _, w => Row.refl w _
  | v :: r, o, w => by
    have h1 : Row w (w.setCell ⟨g, o, none⟩ v) (some ⟨g, 0, none⟩) := ⟨rfl, rfl, rfl, by simp [World.setCell], fun k _ hk => Below.heap_setCell w _ v k (fun e => hk (by simp [e]))⟩
    exact World.grownBy.trans h1 (row_setCells g r (o + 1) _)
theorem run_clear_ts {P : Program} (w : World) (t e ty : TypeId) (ht : P.underlying t = some (.slice e)) (hv : ∀ w, (zeroValue e).run P w = .ok (.agg #[.int .i64 0, .int .i64 0, .int .i64 0]) w) (b o n c : Nat) (hn : 0 < n)
    (hc : ∀ j, j < n * 3 → (w.cell? ⟨b, o + j, none⟩).isSome = true) (hf : ∀ j, j < n * 3 → w.frozen? ⟨b, o + j, none⟩ = false) :
    (Builtin.clear_ #[t] ty #[.slice (some ⟨b, o, none⟩) n c]).run P w = .ok (.tuple #[]) (w.setCells b o (List.replicate (n * 3) (.int .i64 0))) := by
  have hz : (Value.agg #[.int .i64 0, .int .i64 0, .int .i64 0]).cells = #[.int .i64 0, .int .i64 0, .int .i64 0] := rfl
  have hzc : (Builtin.zeroCells (Value.agg #[.int .i64 0, .int .i64 0, .int .i64 0]).cells n).toList = List.replicate (n * 3) (.int .i64 0) := by
    rw [hz]
    apply List.ext_getElem
    · simp [Builtin.zeroCells]
    · intro i h1 h2
      have h : i % 3 = 0 ∨ i % 3 = 1 ∨ i % 3 = 2 := by omega
      simp only [Builtin.zeroCells]
      rcases h with h | h | h <;> simp [h]
  have hst := run_storeCells_cells (P := P) b o (List.replicate (n * 3) (.int .i64 0)) 0 w (by simpa using hc) (by simpa using hf) (by intro v hv'; rw [List.eq_of_mem_replicate hv']; rfl)
  simp only [Nat.add_zero] at hst
  obtain ⟨m, rfl⟩ : ∃ m, n = m + 1 := ⟨n - 1, by omega⟩
  simp [Builtin.clear_, run_underlying ht, hv, hzc, hst]
end Go.Proofs.Ytmlnaijpbfddaaa
