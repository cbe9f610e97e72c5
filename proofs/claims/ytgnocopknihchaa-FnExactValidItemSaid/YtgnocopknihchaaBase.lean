/-
  Plain words for memory, over any program: a slice of integers that reads as a list.
-/
import Derived.WalkKit
import Derived.WalkSpells
import Derived.Lib.Hide
import Derived.Deep.OwnRows
import Derived.Deep.Draws
import Derived.Deep.AppendLies
namespace Go.Proofs.Ytgnocopknihchaa
open Go.RowKit

theorem ret_int {k : IntKind} {a b : Int} (h : a = b) : Ending.returned (.int k a) = .returned (.int k b) := by rw [h]
theorem ret_bool {a b : Bool} (h : a = b) : Ending.returned (.bool a) = .returned (.bool b) := by rw [h]

/-- The slice value 'slice A n c' holds the integers xs. -/
def IS (w : World) (A : Option Addr) (n c : Nat) (xs : List Int) : Prop :=
  xs.length = n ∧ n ≤ c ∧ c ≤ maxLen ∧
    (0 < n → ∃ b off, A = some ⟨b, off, none⟩ ∧ ∀ j, j < n → w.cell? ⟨b, off + j, none⟩ = some (.int .i64 (xs.getD j 0)))

section
variable {w w' : World} {A : Option Addr} {n c : Nat} {xs : List Int}
theorem IS.len (h : IS w A n c xs) : xs.length = n := h.1
theorem IS.cap (h : IS w A n c xs) : n ≤ 9223372036854775807 := by
  have h1 := h.2.1
  have h2 := h.2.2.1
  simp only [maxLen] at h2
  omega
theorem IS.nil (w : World) : IS w none 0 0 [] := ⟨rfl, Nat.le_refl _, by simp [maxLen], fun h => absurd h (by omega)⟩
theorem IS.at_ (h : IS w A n c xs) {k : Nat} (hk : k < n) :
    ∃ b off v, A = some ⟨b, off, none⟩ ∧ xs[k]? = some v ∧ w.cell? ⟨b, off + k, none⟩ = some (.int .i64 v) := by
  obtain ⟨b, off, e, hc⟩ := h.2.2.2 (by omega)
  have hl : k < xs.length := by have := h.1; omega
  refine ⟨b, off, xs[k], e, List.getElem?_eq_getElem hl, ?_⟩
  rw [hc k hk, List.getD_eq_getElem?_getD, List.getElem?_eq_getElem hl]
  rfl
theorem IS.keep (h : IS w A n c xs) (hk : ∀ p : Addr, p.block < w.heap.size → w'.cell? p = w.cell? p) : IS w' A n c xs := by
  refine ⟨h.1, h.2.1, h.2.2.1, fun hn => ?_⟩
  obtain ⟨b, off, e, hc⟩ := h.2.2.2 hn
  refine ⟨b, off, e, fun j hj => ?_⟩
  have h1 := hc j hj
  have hb : b < w.heap.size := World.block_lt_of_cell? w ⟨b, off + j, none⟩ h1
  exact (hk ⟨b, off + j, none⟩ hb).trans h1
theorem IS.below {B : Nat} (h : IS w A n c xs) (hb : Below B w w') (hB : w.heap.size ≤ B) : IS w' A n c xs :=
  h.keep fun p hp => hb.cell (by omega)
theorem IS.drewN (h : IS w A n c xs) (k : Nat) : IS (w.drewN k) A n c xs := h
theorem IS.drew (h : IS w A n c xs) : IS w.drew A n c xs := h
theorem IS.alloc (h : IS w A n c xs) (o : Obj) : IS (w.alloc o) A n c xs := h.keep fun p hp => World.cell?_alloc_lt w o p hp
end

theorem add_plain' (b off j : Nat) : (⟨b, off, none⟩ : Addr).add j = ⟨b, off + j, none⟩ := by
  unfold Addr.add
  split <;> simp_all

/-- The slice value 'slice A n c' is the call's own (a block from 'base' on, or nil), and holds the integers xs. T: the number of the type int. -/
def OW (w : World) (T base : Nat) (A : Option Addr) (n c : Nat) (xs : List Int) : Prop :=
  w.ownsRow base T 1 (.slice A n c) n (xs.map (Value.int .i64))
section
variable {w w' : World} {T base : Nat} {A : Option Addr} {n c : Nat} {xs : List Int}
theorem OW.len (h : OW w T base A n c xs) : xs.length = n := by simpa using h.1
theorem OW.form (h : OW w T base A n c xs) : (A = none ∧ n = 0 ∧ c = 0) ∨ ∃ g, A = some ⟨g, 0, none⟩ ∧ base ≤ g ∧ g < w.heap.size := by
  rcases h.2 with ⟨h1, h2⟩ | ⟨g, cap, cur, hv, hb, hg, _⟩
  · simp only [Value.slice.injEq] at h1
    exact .inl ⟨h1.1, h2, h1.2.2⟩
  · simp only [Value.slice.injEq, true_and] at hv
    exact .inr ⟨g, hv.1, hb, (Array.getElem?_eq_some_iff.1 hg).1⟩
theorem OW.is (h : OW w T base A n c xs) : IS w A n c xs := by
  have hl := h.len
  rcases h.2 with ⟨h1, h2⟩ | ⟨g, cap, cur, hv, hb, hg, hnc, hm, _⟩
  · simp only [Value.slice.injEq] at h1
    obtain ⟨rfl, _, rfl⟩ := h1
    subst h2
    exact ⟨hl, Nat.le_refl _, by simp [maxLen], fun h => absurd h (by omega)⟩
  · simp only [Value.slice.injEq, true_and] at hv
    obtain ⟨rfl, rfl⟩ := hv
    refine ⟨hl, hnc, hm, fun _ => ⟨g, 0, rfl, fun j hj => ?_⟩⟩
    have h2 := World.ownsRow.cellAt h j (by omega)
    rw [Nat.zero_add, h2, List.getElem?_map, List.getElem?_eq_getElem (by omega), List.getD_eq_getElem?_getD, List.getElem?_eq_getElem (by omega)]
    rfl
theorem OW.kept (h : OW w T base A n c xs) (hb : ∀ g, A = some ⟨g, 0, none⟩ → g < w.heap.size → w'.heap[g]? = w.heap[g]?) : OW w' T base A n c xs := by
  refine ⟨h.1, ?_⟩
  rcases h.2 with h1 | ⟨g, cap, cur, hv, hbg, hg, r⟩
  · exact .inl h1
  · simp only [Value.slice.injEq, true_and] at hv
    obtain ⟨rfl, rfl⟩ := hv
    exact .inr ⟨g, c, cur, rfl, hbg, by rw [hb g rfl (Array.getElem?_eq_some_iff.1 hg).1]; exact hg, r⟩
theorem OW.below {B : Nat} (h : OW w T base A n c xs) (hb : Below B w w') (hB : w.heap.size ≤ B) : OW w' T base A n c xs :=
  h.kept fun g _ hg => hb.block g (by omega)
theorem OW.drewN (h : OW w T base A n c xs) (k : Nat) : OW (w.drewN k) T base A n c xs := h
theorem OW.drew (h : OW w T base A n c xs) : OW w.drew T base A n c xs := h
theorem OW.base_le {base' : Nat} (h : OW w T base A n c xs) (hb : base' ≤ base) : OW w T base' A n c xs := by
  refine ⟨h.1, ?_⟩
  rcases h.2 with h1 | ⟨g, cap, cur, hv, hbg, r⟩
  · exact .inl h1
  · exact .inr ⟨g, cap, cur, hv, Nat.le_trans hb hbg, r⟩
end

theorem OW.setCell {w : World} {T base : Nat} {A : Option Addr} {n c : Nat} {xs : List Int} (h : OW w T base A n c xs) {p : Addr} (hp : p.block < base) (u : Value) : OW (w.setCell p u) T base A n c xs :=
  ownsRow_setCell_below h hp u
theorem OW.alloc {w : World} {T base : Nat} {A : Option Addr} {n c : Nat} {xs : List Int} (h : OW w T base A n c xs) (o : Obj) : OW (w.alloc o) T base A n c xs :=
  World.ownsRow.alloc h o
theorem bcell {w w1 : World} {B : Nat} (hb : Below B w w1) : (∀ b o, b < B → w1.cell? ⟨b, o, none⟩ = w.cell? ⟨b, o, none⟩) ∧ (∀ b o, b < B → w1.frozen? ⟨b, o, none⟩ = w.frozen? ⟨b, o, none⟩) :=
  ⟨fun b o h => hb.cell (p := ⟨b, o, none⟩) h, fun b o h => hb.frozen (p := ⟨b, o, none⟩) h⟩

/-- A call has handed back new integers xs, and nothing that was there has turned. -/
def GaveInts (T : Nat) (w : World) (xs : List Int) (e : Ending) (w' : World) : Prop :=
  ∃ A n c, e = .returned (.slice A n c) ∧ OW w' T w.heap.size A n c xs ∧ Below w.heap.size w w'

/-- A call has handed back an item with new integers xs, and nothing that was there has turned. -/
def GaveItem (T : Nat) (w : World) (cl ky : Int) (xs : List Int) (e : Ending) (w' : World) : Prop :=
  ∃ A n c, e = .returned (.agg #[.int .i64 cl, .int .i64 ky, .slice A n c]) ∧ OW w' T w.heap.size A n c xs ∧ Below w.heap.size w w'

theorem below_then {a b c : World} (h : Below a.heap.size a b) (k : Below b.heap.size b c) : Below a.heap.size a c := h.trans (k.mono h.size)
theorem below_new (w : World) (o : Obj) : Below w.heap.size w (w.alloc o) := (Below.refl _ _).alloc (Nat.le_refl _) o
theorem below_drewN {B : Nat} {a w : World} (h : Below B a w) (n : Nat) : Below B a (w.drewN n) := ⟨h.os, h.tape, h.output, h.size, h.block⟩

theorem fill_start (n : Nat) (z : Value) (xs : List Int) : (List.replicate n z) = (xs.take 0).map (Value.int .i64) ++ List.replicate (n - 0) z := by simp
theorem fill_at {n k : Nat} {xs : List Int} {z : Value} (hl : xs.length = n) (hk : k < n) : ((xs.take k).map (Value.int .i64) ++ List.replicate (n - k) z)[k]? = some z := by
  have h1 : ((xs.take k).map (Value.int .i64)).length = k := by rw [List.length_map, List.length_take]; omega
  rw [List.getElem?_append_right (by omega), h1, Nat.sub_self, List.getElem?_replicate, if_pos (by omega)]
theorem fill_step {n k : Nat} {xs : List Int} {z : Value} {v : Int} (hl : xs.length = n) (hk : k < n) (hx : xs[k]? = some v) :
    ((xs.take k).map (Value.int .i64) ++ List.replicate (n - k) z).set k (.int .i64 v) = (xs.take (k + 1)).map (Value.int .i64) ++ List.replicate (n - (k + 1)) z := by
  have hk' : k < xs.length := by omega
  have e : xs[k] = v := (List.getElem?_eq_some_iff.1 hx).2
  rw [List.set_append_right _ _ (by simp; omega), List.take_succ_eq_append_getElem hk', e]
  have h1 : k - ((xs.take k).map (Value.int .i64)).length = 0 := by rw [List.length_map, List.length_take]; omega
  rw [h1]
  obtain ⟨m, hm⟩ : ∃ m, n - k = m + 1 := ⟨n - k - 1, by omega⟩
  have h2 : n - (k + 1) = m := by omega
  rw [hm, h2, List.replicate_succ]
  simp
theorem fill_end {n : Nat} {xs : List Int} {z : Value} (hl : xs.length = n) : (xs.take n).map (Value.int .i64) ++ List.replicate (n - n) z = xs.map (Value.int .i64) := by
  rw [List.take_of_length_le (by omega)]
  simp

/-- Block g is just the cells cs of type t, none frozen. -/
def Blk (w : World) (g : Nat) (t : TypeId) (cs : Array Value) : Prop := w.heap[g]? = some (.cells cs t (0, 0))
section
variable {w w' : World} {g : Nat} {t : TypeId} {cs : Array Value}
theorem Blk.lt (h : Blk w g t cs) : g < w.heap.size := by
  rcases Nat.lt_or_ge g w.heap.size with hlt | hge
  · exact hlt
  · unfold Blk at h; rw [Array.getElem?_eq_none hge] at h; cases h
theorem Blk.cell (h : Blk w g t cs) (i : Nat) : w.cell? ⟨g, i, none⟩ = cs[i]? := cell_of_row w g i cs t (0, 0) h
theorem Blk.frozen (h : Blk w g t cs) (i : Nat) : w.frozen? ⟨g, i, none⟩ = false := by
  unfold Blk at h
  simp [World.frozen?, h]
theorem Blk.new (w : World) (t : TypeId) (cs : Array Value) : Blk (w.alloc (.cells cs t)) w.heap.size t cs := heap_alloc_new w _
theorem Blk.drewN (h : Blk w g t cs) (n : Nat) : Blk (w.drewN n) g t cs := h
theorem Blk.drew (h : Blk w g t cs) : Blk w.drew g t cs := h
theorem Blk.alloc (h : Blk w g t cs) (o : Obj) : Blk (w.alloc o) g t cs := (Below.heap_alloc w o g h.lt).trans h
theorem Blk.set_ (h : Blk w g t cs) (i : Nat) (u : Value) : Blk (w.setCell ⟨g, i, none⟩ u) g t (cs.setIfInBounds i u) := by
  unfold Blk at h ⊢
  simp [World.setCell, Array.getElem?_modify, h]
theorem Blk.far (h : Blk w g t cs) {p : Addr} (hp : g ≠ p.block) (u : Value) : Blk (w.setCell p u) g t cs := (Below.heap_setCell w p u g hp).trans h
theorem Blk.on (h : Blk w g t cs) (hb : Below w.heap.size w w') : Blk w' g t cs := (hb.block g h.lt).trans h
theorem Blk.grown {row : Option Nat} (h : Blk w g t cs) (hb : w.grownBy w' row) (hg : some g ≠ row) : Blk w' g t cs := (hb.block g h.lt hg).trans h
theorem Blk.c1 {a : Value} (h : Blk w g t #[a]) : w.cell? ⟨g, 0, none⟩ = some a := h.cell 0
theorem Blk.c3 {a b c : Value} (h : Blk w g t #[a, b, c]) : w.cell? ⟨g, 0, none⟩ = some a ∧ w.cell? ⟨g, 1, none⟩ = some b ∧ w.cell? ⟨g, 2, none⟩ = some c := ⟨h.cell 0, h.cell 1, h.cell 2⟩
end

theorem and_six {a b c d e f : Prop} (h : a ∧ b ∧ c) (k : d ∧ e ∧ f) : a ∧ b ∧ c ∧ d ∧ e ∧ f := ⟨h.1, h.2.1, h.2.2, k⟩
/-- Integers that came in, as the shell of a proof tells them. -/
theorem IS.of_row {w : World} {a : Option Addr} {len cap : Nat} {zs : List Int}
    (h : (a = none ∧ len = 0 ∧ cap = 0 ∧ zs = []) ∨
      ∃ x, a = some x ∧ len ≤ cap ∧ cap ≤ maxLen ∧ zs.length = cap ∧ (∀ i, i < zs.length → w.cell? (x.add i) = some (.int .i64 (zs.getD i 0))) ∧ ∀ n ∈ zs, (Lit.int .i64 n).wf = true) :
    IS w a len cap (zs.take len) := by
  rcases h with ⟨rfl, rfl, rfl, rfl⟩ | ⟨x, rfl, hl, hm, hz, hc, _⟩
  · exact IS.nil w
  · refine ⟨by rw [List.length_take]; omega, hl, hm, fun hn => ?_⟩
    obtain ⟨b, off, spot⟩ := x
    have h0 := hc 0 (by omega)
    have hspot : spot = none := by simpa [Addr.add] using World.cell?_spot h0
    subst hspot
    refine ⟨b, off, rfl, fun j hj => ?_⟩
    rw [← add_plain', hc j (by omega)]
    congr 2
    rw [List.getD_eq_getElem?_getD, List.getD_eq_getElem?_getD, List.getElem?_take, if_pos hj]
end Go.Proofs.Ytgnocopknihchaa
