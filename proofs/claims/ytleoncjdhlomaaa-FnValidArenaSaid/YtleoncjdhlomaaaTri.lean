/-
  Plain words for memory, over any program: a slice of structs of three integers that reads as a list.
-/
import Derived.Test.YtleoncjdhlomaaaBase
namespace Go.Proofs.Ytleoncjdhlomaaa
open Go.RowKit

structure Tr where
  a : Int
  b : Int
  c : Int
  deriving DecidableEq, Inhabited

/-- The slice value 'slice A n c' holds the triples xs. -/
def TS (w : World) (A : Option Addr) (n c : Nat) (xs : List Tr) : Prop :=
  xs.length = n ∧ n ≤ c ∧ c ≤ maxLen ∧
    (0 < n → ∃ b off, A = some ⟨b, off, none⟩ ∧ ∀ j x, xs[j]? = some x → w.cell? ⟨b, off + j * 3, none⟩ = some (.int .i64 x.a) ∧ w.cell? ⟨b, off + j * 3 + 1, none⟩ = some (.int .i64 x.b) ∧ w.cell? ⟨b, off + j * 3 + 2, none⟩ = some (.int .i64 x.c)) ∧ (A = none → c = 0)
section
variable {w w' : World} {A : Option Addr} {n c : Nat} {xs : List Tr}
theorem TS.len (h : TS w A n c xs) : xs.length = n := h.1
theorem TS.cap (h : TS w A n c xs) : n ≤ 9223372036854775807 := by
  have h1 := h.2.1
  have h2 := h.2.2.1
  simp only [maxLen] at h2
  omega
theorem TS.nil (w : World) : TS w none 0 0 [] := ⟨rfl, Nat.le_refl _, by simp [maxLen], fun h => absurd h (by omega), fun _ => rfl⟩
theorem TS.at_ (h : TS w A n c xs) {k : Nat} (hk : k < n) :
    ∃ b off x, A = some ⟨b, off, none⟩ ∧ xs[k]? = some x ∧ w.cell? ⟨b, off + k * 3, none⟩ = some (.int .i64 x.a) ∧ w.cell? ⟨b, off + k * 3 + 1, none⟩ = some (.int .i64 x.b) ∧ w.cell? ⟨b, off + k * 3 + 2, none⟩ = some (.int .i64 x.c) := by
  obtain ⟨b, off, e, hc⟩ := h.2.2.2.1 (by omega)
  have hl : k < xs.length := by have := h.1; omega
  exact ⟨b, off, xs[k], e, List.getElem?_eq_getElem hl, hc k _ (List.getElem?_eq_getElem hl)⟩
theorem TS.keep (h : TS w A n c xs) (hk : ∀ p : Addr, p.block < w.heap.size → w'.cell? p = w.cell? p) : TS w' A n c xs := by
  refine ⟨h.1, h.2.1, h.2.2.1, fun hn => ?_, h.2.2.2.2⟩
  obtain ⟨b, off, e, hc⟩ := h.2.2.2.1 hn
  refine ⟨b, off, e, fun j x hj => ?_⟩
  obtain ⟨h1, h2, h3⟩ := hc j x hj
  have hb : b < w.heap.size := World.block_lt_of_cell? w ⟨b, off + j * 3, none⟩ h1
  exact ⟨(hk _ hb).trans h1, (hk ⟨b, off + j * 3 + 1, none⟩ hb).trans h2, (hk ⟨b, off + j * 3 + 2, none⟩ hb).trans h3⟩
theorem TS.below {B : Nat} (h : TS w A n c xs) (hb : Below B w w') (hB : w.heap.size ≤ B) : TS w' A n c xs :=
  h.keep fun p hp => hb.cell (by omega)
theorem TS.drewN (h : TS w A n c xs) (k : Nat) : TS (w.drewN k) A n c xs := h
theorem TS.drew (h : TS w A n c xs) : TS w.drew A n c xs := h
theorem TS.alloc (h : TS w A n c xs) (o : Obj) : TS (w.alloc o) A n c xs := h.keep fun p hp => World.cell?_alloc_lt w o p hp
theorem TS.regrown (h : TS w A n c xs) (d : Nat) (os : Array Obj) : TS (Go.Sort.grow (redrawn w d) os) A n c xs := h.below (below_regrown w d os) (Nat.le_refl _)
theorem TS.kept (h : TS w A n c xs) (hk : ∀ p : Addr, A = some p → p.block < w.heap.size → w'.heap[p.block]? = w.heap[p.block]?) : TS w' A n c xs := by
  refine ⟨h.1, h.2.1, h.2.2.1, fun hn => ?_, h.2.2.2.2⟩
  obtain ⟨b, off, rfl, hc⟩ := h.2.2.2.1 hn
  refine ⟨b, off, rfl, fun j x hj => ?_⟩
  obtain ⟨h1, h2, h3⟩ := hc j x hj
  have hlt := World.block_lt_of_cell? w ⟨b, off + j * 3, none⟩ h1
  have hq := hk ⟨b, off, none⟩ rfl hlt
  refine ⟨?_, ?_, ?_⟩
  · rw [← h1]; exact World.cell?_of_block hq
  · rw [← h2]; exact World.cell?_of_block hq
  · rw [← h3]; exact World.cell?_of_block hq
theorem TS.away {A2 : Option Addr} (h : TS w A n c xs) (hg : Row w w' A2) (hd : Disj A A2) : TS w' A n c xs :=
  h.kept fun p hp hlt => hg.block p.block hlt (row_ne hd hp)
theorem TS.setCell (h : TS w A n c xs) {p : Addr} (hd : Disj (some ⟨p.block, 0, none⟩) A) (u : Value) : TS (w.setCell p u) A n c xs :=
  h.kept fun q hq _ => Below.heap_setCell w p u q.block (fun e => hd _ _ rfl hq e.symm)
end
/-- The cells of triples. -/
def cellsT (xs : List Tr) : List Value := xs.flatMap fun x => [.int .i64 x.a, .int .i64 x.b, .int .i64 x.c]
theorem cellsT_len (xs : List Tr) : (cellsT xs).length = xs.length * 3 := by
  induction xs with
  | nil => rfl
  | cons x xs ih => simp [cellsT] at ih ⊢; omega
theorem cellsT_append (xs ys : List Tr) : cellsT (xs ++ ys) = cellsT xs ++ cellsT ys := by simp [cellsT]
theorem cellsT_at {xs : List Tr} {j : Nat} {x : Tr} (h : xs[j]? = some x) : (cellsT xs)[j * 3]? = some (.int .i64 x.a) ∧ (cellsT xs)[j * 3 + 1]? = some (.int .i64 x.b) ∧ (cellsT xs)[j * 3 + 2]? = some (.int .i64 x.c) := by
  induction xs generalizing j with
  | nil => simp at h
  | cons y xs ih =>
    rcases j with _ | j
    · simp at h; subst h; simp [cellsT]
    · simp at h
      obtain ⟨h1, h2, h3⟩ := ih h
      have e : cellsT (y :: xs) = [.int .i64 y.a, .int .i64 y.b, .int .i64 y.c] ++ cellsT xs := by simp [cellsT]
      have e1 : (j + 1) * 3 = j * 3 + 3 := by omega
      rw [e, e1]
      refine ⟨?_, ?_, ?_⟩
      · rw [List.getElem?_append_right (by simp)]; simpa using h1
      · rw [List.getElem?_append_right (by simp)]; simpa using h2
      · rw [List.getElem?_append_right (by simp)]; simpa using h3
/-- The slice value 'slice A n c' is the call's own, and holds the triples xs. T: the number of the struct's type. -/
def OT (w : World) (T base : Nat) (A : Option Addr) (n c : Nat) (xs : List Tr) : Prop :=
  w.ownsRow base T 3 (.slice A n c) n (cellsT xs)
section
variable {w w' : World} {T base : Nat} {A : Option Addr} {n c : Nat} {xs : List Tr}
theorem OT.len (h : OT w T base A n c xs) : xs.length = n := by
  have h1 := h.1
  rw [cellsT_len] at h1
  omega
theorem OT.form (h : OT w T base A n c xs) : (A = none ∧ n = 0 ∧ c = 0) ∨ ∃ g, A = some ⟨g, 0, none⟩ ∧ base ≤ g ∧ g < w.heap.size := by
  rcases h.2 with ⟨h1, h2⟩ | ⟨g, cap, cur, hv, hb, hg, _⟩
  · simp only [Value.slice.injEq] at h1
    exact .inl ⟨h1.1, h2, h1.2.2⟩
  · simp only [Value.slice.injEq, true_and] at hv
    exact .inr ⟨g, hv.1, hb, (Array.getElem?_eq_some_iff.1 hg).1⟩
theorem OT.pos (h : OT w T base A n c xs) (hn : 0 < n) : ∃ g, A = some ⟨g, 0, none⟩ ∧ base ≤ g ∧ g < w.heap.size := by
  rcases h.form with ⟨_, h0, _⟩ | h1
  · omega
  · exact h1
theorem OT.ts (h : OT w T base A n c xs) : TS w A n c xs := by
  have hl := h.len
  rcases h.2 with ⟨h1, h2⟩ | ⟨g, cap, cur, hv, hb, hg, hnc, hm, _⟩
  · simp only [Value.slice.injEq] at h1
    obtain ⟨rfl, _, rfl⟩ := h1
    subst h2
    exact ⟨hl, Nat.le_refl _, by simp [maxLen], fun h => absurd h (by omega), fun _ => rfl⟩
  · simp only [Value.slice.injEq, true_and] at hv
    obtain ⟨rfl, rfl⟩ := hv
    refine ⟨hl, hnc, hm, fun _ => ⟨g, 0, rfl, fun j x hj => ?_⟩, fun h => by cases h⟩
    have hjn : j < n := by have := (List.getElem?_eq_some_iff.1 hj).1; omega
    obtain ⟨e1, e2, e3⟩ := cellsT_at hj
    have k1 := World.ownsRow.cellAt h (j * 3) (by omega)
    have k2 := World.ownsRow.cellAt h (j * 3 + 1) (by omega)
    have k3 := World.ownsRow.cellAt h (j * 3 + 2) (by omega)
    rw [Nat.zero_add]
    exact ⟨k1.trans e1, k2.trans e2, k3.trans e3⟩
theorem OT.kept (h : OT w T base A n c xs) (hb : ∀ g, A = some ⟨g, 0, none⟩ → g < w.heap.size → w'.heap[g]? = w.heap[g]?) : OT w' T base A n c xs := by
  refine ⟨h.1, ?_⟩
  rcases h.2 with h1 | ⟨g, cap, cur, hv, hbg, hg, r⟩
  · exact .inl h1
  · simp only [Value.slice.injEq, true_and] at hv
    obtain ⟨rfl, rfl⟩ := hv
    exact .inr ⟨g, c, cur, rfl, hbg, by rw [hb g rfl (Array.getElem?_eq_some_iff.1 hg).1]; exact hg, r⟩
theorem OT.below {B : Nat} (h : OT w T base A n c xs) (hb : Below B w w') (hB : w.heap.size ≤ B) : OT w' T base A n c xs :=
  h.kept fun g _ hg => hb.block g (by omega)
theorem OT.drewN (h : OT w T base A n c xs) (k : Nat) : OT (w.drewN k) T base A n c xs := h
theorem OT.drew (h : OT w T base A n c xs) : OT w.drew T base A n c xs := h
theorem OT.base_le {base' : Nat} (h : OT w T base A n c xs) (hb : base' ≤ base) : OT w T base' A n c xs := by
  refine ⟨h.1, ?_⟩
  rcases h.2 with h1 | ⟨g, cap, cur, hv, hbg, r⟩
  · exact .inl h1
  · exact .inr ⟨g, cap, cur, hv, Nat.le_trans hb hbg, r⟩
theorem OT.setCell (h : OT w T base A n c xs) {p : Addr} (hp : p.block < base) (u : Value) : OT (w.setCell p u) T base A n c xs :=
  ownsRow_setCell_below h hp u
theorem OT.alloc (h : OT w T base A n c xs) (o : Obj) : OT (w.alloc o) T base A n c xs := World.ownsRow.alloc h o
theorem OT.lt (h : OT w T base A n c xs) : Lt A w.heap.size := fun p hp => by
  rcases h.form with ⟨rfl, _⟩ | ⟨g, rfl, _, hg⟩
  · cases hp
  · simp only [Option.some.injEq] at hp
    subst hp
    exact hg
theorem OT.ge (h : OT w T base A n c xs) : Ge A base := fun p hp => by
  rcases h.form with ⟨rfl, _⟩ | ⟨g, rfl, hg, _⟩
  · cases hp
  · simp only [Option.some.injEq] at hp
    subst hp
    exact hg
theorem OT.away {A2 : Option Addr} (h : OT w T base A n c xs) (hg : Row w w' A2) (hd : Disj A A2) : OT w' T base A n c xs :=
  h.kept fun g e hlt => hg.block g hlt (row_ne hd e)
theorem OT.nil (w : World) (T base : Nat) : OT w T base none 0 0 [] := ⟨rfl, .inl ⟨rfl, rfl⟩⟩
theorem OT.setCell2 (h : OT w T base A n c xs) {p : Addr} (hp : p.block < base ∨ Disj (some ⟨p.block, 0, none⟩) A) (u : Value) : OT (w.setCell p u) T base A n c xs := by
  rcases hp with hp | hp
  · exact h.setCell hp u
  · exact h.kept fun g e _ => Below.heap_setCell w p u g (fun e2 => hp _ _ rfl e (by simp [e2]))
end
theorem set_at_append {α : Type} (xs ys : List α) (i : Nat) (v : α) (h : i = xs.length) (_hy : 0 < ys.length) : (xs ++ ys).set i v = xs ++ (ys.set 0 v) := by
  subst h
  rw [List.set_append_right _ _ (Nat.le_refl _)]
  simp
theorem cellsT_set {xs : List Tr} {j : Nat} (hj : j < xs.length) (x : Tr) :
    (((cellsT xs).set (j * 3) (.int .i64 x.a)).set (j * 3 + 1) (.int .i64 x.b)).set (j * 3 + 2) (.int .i64 x.c) = cellsT (xs.set j x) := by
  induction xs generalizing j with
  | nil => simp at hj
  | cons y xs ih =>
    have e : ∀ z : Tr, cellsT (z :: xs) = .int .i64 z.a :: .int .i64 z.b :: .int .i64 z.c :: cellsT xs := fun z => by simp [cellsT]
    rcases j with _ | j
    · rw [e]; simp [cellsT]
    · have e1 : (j + 1) * 3 = j * 3 + 3 := by omega
      have := ih (j := j) (by simpa using hj)
      rw [e, e1]
      simp only [List.set_cons_succ, List.set]
      rw [this]
      simp [cellsT]
theorem OT.stored {w : World} {T base g n c : Nat} {xs : List Tr} (h : OT w T base (some ⟨g, 0, none⟩) n c xs) {j : Nat} (hj : j < n) (x : Tr) :
    OT (((w.setCell ⟨g, j * 3, none⟩ (.int .i64 x.a)).setCell ⟨g, j * 3 + 1, none⟩ (.int .i64 x.b)).setCell ⟨g, j * 3 + 2, none⟩ (.int .i64 x.c)) T base (some ⟨g, 0, none⟩) n c (xs.set j x) := by
  have hl := h.len
  unfold OT
  rw [← cellsT_set (by omega)]
  have h1 := (World.ownsRow.stored h (j * 3) (.int .i64 x.a)).1
  have h2 := (World.ownsRow.stored h1 (j * 3 + 1) (.int .i64 x.b)).1
  exact (World.ownsRow.stored h2 (j * 3 + 2) (.int .i64 x.c)).1
end Go.Proofs.Ytleoncjdhlomaaa
