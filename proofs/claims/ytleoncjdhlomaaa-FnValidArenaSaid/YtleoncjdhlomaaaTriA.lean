/-
  append of triples onto triples of the call's own; the numbers that a mark writes.
-/
import Derived.Test.YtleoncjdhlomaaaTri
import Derived.Deep.RegionLaw
namespace Go.Proofs.Ytleoncjdhlomaaa
open Go.RowKit

theorem cellsT_one (xs : List Tr) : ∀ u ∈ cellsT xs, u.oneCell' = true := by
  intro u hu
  obtain ⟨x, _, hx⟩ := List.mem_flatMap.1 hu
  simp at hx
  rcases hx with rfl | rfl | rfl <;> rfl
theorem TS.cells {w : World} {b off n c : Nat} {ys : List Tr} (h : TS w (some ⟨b, off, none⟩) n c ys) : ∀ j u, (cellsT ys)[j]? = some u → w.cell? ((⟨b, off, none⟩ : Addr).add j) = some u := by
  intro j u hj
  have hjl : j < (cellsT ys).length := (List.getElem?_eq_some_iff.1 hj).1
  rw [cellsT_len] at hjl
  have hl := h.1
  obtain ⟨b', off', e, hc⟩ := h.2.2.2.1 (by omega)
  simp only [Option.some.injEq, Addr.mk.injEq, and_true] at e
  obtain ⟨rfl, rfl⟩ := e
  have hx : ys[j / 3]? = some ys[j / 3] := List.getElem?_eq_getElem (by omega)
  obtain ⟨c1, c2, c3⟩ := hc _ _ hx
  obtain ⟨e1, e2, e3⟩ := cellsT_at hx
  rw [add_plain']
  have hm : j % 3 = 0 ∨ j % 3 = 1 ∨ j % 3 = 2 := by omega
  rcases hm with hm | hm | hm
  · have ej : j = j / 3 * 3 := by omega
    rw [ej] at hj ⊢
    have e4 : j / 3 * 3 / 3 = j / 3 := by omega
    rw [e1] at hj
    injection hj with hj
    rw [← hj, c1]
  · have ej : j = j / 3 * 3 + 1 := by omega
    rw [ej] at hj ⊢
    rw [e2] at hj
    injection hj with hj
    rw [← hj, ← Nat.add_assoc, c2]
  · have ej : j = j / 3 * 3 + 2 := by omega
    rw [ej] at hj ⊢
    rw [e3] at hj
    injection hj with hj
    rw [← hj, ← Nat.add_assoc, c3]
theorem run_append_ts {P : Program} {w : World} {t ty T base : Nat} (hinfo : (P.info? T).map (fun i => (i.zero, i.size, i.bytes)) = some (some (.agg #[.int .i64 0, .int .i64 0, .int .i64 0]), 3, 24)) (ht : P.underlying t = some (.slice T))
    {A A2 : Option Addr} {n c m c2 : Nat} {xs ys : List Tr} (hown : OT w T base A n c xs) (hr : TS w A2 m c2 ys) (hb : n + m ≤ 1073741824) (hbase : base ≤ w.heap.size) :
    ∃ A' c' w', (Builtin.append_ #[t, t] ty #[.slice A n c, .slice A2 m c2]).run P w = .ok (.slice A' (n + m) c') w' ∧ OT w' T base A' (n + m) c' (xs ++ ys) ∧ Row w w' A := by
  obtain ⟨i, hi, hz, h1, h2⟩ := info_parts hinfo
  rcases A2 with _ | ad
  · obtain rfl : c2 = 0 := hr.2.2.2.2 rfl
    obtain rfl : m = 0 := by have := hr.2.1; omega
    obtain rfl : ys = [] := List.eq_nil_of_length_eq_zero hr.1
    have hrun := run_append_owned_none (P := P) (w := w) base t ty T i 3 ht hi (.slice A n c) n _ hown
    exact ⟨A, c, w, hrun, by rw [List.append_nil]; exact hown, Row.refl _ _⟩
  · obtain ⟨b, off, spot⟩ := ad
    rcases Nat.eq_zero_or_pos m with h0 | h0
    · subst h0
      obtain rfl : ys = [] := List.eq_nil_of_length_eq_zero hr.1
      obtain ⟨v', w', hrun, hown', hg, _, _⟩ := run_append_own_at (P := P) w base t ty T i (.agg #[.int .i64 0, .int .i64 0, .int .i64 0]) 3 24 ht hi hz h1 h2 rfl (by omega) (.slice A n c) n (cellsT xs) hown ⟨b, off, spot⟩ 0 c2 (cellsT []) rfl (by intro j u hj; simp [cellsT] at hj) (cellsT_one _) (by simp only [maxLen]; omega) (by omega) hbase
      have hown2 : w'.ownsRow base T 3 v' (n + 0) (cellsT (xs ++ [])) := by rw [cellsT_append]; exact hown'
      rcases hown2.2 with ⟨rfl, hn⟩ | ⟨g, cap, cur, rfl, _⟩
      · exact ⟨none, 0, w', by rw [hrun, hn], by unfold OT; rw [hn] at hown2 ⊢; exact hown2, by unfold Row; rw [← own_map (n := n) (c := c)]; exact hg⟩
      · exact ⟨_, _, w', hrun, hown2, by unfold Row; rw [← own_map (n := n) (c := c)]; exact hg⟩
    · obtain ⟨b', off', e, _⟩ := hr.2.2.2.1 h0
      simp only [Option.some.injEq, Addr.mk.injEq] at e
      obtain ⟨rfl, rfl, rfl⟩ := e
      obtain ⟨v', w', hrun, hown', hg, _, _⟩ := run_append_own_at (P := P) w base t ty T i (.agg #[.int .i64 0, .int .i64 0, .int .i64 0]) 3 24 ht hi hz h1 h2 rfl (by omega) (.slice A n c) n (cellsT xs) hown ⟨b, off, none⟩ m c2 (cellsT ys) (by rw [cellsT_len, hr.1]) hr.cells (cellsT_one _) (by simp only [maxLen]; omega) (by omega) hbase
      have hown2 : w'.ownsRow base T 3 v' (n + m) (cellsT (xs ++ ys)) := by rw [cellsT_append]; exact hown'
      rcases hown2.2 with ⟨rfl, hn⟩ | ⟨g, cap, cur, rfl, _⟩
      · omega
      · exact ⟨_, _, w', hrun, hown2, by unfold Row; rw [← own_map (n := n) (c := c)]; exact hg⟩
/-- append of triples onto triples of the call's own. -/
theorem wpList_append_ts {P : Program} (w : World) {ops : Array Oper} {rest : List Oper} {o : Oper} {a : Act} {Q : Exit → Act → World → Prop} (hgd : o.guard = none) (s x : Operand) (t : TypeId)
    (ho : o.op = .call { callee := .builtin .append, args := #[s, x], argTypes := #[t, t] }) (base T : Nat)
    (hinfo : (P.info? T).map (fun i => (i.zero, i.size, i.bytes)) = some (some (.agg #[.int .i64 0, .int .i64 0, .int .i64 0]), 3, 24)) (ht : P.underlying t = some (.slice T))
    (A : Option Addr) (n c : Nat) (xs : List Tr) (hs : a.eval s = .slice A n c) (hown : OT w T base A n c xs)
    (A2 : Option Addr) (m c2 : Nat) (ys : List Tr) (hx : a.eval x = .slice A2 m c2) (hr : TS w A2 m c2 ys) (hb : n + m ≤ 1073741824) (hbase : base ≤ w.heap.size)
    (h : ∀ A' c' w', OT w' T base A' (n + m) c' (xs ++ ys) → Row w w' A → wpList P ops Q rest (a.put o.dst (.slice A' (n + m) c')) w') : wpList P ops Q (o :: rest) a w := by
  refine wpList_plain hgd fun K hK => ?_
  obtain ⟨A', c', w', hrun, h2, h3⟩ := run_append_ts (P := P) (ty := o.type) hinfo ht hown hr hb hbase
  unfold Oper.wp execOp
  simp only [ho, resolve, invoke, builtin, Sem.run_bind, Sem.run_pure, Result.andThen_ok, List.map_toArray, List.map_cons, List.map_nil, hs, hx, hrun]
  exact hK _ _ (h A' c' w' h2 h3)
/-- The same, as one step of a region that draws. -/
theorem step_append_ts {P : Program} {ops : Array Oper} {o : Oper} {a : Act} {w : World} {K : Act → World → Prop} {Q : Exit → Act → World → Prop} {E : Prop} (hg : o.guard = none) (s x : Operand) (t : TypeId)
    (hop : o.op = Op.call { callee := Callee.builtin Builtin.append, args := #[s, x], argTypes := #[t, t] }) (base T : Nat)
    (hinfo : (P.info? T).map (fun i => (i.zero, i.size, i.bytes)) = some (some (.agg #[.int .i64 0, .int .i64 0, .int .i64 0]), 3, 24)) (ht : P.underlying t = some (.slice T))
    (A : Option Addr) (n c : Nat) (xs : List Tr) (hs : a.eval s = .slice A n c) (hown : OT w T base A n c xs)
    (A2 : Option Addr) (m c2 : Nat) (ys : List Tr) (hx : a.eval x = .slice A2 m c2) (hr : TS w A2 m c2 ys) (hb : n + m ≤ 1073741824) (hbase : base ≤ w.heap.size)
    (hK : ∀ A' c' w', OT w' T base A' (n + m) c' (xs ++ ys) → Row w w' A → K (a.put o.dst (.slice A' (n + m) c')) w') :
    if Region.wanted o (yielded ops a.tmps) = true then Oper.wp P o a w K Q else E := by
  have hw : Region.wanted o (yielded ops a.tmps) = true := by simp [Region.wanted, hg]
  rw [if_pos hw]
  obtain ⟨A', c', w', hrun, h2, h3⟩ := run_append_ts (P := P) (ty := o.type) hinfo ht hown hr hb hbase
  unfold Oper.wp
  simp [execOp, hop, resolve, invoke, builtin, hs, hx, hrun, Result.andThen]
  exact hK A' c' w' h2 h3
theorem OT.lit (w : World) (T base : Nat) (xs : List Tr) (hb : base ≤ w.heap.size) (hl : xs.length ≤ 1000) :
    OT (w.alloc (.cells (cellsT xs).toArray T)) T base (some ⟨w.heap.size, 0, none⟩) xs.length xs.length xs := by
  refine ⟨by rw [cellsT_len], .inr ⟨w.heap.size, xs.length, (cellsT xs).toArray, rfl, hb, heap_alloc_new w _, Nat.le_refl _, by simp only [maxLen]; omega, by simp [cellsT_len], ?_⟩⟩
  simp
  rw [List.take_of_length_le (by rw [cellsT_len]; exact Nat.le_refl _)]
/-- The numbers that a mark writes: k, k + 1 and so on. -/
def marks3 (k : Int) (n : Nat) : List Tr := (List.range n).map fun (i : Nat) => ⟨k + 3 * (i : Int), k + 3 * (i : Int) + 1, k + 3 * (i : Int) + 2⟩
theorem marks3_len (k : Int) (n : Nat) : (marks3 k n).length = n := by simp [marks3]
theorem marks3_at {k : Int} {n i : Nat} (h : i < n) : (marks3 k n)[i]? = some ⟨k + 3 * (i : Int), k + 3 * (i : Int) + 1, k + 3 * (i : Int) + 2⟩ := by simp [marks3, h]
theorem marks3_next {k : Int} {i : Nat} {xs : List Tr} (h : i < xs.length) : (marks3 k i ++ xs.drop i).set i ⟨k + 3 * (i : Int), k + 3 * (i : Int) + 1, k + 3 * (i : Int) + 2⟩ = marks3 k (i + 1) ++ xs.drop (i + 1) := by
  have e1 : marks3 k (i + 1) = marks3 k i ++ [⟨k + 3 * (i : Int), k + 3 * (i : Int) + 1, k + 3 * (i : Int) + 2⟩] := by simp [marks3, List.range_succ]
  have e2 : xs.drop i = xs[i] :: xs.drop (i + 1) := List.drop_eq_getElem_cons h
  have h1 : i - (marks3 k i).length = 0 := by rw [marks3_len]; omega
  rw [e1, e2, List.set_append_right _ _ (by rw [marks3_len]; omega), h1]
  simp only [List.set_cons_zero, List.append_assoc, List.cons_append, List.nil_append]
theorem OT.storedRow {w : World} {T base g n c : Nat} {xs : List Tr} (h : OT w T base (some ⟨g, 0, none⟩) n c xs) (j : Nat) (x : Tr) :
    Row w (((w.setCell ⟨g, j * 3, none⟩ (.int .i64 x.a)).setCell ⟨g, j * 3 + 1, none⟩ (.int .i64 x.b)).setCell ⟨g, j * 3 + 2, none⟩ (.int .i64 x.c)) (some ⟨g, 0, none⟩) := by
  have h1 := World.ownsRow.stored h (j * 3) (.int .i64 x.a)
  have h2 := World.ownsRow.stored h1.1 (j * 3 + 1) (.int .i64 x.b)
  have h3 := World.ownsRow.stored h2.1 (j * 3 + 2) (.int .i64 x.c)
  exact (World.grownBy.trans h1.2 h2.2).trans h3.2
theorem cellsT_setb {xs : List Tr} {j : Nat} {x : Tr} (h : xs[j]? = some x) (v : Int) : (cellsT xs).set (j * 3 + 1) (.int .i64 v) = cellsT (xs.set j ⟨x.a, v, x.c⟩) := by
  induction xs generalizing j with
  | nil => simp at h
  | cons y xs ih =>
    have e : ∀ z : Tr, ∀ l, cellsT (z :: l) = .int .i64 z.a :: .int .i64 z.b :: .int .i64 z.c :: cellsT l := fun z l => by simp [cellsT]
    rcases j with _ | j
    · simp at h; subst h; simp [e]
    · simp at h
      have e1 : (j + 1) * 3 + 1 = j * 3 + 1 + 3 := by omega
      rw [e1, List.set_cons_succ, e, e]
      simp only [List.set_cons_succ]
      rw [ih h]
theorem OT.putb {w : World} {T base g n c : Nat} {xs : List Tr} (h : OT w T base (some ⟨g, 0, none⟩) n c xs) {j : Nat} {x : Tr} (hx : xs[j]? = some x) (v : Int) :
    OT (w.setCell ⟨g, j * 3 + 1, none⟩ (.int .i64 v)) T base (some ⟨g, 0, none⟩) n c (xs.set j ⟨x.a, v, x.c⟩) := by
  unfold OT
  rw [← cellsT_setb hx]
  exact (World.ownsRow.stored h (j * 3 + 1) (.int .i64 v)).1
end Go.Proofs.Ytleoncjdhlomaaa
