/-
  append of triples onto an empty slice that has just been made.
-/
import Derived.Test.YtmlnaijpbfddaaaTriA
namespace Go.Proofs.Ytmlnaijpbfddaaa
open Go.RowKit
/-- The address lies in one of two blocks. -/
def OneOf (A : Option Addr) (g h : Nat) : Prop := ∀ p, A = some p → p.block = g ∨ p.block = h
theorem OneOf.disj {A A2 : Option Addr} {g h : Nat} (k : OneOf A g h) (h1 : Disj (some ⟨g, 0, none⟩) A2) (h2 : Disj (some ⟨h, 0, none⟩) A2) : Disj A A2 := fun p q hp hq => by
  rcases k p hp with e | e
  · rw [e]; exact h1 _ q rfl hq
  · rw [e]; exact h2 _ q rfl hq
theorem run_append_new {P : Program} {w : World} {t ty T g b0 : Nat} (hinfo : (P.info? T).map (fun i => (i.zero, i.size, i.bytes)) = some (some (.agg #[.int .i64 0, .int .i64 0, .int .i64 0]), 3, 24)) (ht : P.underlying t = some (.slice T))
    {A2 : Option Addr} {m c2 : Nat} {ys : List Tr} (hg : Blk w g T #[]) (hr : TS w A2 m c2 ys) (hb : m ≤ 1073741824) (hb0 : b0 ≤ g) :
    ∃ A' c' w', (Builtin.append_ #[t, t] ty #[.slice (some ⟨g, 0, none⟩) 0 0, .slice A2 m c2]).run P w = .ok (.slice A' m c') w' ∧ OT w' T b0 A' m c' ys ∧ Below w.heap.size w w' ∧ OneOf A' g w.heap.size := by
  obtain ⟨i, hi, hz, h1, h2⟩ := info_parts hinfo
  have hlt := hg.lt
  have own0 : OT w T b0 (some ⟨g, 0, none⟩) 0 0 [] := ⟨rfl, .inr ⟨g, 0, #[], rfl, hb0, hg, Nat.le_refl _, by simp [maxLen], by simp, by simp [cellsT]⟩⟩
  rcases A2 with _ | ad
  · obtain rfl : c2 = 0 := hr.2.2.2.2 rfl
    obtain rfl : m = 0 := by have := hr.2.1; omega
    obtain rfl : ys = [] := List.eq_nil_of_length_eq_zero hr.1
    have hrun := run_append_owned_none (P := P) (w := w) b0 t ty T i 3 ht hi (.slice (some ⟨g, 0, none⟩) 0 0) 0 _ own0
    exact ⟨_, 0, w, hrun, own0, Below.refl _ _, fun p hp => by cases hp; exact .inl rfl⟩
  · rcases Nat.eq_zero_or_pos m with h0 | h0
    · subst h0
      obtain rfl : ys = [] := List.eq_nil_of_length_eq_zero hr.1
      have hrun := run_append_room (P := P) w t ty T i ht hi g 0 0 #[] hg ad 0 c2 [] (by simp) (by intro j u hj; simp at hj) (by simp) (Nat.le_refl _) (by simp)
      have e : w.setRow g (((#[] : Array Value).toList.take (0 * i.size) ++ [] ++ (#[] : Array Value).toList.drop (0 * i.size + ([] : List Value).length)).toArray) = w.setRow g #[] := by simp
      rw [e] at hrun
      have hB : Below w.heap.size w (w.setRow g #[]) := ⟨rfl, rfl, rfl, by simp [World.setRow], fun k hk => by
        by_cases hk2 : k = g
        · subst hk2
          rw [setRow_heap w k #[] #[] T (0, 0) hg]
          exact hg.symm
        · exact setRow_other w g k #[] hk2⟩
      exact ⟨_, 0, _, hrun, own0.below hB (Nat.le_refl _), hB, fun p hp => by cases hp; exact .inl rfl⟩
    · obtain ⟨b, off, spot⟩ := ad
      obtain ⟨b', off', e, _⟩ := hr.2.2.2.1 h0
      simp only [Option.some.injEq, Addr.mk.injEq] at e
      obtain ⟨rfl, rfl, rfl⟩ := e
      have hl : (cellsT ys).length = m * i.size := by rw [cellsT_len, hr.1, h1]
      have hrun := run_append_grow (P := P) w t ty T i (.agg #[.int .i64 0, .int .i64 0, .int .i64 0]) ht hi hz ⟨g, 0, none⟩ 0 0 [] (by simp) (by intro j u hj; simp at hj) ⟨b, off, none⟩ m c2 (cellsT ys) hl hr.cells (by omega) (by omega) (growslice_fits (by omega) (by rw [h2]; omega))
      have hge := grownCap_ge w (0 + m) 0 T
      have hcm : grownCap w (0 + m) 0 T ≤ maxLen := grownCap_le_maxLen w (0 + m) 0 T (by simp only [maxLen]; omega)
      rw [Nat.zero_add] at hge hcm
      refine ⟨_, _, _, by rw [hrun]; simp only [Nat.zero_add]; rfl, ?_, (Below.refl w.heap.size w).drew.alloc (Nat.le_refl _) _, fun p hp => by cases hp; exact .inr rfl⟩
      refine ⟨by rw [cellsT_len, hr.1], .inr ⟨w.heap.size, _, _, rfl, by omega, heap_alloc_new w.drew _, by omega, by simpa using hcm, ?_, ?_⟩⟩
      · simp only [Array.size_append, List.size_toArray, size_zeroCells, hl, h1, List.length_nil, Nat.zero_add]
        rw [show (Value.agg #[.int .i64 0, .int .i64 0, .int .i64 0]).cells.size = 3 from rfl, ← Nat.add_mul]
        congr 1
        omega
      · simp only [Array.toList_append, List.append_assoc]
        have hl3 : (cellsT ys).length = m * 3 := by rw [cellsT_len, hr.1]
        rw [← hl3]
        simp
/-- append of triples onto an empty slice that has just been made. -/
theorem wpList_append_new {P : Program} (w : World) {ops : Array Oper} {rest : List Oper} {o : Oper} {a : Act} {Q : Exit → Act → World → Prop} (hgd : o.guard = none) (s x : Operand) (t : TypeId)
    (ho : o.op = .call { callee := .builtin .append, args := #[s, x], argTypes := #[t, t] }) (T g b0 : Nat)
    (hinfo : (P.info? T).map (fun i => (i.zero, i.size, i.bytes)) = some (some (.agg #[.int .i64 0, .int .i64 0, .int .i64 0]), 3, 24)) (ht : P.underlying t = some (.slice T))
    (hs : a.eval s = .slice (some ⟨g, 0, none⟩) 0 0) (hg : Blk w g T #[])
    (A2 : Option Addr) (m c2 : Nat) (ys : List Tr) (hx : a.eval x = .slice A2 m c2) (hr : TS w A2 m c2 ys) (hb : m ≤ 1073741824) (hb0 : b0 ≤ g)
    (h : ∀ A' c' w', OT w' T b0 A' m c' ys → Below w.heap.size w w' → OneOf A' g w.heap.size → wpList P ops Q rest (a.put o.dst (.slice A' m c')) w') : wpList P ops Q (o :: rest) a w := by
  refine wpList_plain hgd fun K hK => ?_
  obtain ⟨A', c', w', hrun, h2, h3, h4⟩ := run_append_new (P := P) (ty := o.type) hinfo ht hg hr hb hb0
  unfold Oper.wp execOp
  simp only [ho, resolve, invoke, builtin, Sem.run_bind, Sem.run_pure, Result.andThen_ok, List.map_toArray, List.map_cons, List.map_nil, hs, hx, hrun]
  exact hK _ _ (h A' c' w' h2 h3 h4)
/-- The same, as one step of a region that draws. -/
theorem step_append_new {P : Program} {ops : Array Oper} {o : Oper} {a : Act} {w : World} {K : Act → World → Prop} {Q : Exit → Act → World → Prop} {E : Prop} (hg0 : o.guard = none) (s x : Operand) (t : TypeId)
    (hop : o.op = Op.call { callee := Callee.builtin Builtin.append, args := #[s, x], argTypes := #[t, t] }) (T g b0 : Nat)
    (hinfo : (P.info? T).map (fun i => (i.zero, i.size, i.bytes)) = some (some (.agg #[.int .i64 0, .int .i64 0, .int .i64 0]), 3, 24)) (ht : P.underlying t = some (.slice T))
    (hs : a.eval s = .slice (some ⟨g, 0, none⟩) 0 0) (hg : Blk w g T #[])
    (A2 : Option Addr) (m c2 : Nat) (ys : List Tr) (hx : a.eval x = .slice A2 m c2) (hr : TS w A2 m c2 ys) (hb : m ≤ 1073741824) (hb0 : b0 ≤ g)
    (hK : ∀ A' c' w', OT w' T b0 A' m c' ys → Below w.heap.size w w' → OneOf A' g w.heap.size → K (a.put o.dst (.slice A' m c')) w') :
    if Region.wanted o (yielded ops a.tmps) = true then Oper.wp P o a w K Q else E := by
  have hw : Region.wanted o (yielded ops a.tmps) = true := by simp [Region.wanted, hg0]
  rw [if_pos hw]
  obtain ⟨A', c', w', hrun, h2, h3, h4⟩ := run_append_new (P := P) (ty := o.type) hinfo ht hg hr hb hb0
  unfold Oper.wp
  simp [execOp, hop, resolve, invoke, builtin, hs, hx, hrun, Result.andThen]
  exact hK A' c' w' h2 h3 h4
/-- The address lies in the same block as another one, or in a given one. -/
def Near (A' A : Option Addr) (h : Nat) : Prop := A'.map (·.block) = A.map (·.block) ∨ A'.map (·.block) = some h
theorem Near.disj {A' A D : Option Addr} {h : Nat} (k : Near A' A h) (h1 : Disj A D) (h2 : Lt D h) : Disj A' D := fun p q hp hq => by
  have hq2 := h2 q hq
  rcases k with e | e
  · rw [hp] at e
    rcases A with _ | r
    · simp at e
    · simp at e
      rw [e]; exact h1 r q rfl hq
  · rw [hp] at e
    simp at e
    omega
theorem run_append_ts2 {P : Program} {w : World} {t ty T base : Nat} (hinfo : (P.info? T).map (fun i => (i.zero, i.size, i.bytes)) = some (some (.agg #[.int .i64 0, .int .i64 0, .int .i64 0]), 3, 24)) (ht : P.underlying t = some (.slice T))
    {A A2 : Option Addr} {n c m c2 : Nat} {xs ys : List Tr} (hown : OT w T base A n c xs) (hr : TS w A2 m c2 ys) (hb : n + m ≤ 1073741824) (hbase : base ≤ w.heap.size) :
    ∃ A' c' w', (Builtin.append_ #[t, t] ty #[.slice A n c, .slice A2 m c2]).run P w = .ok (.slice A' (n + m) c') w' ∧ OT w' T base A' (n + m) c' (xs ++ ys) ∧ Row w w' A ∧ Near A' A w.heap.size := by
  obtain ⟨i, hi, hz, h1, h2⟩ := info_parts hinfo
  rcases A2 with _ | ad
  · obtain rfl : c2 = 0 := hr.2.2.2.2 rfl
    obtain rfl : m = 0 := by have := hr.2.1; omega
    obtain rfl : ys = [] := List.eq_nil_of_length_eq_zero hr.1
    have hrun := run_append_owned_none (P := P) (w := w) base t ty T i 3 ht hi (.slice A n c) n _ hown
    exact ⟨A, c, w, hrun, by rw [List.append_nil]; exact hown, Row.refl _ _, .inl rfl⟩
  · obtain ⟨b, off, spot⟩ := ad
    rcases Nat.eq_zero_or_pos m with h0 | h0
    · subst h0
      obtain rfl : ys = [] := List.eq_nil_of_length_eq_zero hr.1
      obtain ⟨v', w', hrun, hown', hg, _, hat⟩ := run_append_own_at (P := P) w base t ty T i (.agg #[.int .i64 0, .int .i64 0, .int .i64 0]) 3 24 ht hi hz h1 h2 rfl (by omega) (.slice A n c) n (cellsT xs) hown ⟨b, off, spot⟩ 0 c2 (cellsT []) rfl (by intro j u hj; simp [cellsT] at hj) (cellsT_one _) (by simp only [maxLen]; omega) (by omega) hbase
      have hown2 : w'.ownsRow base T 3 v' (n + 0) (cellsT (xs ++ [])) := by rw [cellsT_append]; exact hown'
      rcases hown2.2 with ⟨rfl, hn⟩ | ⟨g, cap, cur, rfl, _⟩
      · exact ⟨none, 0, w', by rw [hrun, hn], by unfold OT; rw [hn] at hown2 ⊢; exact hown2, by unfold Row; rw [← own_map (n := n) (c := c)]; exact hg, by rw [own_map, own_map] at hat; exact hat⟩
      · exact ⟨_, _, w', hrun, hown2, by unfold Row; rw [← own_map (n := n) (c := c)]; exact hg, by rw [own_map, own_map] at hat; exact hat⟩
    · obtain ⟨b', off', e, _⟩ := hr.2.2.2.1 h0
      simp only [Option.some.injEq, Addr.mk.injEq] at e
      obtain ⟨rfl, rfl, rfl⟩ := e
      obtain ⟨v', w', hrun, hown', hg, _, hat⟩ := run_append_own_at (P := P) w base t ty T i (.agg #[.int .i64 0, .int .i64 0, .int .i64 0]) 3 24 ht hi hz h1 h2 rfl (by omega) (.slice A n c) n (cellsT xs) hown ⟨b, off, none⟩ m c2 (cellsT ys) (by rw [cellsT_len, hr.1]) hr.cells (cellsT_one _) (by simp only [maxLen]; omega) (by omega) hbase
      have hown2 : w'.ownsRow base T 3 v' (n + m) (cellsT (xs ++ ys)) := by rw [cellsT_append]; exact hown'
      rcases hown2.2 with ⟨rfl, hn⟩ | ⟨g, cap, cur, rfl, _⟩
      · omega
      · exact ⟨_, _, w', hrun, hown2, by unfold Row; rw [← own_map (n := n) (c := c)]; exact hg, by rw [own_map, own_map] at hat; exact hat⟩
/-- append of triples onto triples of the call's own, and where the answer lies. -/
theorem wpList_append_ts2 {P : Program} (w : World) {ops : Array Oper} {rest : List Oper} {o : Oper} {a : Act} {Q : Exit → Act → World → Prop} (hgd : o.guard = none) (s x : Operand) (t : TypeId)
    (ho : o.op = .call { callee := .builtin .append, args := #[s, x], argTypes := #[t, t] }) (base T : Nat)
    (hinfo : (P.info? T).map (fun i => (i.zero, i.size, i.bytes)) = some (some (.agg #[.int .i64 0, .int .i64 0, .int .i64 0]), 3, 24)) (ht : P.underlying t = some (.slice T))
    (A : Option Addr) (n c : Nat) (xs : List Tr) (hs : a.eval s = .slice A n c) (hown : OT w T base A n c xs)
    (A2 : Option Addr) (m c2 : Nat) (ys : List Tr) (hx : a.eval x = .slice A2 m c2) (hr : TS w A2 m c2 ys) (hb : n + m ≤ 1073741824) (hbase : base ≤ w.heap.size)
    (h : ∀ A' c' w', OT w' T base A' (n + m) c' (xs ++ ys) → Row w w' A → Near A' A w.heap.size → wpList P ops Q rest (a.put o.dst (.slice A' (n + m) c')) w') : wpList P ops Q (o :: rest) a w := by
  refine wpList_plain hgd fun K hK => ?_
  obtain ⟨A', c', w', hrun, h2, h3, h4⟩ := run_append_ts2 (P := P) (ty := o.type) hinfo ht hown hr hb hbase
  unfold Oper.wp execOp
  simp only [ho, resolve, invoke, builtin, Sem.run_bind, Sem.run_pure, Result.andThen_ok, List.map_toArray, List.map_cons, List.map_nil, hs, hx, hrun]
  exact hK _ _ (h A' c' w' h2 h3 h4)
/-- The same, as one step of a region that draws. -/
theorem step_append_ts2 {P : Program} {ops : Array Oper} {o : Oper} {a : Act} {w : World} {K : Act → World → Prop} {Q : Exit → Act → World → Prop} {E : Prop} (hg0 : o.guard = none) (s x : Operand) (t : TypeId)
    (hop : o.op = Op.call { callee := Callee.builtin Builtin.append, args := #[s, x], argTypes := #[t, t] }) (base T : Nat)
    (hinfo : (P.info? T).map (fun i => (i.zero, i.size, i.bytes)) = some (some (.agg #[.int .i64 0, .int .i64 0, .int .i64 0]), 3, 24)) (ht : P.underlying t = some (.slice T))
    (A : Option Addr) (n c : Nat) (xs : List Tr) (hs : a.eval s = .slice A n c) (hown : OT w T base A n c xs)
    (A2 : Option Addr) (m c2 : Nat) (ys : List Tr) (hx : a.eval x = .slice A2 m c2) (hr : TS w A2 m c2 ys) (hb : n + m ≤ 1073741824) (hbase : base ≤ w.heap.size)
    (hK : ∀ A' c' w', OT w' T base A' (n + m) c' (xs ++ ys) → Row w w' A → Near A' A w.heap.size → K (a.put o.dst (.slice A' (n + m) c')) w') :
    if Region.wanted o (yielded ops a.tmps) = true then Oper.wp P o a w K Q else E := by
  have hw : Region.wanted o (yielded ops a.tmps) = true := by simp [Region.wanted, hg0]
  rw [if_pos hw]
  obtain ⟨A', c', w', hrun, h2, h3, h4⟩ := run_append_ts2 (P := P) (ty := o.type) hinfo ht hown hr hb hbase
  unfold Oper.wp
  simp [execOp, hop, resolve, invoke, builtin, hs, hx, hrun, Result.andThen]
  exact hK A' c' w' h2 h3 h4
end Go.Proofs.Ytmlnaijpbfddaaa
