/-
  append of integers, with what is known of where it lies.
-/
import Derived.Test.YthbdcindhkjboaaOwn
import Derived.Deep.RegionLaw
namespace Go.Proofs.Ythbdcindhkjboaa
open Go.RowKit


def Near (A' A : Option Addr) (h : Nat) : Prop := A'.map (·.block) = A.map (·.block) ∨ A'.map (·.block) = some h
theorem Near.disj {A' A D : Option Addr} {h : Nat} (k : Near A' A h) (h1 : Disj A D) (h2 : Lt D h) : Disj A' D := fun p q hp hq => by
  have hq2 := h2 q hq
  rcases k with e | e
  · rw [hp] at e
    rcases A with _ | r
    · simp at e
    · simp at e
      rw [e]; exact h1 r q rfl hq
  · rw [hp] at e
    simp at e
    omega
theorem run_append_is {P : Program} {w : World} {t ty T base : Nat} (hinfo : (P.info? T).map (fun i => (i.zero, i.size, i.bytes)) = some (some (.int .i64 0), 1, 8)) (ht : P.underlying t = some (.slice T))
    {A A2 : Option Addr} {n c m c2 : Nat} {xs ys : List Int} (hown : OW w T base A n c xs) (hr : IS w A2 m c2 ys) (hb : n + m ≤ 1073741824) (hbase : base ≤ w.heap.size) :
    ∃ A' c' w', (Builtin.append_ #[t, t] ty #[.slice A n c, .slice A2 m c2]).run P w = .ok (.slice A' (n + m) c') w' ∧ OW w' T base A' (n + m) c' (xs ++ ys) ∧ Row w w' A ∧ Near A' A w.heap.size := by
  obtain ⟨i, hi, hz, h1, h2⟩ := info_parts hinfo
  rcases A2 with _ | ad
  · obtain rfl : c2 = 0 := hr.2.2.2.2 rfl
    obtain rfl : m = 0 := by have := hr.2.1; omega
    obtain rfl : ys = [] := List.eq_nil_of_length_eq_zero hr.1
    have hrun := run_append_owned_none (P := P) (w := w) base t ty T i 1 ht hi (.slice A n c) n _ hown
    exact ⟨A, c, w, hrun, by rw [List.append_nil]; exact hown, Row.refl _ _, .inl rfl⟩
  · have hnews : ∀ j u, (ys.map (Value.int .i64))[j]? = some u → w.cell? (ad.add j) = some u := by
      intro j u hj
      have hl := hr.1
      rw [List.getElem?_map] at hj
      by_cases hm : j < m
      · obtain ⟨b, off, e, hc⟩ := hr.2.2.2.1 (by omega)
        simp only [Option.some.injEq] at e
        subst e
        rw [add_plain', hc j hm, List.getD_eq_getElem?_getD, List.getElem?_eq_getElem (by omega)]
        rw [List.getElem?_eq_getElem (by omega)] at hj
        simpa using hj
      · rw [List.getElem?_eq_none (by omega)] at hj
        cases hj
    obtain ⟨v', w', hrun, hown', hg, _, hat⟩ := run_append_own_at (P := P) w base t ty T i (.int .i64 0) 1 8 ht hi hz h1 h2 rfl (by omega) (.slice A n c) n (xs.map (Value.int .i64)) hown ad m c2 (ys.map (Value.int .i64)) (by rw [List.length_map]; have := hr.1; omega) hnews (ints_oneCell _ _) (by simp only [maxLen]; omega) (by omega) hbase
    rw [← List.map_append] at hown'
    rcases hown'.2 with ⟨rfl, h0⟩ | ⟨g, cap, cur, rfl, _⟩
    · exact ⟨none, 0, w', by rw [hrun, h0], by unfold OW; rw [h0] at hown' ⊢; exact hown', by unfold Row; rw [← own_map (n := n) (c := c)]; exact hg, by rw [own_map, own_map] at hat; exact hat⟩
    · exact ⟨_, _, w', hrun, hown', by unfold Row; rw [← own_map (n := n) (c := c)]; exact hg, by rw [own_map, own_map] at hat; exact hat⟩
theorem wpList_append_is2 {P : Program} (w : World) {ops : Array Oper} {rest : List Oper} {o : Oper} {a : Act} {Q : Exit → Act → World → Prop} (hgd : o.guard = none) (s x : Operand) (t : TypeId)
    (ho : o.op = .call { callee := .builtin .append, args := #[s, x], argTypes := #[t, t] })
    (base T : Nat) (hinfo : (P.info? T).map (fun i => (i.zero, i.size, i.bytes)) = some (some (.int .i64 0), 1, 8)) (ht : P.underlying t = some (.slice T))
    (A : Option Addr) (n c : Nat) (xs : List Int) (hs : a.eval s = .slice A n c) (hown : OW w T base A n c xs)
    (A2 : Option Addr) (m c2 : Nat) (ys : List Int) (hx : a.eval x = .slice A2 m c2) (hr : IS w A2 m c2 ys) (hb : n + m ≤ 1073741824) (hbase : base ≤ w.heap.size)
    (h : ∀ A' c' w', OW w' T base A' (n + m) c' (xs ++ ys) → Row w w' A → Near A' A w.heap.size → wpList P ops Q rest (a.put o.dst (.slice A' (n + m) c')) w') :
    wpList P ops Q (o :: rest) a w := by
  obtain ⟨A', c', w', hrun, h2, h3, h4⟩ := run_append_is (P := P) (ty := o.type) hinfo ht hown hr hb hbase
  refine wpList_plain hgd fun K hK => ?_
  unfold Oper.wp execOp
  simp only [ho, resolve, invoke, builtin, Sem.run_bind, Sem.run_pure, Result.andThen_ok, List.map_toArray, List.map_cons, List.map_nil, hs, hx, hrun]
  exact hK _ _ (h A' c' w' h2 h3 h4)
theorem step_append_is {P : Program} {ops : Array Oper} {o : Oper} {a : Act} {w : World} {K : Act → World → Prop} {Q : Exit → Act → World → Prop} {E : Prop} (hg : o.guard = none) (s x : Operand) (t : TypeId)
    (hop : o.op = Op.call { callee := Callee.builtin Builtin.append, args := #[s, x], argTypes := #[t, t] }) (base T : Nat)
    (hinfo : (P.info? T).map (fun i => (i.zero, i.size, i.bytes)) = some (some (.int .i64 0), 1, 8)) (ht : P.underlying t = some (.slice T))
    (A : Option Addr) (n c : Nat) (xs : List Int) (hs : a.eval s = .slice A n c) (hown : OW w T base A n c xs)
    (A2 : Option Addr) (m c2 : Nat) (ys : List Int) (hx : a.eval x = .slice A2 m c2) (hr : IS w A2 m c2 ys) (hb : n + m ≤ 1073741824) (hbase : base ≤ w.heap.size)
    (hK : ∀ A' c' w', OW w' T base A' (n + m) c' (xs ++ ys) → Row w w' A → Near A' A w.heap.size → K (a.put o.dst (.slice A' (n + m) c')) w') :
    if Region.wanted o (yielded ops a.tmps) = true then Oper.wp P o a w K Q else E := by
  have hw : Region.wanted o (yielded ops a.tmps) = true := by simp [Region.wanted, hg]
  rw [if_pos hw]
  obtain ⟨A', c', w', hrun, h2, h3, h4⟩ := run_append_is (P := P) (ty := o.type) hinfo ht hown hr hb hbase
  unfold Oper.wp
  simp [execOp, hop, resolve, invoke, builtin, hs, hx, hrun, Result.andThen]
  exact hK A' c' w' h2 h3 h4
end Go.Proofs.Ythbdcindhkjboaa
