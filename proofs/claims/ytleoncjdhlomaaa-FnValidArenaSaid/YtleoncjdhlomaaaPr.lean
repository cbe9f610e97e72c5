/-
  Plain words for memory, over any program: a slice of the call's own of structs of two integers.
-/
import Derived.Test.YtleoncjdhlomaaaBase
namespace Go.Proofs.Ytleoncjdhlomaaa
open Go.RowKit
/-- The cells of pairs. -/
def cellsP (xs : List (Int × Int)) : List Value := xs.flatMap fun x => [.int .i64 x.1, .int .i64 x.2]
theorem cellsP_len (xs : List (Int × Int)) : (cellsP xs).length = xs.length * 2 := by
  induction xs with
  | nil => rfl
  | cons x xs ih => simp [cellsP] at ih ⊢; omega
theorem cellsP_append (xs ys : List (Int × Int)) : cellsP (xs ++ ys) = cellsP xs ++ cellsP ys := by simp [cellsP]
theorem cellsP_at {xs : List (Int × Int)} {j : Nat} {x : Int × Int} (h : xs[j]? = some x) : (cellsP xs)[j * 2]? = some (.int .i64 x.1) ∧ (cellsP xs)[j * 2 + 1]? = some (.int .i64 x.2) := by
  induction xs generalizing j with
  | nil => simp at h
  | cons y xs ih =>
    rcases j with _ | j
    · simp at h; subst h; simp [cellsP]
    · simp at h
      obtain ⟨h1, h2⟩ := ih h
      have e : cellsP (y :: xs) = [.int .i64 y.1, .int .i64 y.2] ++ cellsP xs := by simp [cellsP]
      have e1 : (j + 1) * 2 = j * 2 + 2 := by omega
      rw [e, e1]
      refine ⟨?_, ?_⟩
      · rw [List.getElem?_append_right (by simp)]; simpa using h1
      · rw [List.getElem?_append_right (by simp)]; simpa using h2
theorem cellsP_one (xs : List (Int × Int)) : ∀ u ∈ cellsP xs, u.oneCell' = true := by
  intro u hu
  obtain ⟨x, _, hx⟩ := List.mem_flatMap.1 hu
  simp at hx
  rcases hx with rfl | rfl <;> rfl
/-- The slice value 'slice A n c' is the call's own, and holds the pairs xs. T: the number of the struct's type. -/
def OP (w : World) (T base : Nat) (A : Option Addr) (n c : Nat) (xs : List (Int × Int)) : Prop :=
  w.ownsRow base T 2 (.slice A n c) n (cellsP xs)
section
variable {w w' : World} {T base : Nat} {A : Option Addr} {n c : Nat} {xs : List (Int × Int)}
theorem OP.len (h : OP w T base A n c xs) : xs.length = n := by
  have h1 := h.1
  rw [cellsP_len] at h1
  omega
theorem OP.form (h : OP w T base A n c xs) : (A = none ∧ n = 0 ∧ c = 0) ∨ ∃ g, A = some ⟨g, 0, none⟩ ∧ base ≤ g ∧ g < w.heap.size := by
  rcases h.2 with ⟨h1, h2⟩ | ⟨g, cap, cur, hv, hb, hg, _⟩
  · simp only [Value.slice.injEq] at h1
    exact .inl ⟨h1.1, h2, h1.2.2⟩
  · simp only [Value.slice.injEq, true_and] at hv
    exact .inr ⟨g, hv.1, hb, (Array.getElem?_eq_some_iff.1 hg).1⟩
theorem OP.at_ (h : OP w T base A n c xs) {k : Nat} (hk : k < n) :
    ∃ g x, A = some ⟨g, 0, none⟩ ∧ xs[k]? = some x ∧ g < w.heap.size ∧ w.cell? ⟨g, k * 2, none⟩ = some (.int .i64 x.1) ∧ w.cell? ⟨g, k * 2 + 1, none⟩ = some (.int .i64 x.2) := by
  have hl := h.len
  rcases h.form with ⟨_, h0, _⟩ | ⟨g, rfl, _, hg⟩
  · omega
  have hx : xs[k]? = some xs[k] := List.getElem?_eq_getElem (by omega)
  obtain ⟨e1, e2⟩ := cellsP_at hx
  have k1 := World.ownsRow.cellAt h (k * 2) (by omega)
  have k2 := World.ownsRow.cellAt h (k * 2 + 1) (by omega)
  exact ⟨g, _, rfl, hx, hg, k1.trans e1, k2.trans e2⟩
theorem OP.kept (h : OP w T base A n c xs) (hb : ∀ g, A = some ⟨g, 0, none⟩ → g < w.heap.size → w'.heap[g]? = w.heap[g]?) : OP w' T base A n c xs := by
  refine ⟨h.1, ?_⟩
  rcases h.2 with h1 | ⟨g, cap, cur, hv, hbg, hg, r⟩
  · exact .inl h1
  · simp only [Value.slice.injEq, true_and] at hv
    obtain ⟨rfl, rfl⟩ := hv
    exact .inr ⟨g, c, cur, rfl, hbg, by rw [hb g rfl (Array.getElem?_eq_some_iff.1 hg).1]; exact hg, r⟩
theorem OP.below {B : Nat} (h : OP w T base A n c xs) (hb : Below B w w') (hB : w.heap.size ≤ B) : OP w' T base A n c xs :=
  h.kept fun g _ hg => hb.block g (by omega)
theorem OP.drew (h : OP w T base A n c xs) : OP w.drew T base A n c xs := h
theorem OP.alloc (h : OP w T base A n c xs) (o : Obj) : OP (w.alloc o) T base A n c xs := World.ownsRow.alloc h o
theorem OP.lt (h : OP w T base A n c xs) : Lt A w.heap.size := fun p hp => by
  rcases h.form with ⟨rfl, _⟩ | ⟨g, rfl, _, hg⟩
  · cases hp
  · simp only [Option.some.injEq] at hp
    subst hp
    exact hg
theorem OP.ge (h : OP w T base A n c xs) : Ge A base := fun p hp => by
  rcases h.form with ⟨rfl, _⟩ | ⟨g, rfl, hg, _⟩
  · cases hp
  · simp only [Option.some.injEq] at hp
    subst hp
    exact hg
theorem OP.nil (w : World) (T base : Nat) : OP w T base none 0 0 [] := ⟨rfl, .inl ⟨rfl, rfl⟩⟩
end
theorem run_append_pr {P : Program} {w : World} {t ty T base : Nat} (hinfo : (P.info? T).map (fun i => (i.zero, i.size, i.bytes)) = some (some (.agg #[.int .i64 0, .int .i64 0]), 2, 16)) (ht : P.underlying t = some (.slice T))
    {A : Option Addr} {n c c2 b : Nat} {xs : List (Int × Int)} {x : Int × Int} (hown : OP w T base A n c xs) (h0 : w.cell? ⟨b, 0, none⟩ = some (.int .i64 x.1)) (h1' : w.cell? ⟨b, 1, none⟩ = some (.int .i64 x.2)) (hb : n + 1 ≤ 1073741824) (hbase : base ≤ w.heap.size) :
    ∃ A' c' w', (Builtin.append_ #[t, t] ty #[.slice A n c, .slice (some ⟨b, 0, none⟩) 1 c2]).run P w = .ok (.slice A' (n + 1) c') w' ∧ OP w' T base A' (n + 1) c' (xs ++ [x]) ∧ Row w w' A := by
  obtain ⟨i, hi, hz, h1, h2⟩ := info_parts hinfo
  obtain ⟨v', w', hrun, hown', hg, _, _⟩ := run_append_own_at (P := P) w base t ty T i (.agg #[.int .i64 0, .int .i64 0]) 2 16 ht hi hz h1 h2 rfl (by omega) (.slice A n c) n (cellsP xs) hown ⟨b, 0, none⟩ 1 c2 (cellsP [x]) (by rw [cellsP_len]; rfl)
    (by
      intro j u hj
      have hl := (List.getElem?_eq_some_iff.1 hj).1
      rw [cellsP_len] at hl
      simp at hl
      rw [add_plain']
      rcases (by omega : j = 0 ∨ j = 1) with rfl | rfl
      · simp [cellsP] at hj; subst hj; simpa using h0
      · simp [cellsP] at hj; subst hj; simpa using h1') (cellsP_one _) (by simp only [maxLen]; omega) (by omega) hbase
  have hown2 : w'.ownsRow base T 2 v' (n + 1) (cellsP (xs ++ [x])) := by rw [cellsP_append]; exact hown'
  rcases hown2.2 with ⟨rfl, hn⟩ | ⟨g, cap, cur, rfl, _⟩
  · omega
  · exact ⟨_, _, w', hrun, hown2, by unfold Row; rw [← own_map (n := n) (c := c)]; exact hg⟩
/-- append of one pair onto pairs of the call's own. -/
theorem wpList_append_pr {P : Program} (w : World) {ops : Array Oper} {rest : List Oper} {o : Oper} {a : Act} {Q : Exit → Act → World → Prop} (hgd : o.guard = none) (s x : Operand) (t : TypeId)
    (ho : o.op = .call { callee := .builtin .append, args := #[s, x], argTypes := #[t, t] }) (base T : Nat)
    (hinfo : (P.info? T).map (fun i => (i.zero, i.size, i.bytes)) = some (some (.agg #[.int .i64 0, .int .i64 0]), 2, 16)) (ht : P.underlying t = some (.slice T))
    (A : Option Addr) (n c : Nat) (xs : List (Int × Int)) (hs : a.eval s = .slice A n c) (hown : OP w T base A n c xs)
    (b c2 : Nat) (y : Int × Int) (hx : a.eval x = .slice (some ⟨b, 0, none⟩) 1 c2) (h0 : w.cell? ⟨b, 0, none⟩ = some (.int .i64 y.1)) (h1 : w.cell? ⟨b, 1, none⟩ = some (.int .i64 y.2)) (hb : n + 1 ≤ 1073741824) (hbase : base ≤ w.heap.size)
    (h : ∀ A' c' w', OP w' T base A' (n + 1) c' (xs ++ [y]) → Row w w' A → wpList P ops Q rest (a.put o.dst (.slice A' (n + 1) c')) w') : wpList P ops Q (o :: rest) a w := by
  refine wpList_plain hgd fun K hK => ?_
  obtain ⟨A', c', w', hrun, h2, h3⟩ := run_append_pr (P := P) (ty := o.type) (c2 := c2) (x := y) hinfo ht hown h0 h1 hb hbase
  unfold Oper.wp execOp
  simp only [ho, resolve, invoke, builtin, Sem.run_bind, Sem.run_pure, Result.andThen_ok, List.map_toArray, List.map_cons, List.map_nil, hs, hx, hrun]
  exact hK _ _ (h A' c' w' h2 h3)
end Go.Proofs.Ytleoncjdhlomaaa
