/-
  Queues: slices of the call's own that may begin behind their block's beginning, and append onto them.
-/
import Derived.Test.YthbdcindhkjboaaLiM
import Derived.Test.YthbdcindhkjboaaApp
import Derived.Deep.RegionLaw
namespace Go.Proofs.Ythbdcindhkjboaa
open Go.RowKit

/-- The slice value 'slice A n c' lies in a block of the call's own, from some place on, and holds the integers xs. -/
def QS (w : World) (T base : Nat) (A : Option Addr) (n c : Nat) (xs : List Int) : Prop :=
  xs.length = n ∧ ((A = none ∧ n = 0 ∧ c = 0) ∨ ∃ g off cs, A = some ⟨g, off, none⟩ ∧ base ≤ g ∧ Blk w g T cs ∧ off + c ≤ cs.size ∧ n ≤ c ∧ c ≤ maxLen ∧ ∀ j, j < n → cs[off + j]? = some (.int .i64 (xs.getD j 0)))
section
variable {w w' : World} {T base : Nat} {A : Option Addr} {n c : Nat} {xs : List Int}
theorem QS.len (h : QS w T base A n c xs) : xs.length = n := h.1
theorem QS.nil (w : World) (T base : Nat) : QS w T base none 0 0 [] := ⟨rfl, .inl ⟨rfl, rfl, rfl⟩⟩
theorem QS.of_ow (h : OW w T base A n c xs) : QS w T base A n c xs := by
  refine ⟨h.len, ?_⟩
  rcases h.form with ⟨h1, h2, h3⟩ | ⟨g, rfl, hg1, hg2⟩
  · exact .inl ⟨h1, h2, h3⟩
  · have hl := h.len
    rcases h.2 with ⟨h1, _⟩ | ⟨g', cap, cur, hv, hb, hg, hnc, hm, hs, _⟩
    · simp at h1
    · simp only [Value.slice.injEq, true_and, Option.some.injEq, Addr.mk.injEq, and_true] at hv
      obtain ⟨rfl, rfl⟩ := hv
      refine .inr ⟨g, 0, cur, rfl, hb, hg, by omega, hnc, hm, fun j hj => ?_⟩
      have h2 := World.ownsRow.cellAt h j (by omega)
      rw [List.getElem?_map, List.getElem?_eq_getElem (by omega)] at h2
      have h3 : w.cell? ⟨g, j, none⟩ = cur[j]? := Blk.cell (t := T) hg j
      rw [Nat.zero_add, ← h3, h2, List.getD_eq_getElem?_getD, List.getElem?_eq_getElem (by omega)]
      rfl
theorem QS.is (h : QS w T base A n c xs) : IS w A n c xs := by
  obtain ⟨hl, h1 | ⟨g, off, cs, rfl, hb, hk, hc, hn, hm, hx⟩⟩ := h
  · obtain ⟨rfl, rfl, rfl⟩ := h1
    exact ⟨hl, Nat.le_refl _, by simp [maxLen], fun h => absurd h (by omega), fun _ => rfl⟩
  · exact ⟨hl, hn, hm, fun _ => ⟨g, off, rfl, fun j hj => (hk.cell _).trans (hx j hj)⟩, fun h => by cases h⟩
theorem QS.ge (h : QS w T base A n c xs) : Ge A base := fun p hp => by
  obtain ⟨_, h1 | ⟨g, off, cs, rfl, hb, _⟩⟩ := h
  · rw [h1.1] at hp; cases hp
  · cases hp; exact hb
theorem QS.lt (h : QS w T base A n c xs) : Lt A w.heap.size := fun p hp => by
  obtain ⟨_, h1 | ⟨g, off, cs, rfl, hb, hk, _⟩⟩ := h
  · rw [h1.1] at hp; cases hp
  · cases hp; exact hk.lt
theorem QS.kept (h : QS w T base A n c xs) (hk : ∀ p, A = some p → p.block < w.heap.size → w'.heap[p.block]? = w.heap[p.block]?) : QS w' T base A n c xs := by
  obtain ⟨hl, h1 | ⟨g, off, cs, rfl, hb, hg, r⟩⟩ := h
  · exact ⟨hl, .inl h1⟩
  · exact ⟨hl, .inr ⟨g, off, cs, rfl, hb, (hk _ rfl hg.lt).trans hg, r⟩⟩
theorem QS.below {B : Nat} (h : QS w T base A n c xs) (hb : Below B w w') (hB : w.heap.size ≤ B) : QS w' T base A n c xs := h.kept fun _ _ hp => hb.block _ (by omega)
theorem QS.alloc (h : QS w T base A n c xs) (o : Obj) : QS (w.alloc o) T base A n c xs := h.kept fun _ _ hp => Below.heap_alloc w o _ hp
theorem QS.away {A2 : Option Addr} (h : QS w T base A n c xs) (hg : Row w w' A2) (hd : Disj A A2) : QS w' T base A n c xs := h.kept fun _ hp hlt => hg.block _ hlt (row_ne hd hp)
theorem QS.setCell (h : QS w T base A n c xs) {p : Addr} (hd : Disj (some ⟨p.block, 0, none⟩) A) (u : Value) : QS (w.setCell p u) T base A n c xs :=
  h.kept fun q hq _ => Below.heap_setCell w p u q.block (fun e => hd _ _ rfl hq e.symm)
theorem QS.base_le {base' : Nat} (h : QS w T base A n c xs) (hb : base' ≤ base) : QS w T base' A n c xs := by
  obtain ⟨hl, h1 | ⟨g, off, cs, rfl, hg, r⟩⟩ := h
  · exact ⟨hl, .inl h1⟩
  · exact ⟨hl, .inr ⟨g, off, cs, rfl, Nat.le_trans hb hg, r⟩⟩
/-- All but the first. -/
theorem QS.rest {g off : Nat} (h : QS w T base (some ⟨g, off, none⟩) n c xs) (hn : 1 ≤ n) : QS w T base (if c = 1 then some ⟨g, off, none⟩ else some ⟨g, off + 1, none⟩) (n - 1) (c - 1) (xs.drop 1) := by
  obtain ⟨hl, h1 | ⟨g', off', cs, e, hb, hk, hc, hnc, hm, hx⟩⟩ := h
  · cases h1.1
  · simp only [Option.some.injEq, Addr.mk.injEq, and_true] at e
    obtain ⟨rfl, rfl⟩ := e
    refine ⟨by rw [List.length_drop, hl], .inr ?_⟩
    by_cases e : c = 1
    · exact ⟨g, off, cs, by rw [if_pos e], hb, hk, by omega, by omega, by omega, fun j hj => by omega⟩
    · refine ⟨g, off + 1, cs, by rw [if_neg e], hb, hk, by omega, by omega, by omega, fun j hj => ?_⟩
      have e2 : off + 1 + j = off + (j + 1) := by omega
      rw [e2, hx (j + 1) (by omega), List.getD_eq_getElem?_getD, List.getD_eq_getElem?_getD, List.getElem?_drop]
      rw [Nat.add_comm 1 j]
end
/-- A slice lies where another did, or in new memory. -/
def NearG (A' A : Option Addr) (h : Nat) : Prop := A'.map (·.block) = A.map (·.block) ∨ Ge A' h
theorem NearG.disj {A' A D : Option Addr} {h : Nat} (k : NearG A' A h) (h1 : Disj A D) (h2 : Lt D h) : Disj A' D := fun p q hp hq => by
  have hq2 := h2 q hq
  rcases k with e | e
  · rw [hp] at e
    rcases A with _ | r
    · simp at e
    · simp at e
      rw [e]; exact h1 r q rfl hq
  · have := e p hp
    omega
theorem Near.g {A' A : Option Addr} {h : Nat} (k : Near A' A h) : NearG A' A h := by
  rcases k with e | e
  · exact .inl e
  · refine .inr fun p hp => ?_
    rw [hp] at e
    simp at e
    omega
theorem run_append_q {P : Program} {w : World} {t ty T base : Nat} (hinfo : (P.info? T).map (fun i => (i.zero, i.size, i.bytes)) = some (some (.int .i64 0), 1, 8)) (ht : P.underlying t = some (.slice T))
    {A : Option Addr} {n c g2 c2 : Nat} {xs : List Int} {v : Int} (hq : QS w T base A n c xs) (hr : IS w (some ⟨g2, 0, none⟩) 1 c2 [v]) (hb : n + 1 ≤ 1073741824) (hbase : base ≤ w.heap.size) :
    ∃ A' c' w', (Builtin.append_ #[t, t] ty #[.slice A n c, .slice (some ⟨g2, 0, none⟩) 1 c2]).run P w = .ok (.slice A' (n + 1) c') w' ∧ QS w' T base A' (n + 1) c' (xs ++ [v]) ∧ Row w w' A ∧ NearG A' A w.heap.size := by
  obtain ⟨i, hi, hz, h1, h2⟩ := info_parts hinfo
  have hv : w.cell? ⟨g2, 0, none⟩ = some (.int .i64 v) := by
    obtain ⟨b, off, u, e, hu, hc⟩ := hr.at_ (k := 0) (by omega)
    simp only [Option.some.injEq, Addr.mk.injEq, and_true] at e
    obtain ⟨rfl, rfl⟩ := e
    simp at hu
    subst hu
    exact hc
  have hnews : ∀ j u, ([Value.int .i64 v] : List Value)[j]? = some u → w.cell? ((⟨g2, 0, none⟩ : Addr).add j) = some u := by
    intro j u hj
    rcases j with _ | j
    · rw [add_plain', Nat.zero_add, hv]
      simpa using hj
    · simp at hj
  have hone : ∀ u ∈ ([Value.int .i64 v] : List Value), u.oneCell' = true := by simpa using ints_oneCell .i64 [v]
  obtain ⟨hl, ⟨rfl, rfl, rfl⟩ | ⟨g, off, cs, rfl, hg, hk, hc, hnc, hm, hx⟩⟩ := hq
  · obtain rfl : xs = [] := List.eq_nil_of_length_eq_zero hl
    obtain ⟨A', c', w', hrun, ho, hg, hn⟩ := run_append_is (P := P) (ty := ty) hinfo ht (hown := (⟨rfl, .inl ⟨rfl, rfl⟩⟩ : OW w T base none 0 0 [])) hr (by omega) hbase
    exact ⟨A', c', w', by simpa using hrun, by simpa using QS.of_ow ho, hg, hn.g⟩
  · by_cases hroom : n + 1 ≤ c
    · have hlt : off + n < cs.size := by omega
      have hrun := run_append_room_cells (P := P) w t ty T i ht hi g off n c ⟨g2, 0, none⟩ 1 c2 [.int .i64 v] (by rw [h1]; rfl) hnews hone hroom (fun j hj => by
        simp at hj
        rw [h1, hk.cell, Array.getElem?_eq_getElem (by omega)]
        rfl) (fun j hj => hk.frozen _)
      refine ⟨_, _, _, hrun, ?_, ?_, .inl rfl⟩
      · rw [h1, Nat.mul_one]
        refine ⟨by rw [List.length_append, hl]; rfl, .inr ⟨g, off, cs.setIfInBounds (off + n) (.int .i64 v), rfl, hg, hk.set_ (off + n) _, by simpa using hc, hroom, hm, fun j hj => ?_⟩⟩
        rw [Array.getElem?_setIfInBounds]
        by_cases e : j = n
        · subst e
          rw [if_pos rfl, if_pos hlt, List.getD_eq_getElem?_getD, List.getElem?_append_right (by omega), hl, Nat.sub_self]
          rfl
        · rw [if_neg (by omega), hx j (by omega), List.getD_eq_getElem?_getD, List.getD_eq_getElem?_getD, List.getElem?_append_left (by omega)]
      · rw [h1, Nat.mul_one]
        exact ⟨rfl, rfl, rfl, by simp [World.setCells, World.setCell], fun k hk2 hne => Below.heap_setCell w _ _ k (fun e => hne (by rw [e]; rfl))⟩
    · obtain ⟨v', w', hrun, hown', hgr⟩ := run_append_arg_grows (P := P) w t ty T i (.int .i64 0) 1 8 ht hi hz h1 h2 rfl (by omega) ⟨g, off, none⟩ n c (xs.map (Value.int .i64)) (by rw [List.length_map, hl]; omega) (fun j u hj => by
        have hj2 : j < xs.length := by
          rcases Nat.lt_or_ge j xs.length with h9 | h9
          · exact h9
          · rw [List.getElem?_eq_none (by simpa using h9)] at hj; cases hj
        rw [add_plain', hk.cell, hx j (by omega), List.getD_eq_getElem?_getD, List.getElem?_eq_getElem hj2]
        rw [List.getElem?_map, List.getElem?_eq_getElem hj2] at hj
        simpa using hj) ⟨g2, 0, none⟩ 1 c2 [.int .i64 v] (by simp) hnews (by omega) (by simp only [maxLen]; omega) (by omega)
      have e : (xs.map (Value.int .i64)) ++ [.int .i64 v] = (xs ++ [v]).map (Value.int .i64) := by simp
      rw [e] at hown'
      have hrow : Row w w' (some ⟨g, off, none⟩) := ⟨hgr.os, hgr.tape, hgr.output, hgr.size, fun k hk2 _ => hgr.block k hk2 (by simp)⟩
      rcases hown'.2 with ⟨_, h0⟩ | ⟨g', cap, cur, rfl, hb', _⟩
      · omega
      · have ho : OW w' T w.heap.size (some ⟨g', 0, none⟩) (n + 1) cap (xs ++ [v]) := hown'
        exact ⟨_, _, w', hrun, (QS.of_ow ho).base_le hbase, hrow, .inr ho.ge⟩
theorem wpList_append_q {P : Program} (w : World) {ops : Array Oper} {rest : List Oper} {o : Oper} {a : Act} {Q : Exit → Act → World → Prop} (hgd : o.guard = none) (s x : Operand) (t : TypeId)
    (ho : o.op = .call { callee := .builtin .append, args := #[s, x], argTypes := #[t, t] })
    (base T : Nat) (hinfo : (P.info? T).map (fun i => (i.zero, i.size, i.bytes)) = some (some (.int .i64 0), 1, 8)) (ht : P.underlying t = some (.slice T))
    (A : Option Addr) (n c : Nat) (xs : List Int) (hs : a.eval s = .slice A n c) (hq : QS w T base A n c xs)
    (g2 c2 : Nat) (v : Int) (hx : a.eval x = .slice (some ⟨g2, 0, none⟩) 1 c2) (hr : IS w (some ⟨g2, 0, none⟩) 1 c2 [v]) (hb : n + 1 ≤ 1073741824) (hbase : base ≤ w.heap.size)
    (h : ∀ A' c' w', QS w' T base A' (n + 1) c' (xs ++ [v]) → Row w w' A → NearG A' A w.heap.size → wpList P ops Q rest (a.put o.dst (.slice A' (n + 1) c')) w') :
    wpList P ops Q (o :: rest) a w := by
  obtain ⟨A', c', w', hrun, h2, h3, h4⟩ := run_append_q (P := P) (ty := o.type) (t := t) hinfo ht hq hr hb hbase
  refine wpList_plain hgd fun K hK => ?_
  unfold Oper.wp execOp
  simp only [ho, resolve, invoke, builtin, Sem.run_bind, Sem.run_pure, Result.andThen_ok, List.map_toArray, List.map_cons, List.map_nil, hs, hx, hrun]
  exact hK _ _ (h A' c' w' h2 h3 h4)
end Go.Proofs.Ythbdcindhkjboaa
