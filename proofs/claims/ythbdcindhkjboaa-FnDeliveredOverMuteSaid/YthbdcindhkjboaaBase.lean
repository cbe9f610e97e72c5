/-
  Plain words for memory, over any program: a slice of integers that reads as a list.
-/
import Derived.WalkKit
import Derived.WalkSpells
import Derived.Lib.Hide
import Derived.Deep.OwnRows
import Derived.Deep.Draws
import Derived.Deep.AppendLies
import Derived.Lib.QuietBelow
import Derived.BigQuiet
namespace Go.Proofs.Ythbdcindhkjboaa
open Go.RowKit

theorem ret_int {k : IntKind} {a b : Int} (h : a = b) : Ending.returned (.int k a) = .returned (.int k b) := by rw [h]
theorem ret_bool {a b : Bool} (h : a = b) : Ending.returned (.bool a) = .returned (.bool b) := by rw [h]

/-- The slice value 'slice A n c' holds the integers xs. -/
def IS (w : World) (A : Option Addr) (n c : Nat) (xs : List Int) : Prop :=
  xs.length = n ∧ n ≤ c ∧ c ≤ maxLen ∧
    (0 < n → ∃ b off, A = some ⟨b, off, none⟩ ∧ ∀ j, j < n → w.cell? ⟨b, off + j, none⟩ = some (.int .i64 (xs.getD j 0))) ∧ (A = none → c = 0)

section
variable {w w' : World} {A : Option Addr} {n c : Nat} {xs : List Int}
theorem IS.len (h : IS w A n c xs) : xs.length = n := h.1
theorem IS.cap (h : IS w A n c xs) : n ≤ 9223372036854775807 := by
  have h1 := h.2.1
  have h2 := h.2.2.1
  simp only [maxLen] at h2
  omega
theorem IS.nil (w : World) : IS w none 0 0 [] := ⟨rfl, Nat.le_refl _, by simp [maxLen], fun h => absurd h (by omega), fun _ => rfl⟩
theorem IS.at_ (h : IS w A n c xs) {k : Nat} (hk : k < n) :
    ∃ b off v, A = some ⟨b, off, none⟩ ∧ xs[k]? = some v ∧ w.cell? ⟨b, off + k, none⟩ = some (.int .i64 v) := by
  obtain ⟨b, off, e, hc⟩ := h.2.2.2.1 (by omega)
  have hl : k < xs.length := by have := h.1; omega
  refine ⟨b, off, xs[k], e, List.getElem?_eq_getElem hl, ?_⟩
  rw [hc k hk, List.getD_eq_getElem?_getD, List.getElem?_eq_getElem hl]
  rfl
theorem IS.keep (h : IS w A n c xs) (hk : ∀ p : Addr, p.block < w.heap.size → w'.cell? p = w.cell? p) : IS w' A n c xs := by
  refine ⟨h.1, h.2.1, h.2.2.1, fun hn => ?_, h.2.2.2.2⟩
  obtain ⟨b, off, e, hc⟩ := h.2.2.2.1 hn
  refine ⟨b, off, e, fun j hj => ?_⟩
  have h1 := hc j hj
  have hb : b < w.heap.size := World.block_lt_of_cell? w ⟨b, off + j, none⟩ h1
  exact (hk ⟨b, off + j, none⟩ hb).trans h1
theorem IS.below {B : Nat} (h : IS w A n c xs) (hb : Below B w w') (hB : w.heap.size ≤ B) : IS w' A n c xs :=
  h.keep fun p hp => hb.cell (by omega)
theorem IS.drewN (h : IS w A n c xs) (k : Nat) : IS (w.drewN k) A n c xs := h
theorem IS.drew (h : IS w A n c xs) : IS w.drew A n c xs := h
theorem IS.alloc (h : IS w A n c xs) (o : Obj) : IS (w.alloc o) A n c xs := h.keep fun p hp => World.cell?_alloc_lt w o p hp
end

theorem add_plain' (b off j : Nat) : (⟨b, off, none⟩ : Addr).add j = ⟨b, off + j, none⟩ := by
  unfold Addr.add
  split <;> simp_all

/-- The slice value 'slice A n c' is the call's own (a block from 'base' on, or nil), and holds the integers xs. T: the number of the type int. -/
def OW (w : World) (T base : Nat) (A : Option Addr) (n c : Nat) (xs : List Int) : Prop :=
  w.ownsRow base T 1 (.slice A n c) n (xs.map (Value.int .i64))
section
variable {w w' : World} {T base : Nat} {A : Option Addr} {n c : Nat} {xs : List Int}
theorem OW.len (h : OW w T base A n c xs) : xs.length = n := by simpa using h.1
theorem OW.form (h : OW w T base A n c xs) : (A = none ∧ n = 0 ∧ c = 0) ∨ ∃ g, A = some ⟨g, 0, none⟩ ∧ base ≤ g ∧ g < w.heap.size := by
  rcases h.2 with ⟨h1, h2⟩ | ⟨g, cap, cur, hv, hb, hg, _⟩
  · simp only [Value.slice.injEq] at h1
    exact .inl ⟨h1.1, h2, h1.2.2⟩
  · simp only [Value.slice.injEq, true_and] at hv
    exact .inr ⟨g, hv.1, hb, (Array.getElem?_eq_some_iff.1 hg).1⟩
theorem OW.pos (h : OW w T base A n c xs) (hn : 0 < n) : ∃ g, A = some ⟨g, 0, none⟩ ∧ base ≤ g ∧ g < w.heap.size := by
  rcases h.form with ⟨_, h0, _⟩ | h1
  · omega
  · exact h1
theorem OW.is (h : OW w T base A n c xs) : IS w A n c xs := by
  have hl := h.len
  rcases h.2 with ⟨h1, h2⟩ | ⟨g, cap, cur, hv, hb, hg, hnc, hm, _⟩
  · simp only [Value.slice.injEq] at h1
    obtain ⟨rfl, _, rfl⟩ := h1
    subst h2
    exact ⟨hl, Nat.le_refl _, by simp [maxLen], fun h => absurd h (by omega), fun _ => rfl⟩
  · simp only [Value.slice.injEq, true_and] at hv
    obtain ⟨rfl, rfl⟩ := hv
    refine ⟨hl, hnc, hm, fun _ => ⟨g, 0, rfl, fun j hj => ?_⟩, fun h => by cases h⟩
    have h2 := World.ownsRow.cellAt h j (by omega)
    rw [Nat.zero_add, h2, List.getElem?_map, List.getElem?_eq_getElem (by omega), List.getD_eq_getElem?_getD, List.getElem?_eq_getElem (by omega)]
    rfl
theorem OW.kept (h : OW w T base A n c xs) (hb : ∀ g, A = some ⟨g, 0, none⟩ → g < w.heap.size → w'.heap[g]? = w.heap[g]?) : OW w' T base A n c xs := by
  refine ⟨h.1, ?_⟩
  rcases h.2 with h1 | ⟨g, cap, cur, hv, hbg, hg, r⟩
  · exact .inl h1
  · simp only [Value.slice.injEq, true_and] at hv
    obtain ⟨rfl, rfl⟩ := hv
    exact .inr ⟨g, c, cur, rfl, hbg, by rw [hb g rfl (Array.getElem?_eq_some_iff.1 hg).1]; exact hg, r⟩
theorem OW.below {B : Nat} (h : OW w T base A n c xs) (hb : Below B w w') (hB : w.heap.size ≤ B) : OW w' T base A n c xs :=
  h.kept fun g _ hg => hb.block g (by omega)
theorem OW.drewN (h : OW w T base A n c xs) (k : Nat) : OW (w.drewN k) T base A n c xs := h
theorem OW.drew (h : OW w T base A n c xs) : OW w.drew T base A n c xs := h
theorem OW.base_le {base' : Nat} (h : OW w T base A n c xs) (hb : base' ≤ base) : OW w T base' A n c xs := by
  refine ⟨h.1, ?_⟩
  rcases h.2 with h1 | ⟨g, cap, cur, hv, hbg, r⟩
  · exact .inl h1
  · exact .inr ⟨g, cap, cur, hv, Nat.le_trans hb hbg, r⟩
end

theorem OW.setCell {w : World} {T base : Nat} {A : Option Addr} {n c : Nat} {xs : List Int} (h : OW w T base A n c xs) {p : Addr} (hp : p.block < base) (u : Value) : OW (w.setCell p u) T base A n c xs :=
  ownsRow_setCell_below h hp u
theorem OW.alloc {w : World} {T base : Nat} {A : Option Addr} {n c : Nat} {xs : List Int} (h : OW w T base A n c xs) (o : Obj) : OW (w.alloc o) T base A n c xs :=
  World.ownsRow.alloc h o
theorem bcell {w w1 : World} {B : Nat} (hb : Below B w w1) : (∀ b o, b < B → w1.cell? ⟨b, o, none⟩ = w.cell? ⟨b, o, none⟩) ∧ (∀ b o, b < B → w1.frozen? ⟨b, o, none⟩ = w.frozen? ⟨b, o, none⟩) :=
  ⟨fun b o h => hb.cell (p := ⟨b, o, none⟩) h, fun b o h => hb.frozen (p := ⟨b, o, none⟩) h⟩

/-- A call has handed back new integers xs, and nothing that was there has turned. -/
def GaveInts (T : Nat) (w : World) (xs : List Int) (e : Ending) (w' : World) : Prop :=
  ∃ A n c, e = .returned (.slice A n c) ∧ OW w' T w.heap.size A n c xs ∧ Below w.heap.size w w'

/-- A call has handed back an item with new integers xs, and nothing that was there has turned. -/
def GaveItem (T : Nat) (w : World) (cl ky : Int) (xs : List Int) (e : Ending) (w' : World) : Prop :=
  ∃ A n c, e = .returned (.agg #[.int .i64 cl, .int .i64 ky, .slice A n c]) ∧ OW w' T w.heap.size A n c xs ∧ Below w.heap.size w w'

theorem below_then {a b c : World} (h : Below a.heap.size a b) (k : Below b.heap.size b c) : Below a.heap.size a c := h.trans (k.mono h.size)
theorem cell_up {w W : World} {a : Addr} {v : Value} (hb : Below w.heap.size w W) (h : w.cell? a = some v) : W.cell? a = some v :=
  (hb.cell (World.block_lt_of_cell? w a h)).trans h
theorem cell_alloc {w : World} {a : Addr} {v : Value} (h : w.cell? a = some v) (o : Obj) : (w.alloc o).cell? a = some v := cell_up ((Below.refl _ _).alloc (Nat.le_refl _) o) h
theorem cell_set {w : World} {a p : Addr} {v : Value} (h : w.cell? a = some v) (hp : a.block ≠ p.block) (u : Value) : (w.setCell p u).cell? a = some v :=
  (World.cell?_of_block (w := w) (Below.heap_setCell w p u a.block hp)).trans h
theorem below_new (w : World) (o : Obj) : Below w.heap.size w (w.alloc o) := (Below.refl _ _).alloc (Nat.le_refl _) o
theorem below_drewN {B : Nat} {a w : World} (h : Below B a w) (n : Nat) : Below B a (w.drewN n) := ⟨h.os, h.tape, h.output, h.size, h.block⟩

theorem fill_start (n : Nat) (z : Value) (xs : List Int) : (List.replicate n z) = (xs.take 0).map (Value.int .i64) ++ List.replicate (n - 0) z := by simp
theorem fill_at {n k : Nat} {xs : List Int} {z : Value} (hl : xs.length = n) (hk : k < n) : ((xs.take k).map (Value.int .i64) ++ List.replicate (n - k) z)[k]? = some z := by
  have h1 : ((xs.take k).map (Value.int .i64)).length = k := by rw [List.length_map, List.length_take]; omega
  rw [List.getElem?_append_right (by omega), h1, Nat.sub_self, List.getElem?_replicate, if_pos (by omega)]
theorem fill_step {n k : Nat} {xs : List Int} {z : Value} {v : Int} (hl : xs.length = n) (hk : k < n) (hx : xs[k]? = some v) :
    ((xs.take k).map (Value.int .i64) ++ List.replicate (n - k) z).set k (.int .i64 v) = (xs.take (k + 1)).map (Value.int .i64) ++ List.replicate (n - (k + 1)) z := by
  have hk' : k < xs.length := by omega
  have e : xs[k] = v := (List.getElem?_eq_some_iff.1 hx).2
  rw [List.set_append_right _ _ (by simp; omega), List.take_succ_eq_append_getElem hk', e]
  have h1 : k - ((xs.take k).map (Value.int .i64)).length = 0 := by rw [List.length_map, List.length_take]; omega
  rw [h1]
  obtain ⟨m, hm⟩ : ∃ m, n - k = m + 1 := ⟨n - k - 1, by omega⟩
  have h2 : n - (k + 1) = m := by omega
  rw [hm, h2, List.replicate_succ]
  simp
theorem fill_end {n : Nat} {xs : List Int} {z : Value} (hl : xs.length = n) : (xs.take n).map (Value.int .i64) ++ List.replicate (n - n) z = xs.map (Value.int .i64) := by
  rw [List.take_of_length_le (by omega)]
  simp

/-- Block g is just the cells cs of type t, none frozen. -/
def Blk (w : World) (g : Nat) (t : TypeId) (cs : Array Value) : Prop := w.heap[g]? = some (.cells cs t (0, 0))
section
variable {w w' : World} {g : Nat} {t : TypeId} {cs : Array Value}
theorem Blk.lt (h : Blk w g t cs) : g < w.heap.size := by
  rcases Nat.lt_or_ge g w.heap.size with hlt | hge
  · exact hlt
  · unfold Blk at h; rw [Array.getElem?_eq_none hge] at h; cases h
theorem Blk.cell (h : Blk w g t cs) (i : Nat) : w.cell? ⟨g, i, none⟩ = cs[i]? := cell_of_row w g i cs t (0, 0) h
theorem Blk.frozen (h : Blk w g t cs) (i : Nat) : w.frozen? ⟨g, i, none⟩ = false := by
  unfold Blk at h
  simp [World.frozen?, h]
theorem Blk.new (w : World) (t : TypeId) (cs : Array Value) : Blk (w.alloc (.cells cs t)) w.heap.size t cs := heap_alloc_new w _
theorem Blk.drewN (h : Blk w g t cs) (n : Nat) : Blk (w.drewN n) g t cs := h
theorem Blk.drew (h : Blk w g t cs) : Blk w.drew g t cs := h
theorem Blk.alloc (h : Blk w g t cs) (o : Obj) : Blk (w.alloc o) g t cs := (Below.heap_alloc w o g h.lt).trans h
theorem Blk.set_ (h : Blk w g t cs) (i : Nat) (u : Value) : Blk (w.setCell ⟨g, i, none⟩ u) g t (cs.setIfInBounds i u) := by
  unfold Blk at h ⊢
  simp [World.setCell, Array.getElem?_modify, h]
theorem Blk.far (h : Blk w g t cs) {p : Addr} (hp : g ≠ p.block) (u : Value) : Blk (w.setCell p u) g t cs := (Below.heap_setCell w p u g hp).trans h
theorem Blk.on (h : Blk w g t cs) (hb : Below w.heap.size w w') : Blk w' g t cs := (hb.block g h.lt).trans h
theorem Blk.grown {row : Option Nat} (h : Blk w g t cs) (hb : w.grownBy w' row) (hg : some g ≠ row) : Blk w' g t cs := (hb.block g h.lt hg).trans h
theorem Blk.c1 {a : Value} (h : Blk w g t #[a]) : w.cell? ⟨g, 0, none⟩ = some a := h.cell 0
theorem Blk.c2 {a b : Value} (h : Blk w g t #[a, b]) : w.cell? ⟨g, 0, none⟩ = some a ∧ w.cell? ⟨g, 1, none⟩ = some b := ⟨h.cell 0, h.cell 1⟩
theorem Blk.c3 {a b c : Value} (h : Blk w g t #[a, b, c]) : w.cell? ⟨g, 0, none⟩ = some a ∧ w.cell? ⟨g, 1, none⟩ = some b ∧ w.cell? ⟨g, 2, none⟩ = some c := ⟨h.cell 0, h.cell 1, h.cell 2⟩
end

theorem regrown_same {P : Program} {f : FuncId} {args : Array Value} {w : World} {d : Nat} {os : Array Obj} {v : Value}
    (h : Calls P f args (Go.Sort.grow (redrawn w d) os) fun e w' => e = .returned v ∧ Go.Sort.grow (redrawn w d) os = w') : Calls P f args (Go.Sort.grow (redrawn w d) os) fun e w'' => e = .returned v ∧ ∃ p : Regrown, w'' = Go.Sort.grow (redrawn w p.d) p.os :=
  h.mono fun _ _ ⟨he, hb⟩ => ⟨he, ⟨d, os⟩, hb.symm⟩
theorem IS.regrown {w : World} {A : Option Addr} {n c : Nat} {xs : List Int} (h : IS w A n c xs) (d : Nat) (os : Array Obj) : IS (Go.Sort.grow (redrawn w d) os) A n c xs := h.below (below_regrown w d os) (Nat.le_refl _)
theorem and_34 {a b c d : Prop} (h : a ∧ b ∧ c) (k : d) : a ∧ b ∧ c ∧ d := ⟨h.1, h.2.1, h.2.2, k⟩
theorem and_six {a b c d e f : Prop} (h : a ∧ b ∧ c) (k : d ∧ e ∧ f) : a ∧ b ∧ c ∧ d ∧ e ∧ f := ⟨h.1, h.2.1, h.2.2, k⟩
theorem IS.cut {w : World} {b off n c : Nat} {xs : List Int} (h : IS w (some ⟨b, off, none⟩) n c xs) {lo hi : Nat} (h1 : lo ≤ hi) (h2 : hi ≤ n) :
    IS w (some ⟨b, off + lo, none⟩) (hi - lo) (c - lo) ((xs.take hi).drop lo) := by
  obtain ⟨hl, hnc, hm, hc, _⟩ := h
  refine ⟨by rw [List.length_drop, List.length_take]; omega, by omega, by simp only [maxLen] at hm ⊢; omega, fun hn => ⟨b, off + lo, rfl, fun j hj => ?_⟩, fun h => by cases h⟩
  obtain ⟨b', off', e, hc'⟩ := hc (by omega)
  simp only [Option.some.injEq, Addr.mk.injEq, and_true] at e
  obtain ⟨rfl, rfl⟩ := e
  rw [Nat.add_assoc, hc' (lo + j) (by omega)]
  congr 2
  rw [List.getD_eq_getElem?_getD, List.getD_eq_getElem?_getD, List.getElem?_drop, List.getElem?_take, if_pos (by omega)]
/-- A slice of no numbers, whatever its address. -/
theorem IS.empty (w : World) (A : Option Addr) {c : Nat} (hc : c ≤ maxLen) (h : A = none → c = 0) : IS w A 0 c [] := ⟨rfl, Nat.zero_le _, hc, fun h => absurd h (by omega), h⟩
theorem OW.lit (w : World) (T base : Nat) (xs : List Int) (hb : base ≤ w.heap.size) (hl : xs.length ≤ 1000) :
    OW (w.alloc (.cells (xs.map (Value.int .i64)).toArray T)) T base (some ⟨w.heap.size, 0, none⟩) xs.length xs.length xs := by
  have h := World.ownsRow_lit (e := T) (size := 1) w (xs.map (Value.int .i64)).toArray xs.length hb (by simp only [maxLen]; omega) (by simp)
  exact h
theorem OW.below_grown {a w w' : World} {T base B : Nat} {A : Option Addr} {n c : Nat} {xs : List Int} (h : OW w T base A n c xs) (hg : w.grownBy w' (Value.slice A n c).ownBlock) (hb : Below B a w) (hB : B ≤ base) (hs : B ≤ w.heap.size) : Below B a w' :=
  hb.grown hg hs fun k hk => by
    have := World.ownsRow.lt h k hk
    omega
theorem IS.grown {w w' : World} {T base : Nat} {A A2 : Option Addr} {n c m c2 : Nat} {xs ys : List Int} (h : IS w A2 m c2 ys) (ho : OW w T base A n c xs) (hg : w.grownBy w' (Value.slice A n c).ownBlock) (hd : ∀ p : Addr, A2 = some p → p.block < base) : IS w' A2 m c2 ys := by
  refine ⟨h.1, h.2.1, h.2.2.1, fun hn => ?_, h.2.2.2.2⟩
  obtain ⟨b, off, rfl, hc⟩ := h.2.2.2.1 hn
  refine ⟨b, off, rfl, fun j hj => ?_⟩
  have hlt := World.block_lt_of_cell? w ⟨b, off + j, none⟩ (hc j hj)
  rw [← hc j hj]
  exact World.cell?_of_block (hg.block b hlt (fun e => by
    have h1 := (World.ownsRow.lt ho b e.symm).1
    have h2 := hd _ rfl
    simp at h2
    omega))
/-- append of integers onto integers of the call's own. -/
theorem wpList_append_is {P : Program} (w : World) {ops : Array Oper} {rest : List Oper} {o : Oper} {a : Act} {Q : Exit → Act → World → Prop} (hgd : o.guard = none) (s x : Operand) (t : TypeId)
    (ho : o.op = .call { callee := .builtin .append, args := #[s, x], argTypes := #[t, t] })
    (base T : Nat) (hinfo : (P.info? T).map (fun i => (i.zero, i.size, i.bytes)) = some (some (.int .i64 0), 1, 8)) (ht : P.underlying t = some (.slice T))
    (A : Option Addr) (n c : Nat) (xs : List Int) (hs : a.eval s = .slice A n c) (hown : OW w T base A n c xs)
    (A2 : Option Addr) (m c2 : Nat) (ys : List Int) (hx : a.eval x = .slice A2 m c2) (hr : IS w A2 m c2 ys) (hb : n + m ≤ 1073741824) (hbase : base ≤ w.heap.size)
    (h : ∀ A' c' w', OW w' T base A' (n + m) c' (xs ++ ys) → w.grownBy w' (Value.slice A n c).ownBlock → wpList P ops Q rest (a.put o.dst (.slice A' (n + m) c')) w') :
    wpList P ops Q (o :: rest) a w := by
  obtain ⟨i, hi, hz, h1, h2⟩ := info_parts hinfo
  rcases A2 with _ | ad
  · obtain rfl : c2 = 0 := hr.2.2.2.2 rfl
    obtain rfl : m = 0 := by have := hr.2.1; omega
    obtain rfl : ys = [] := List.eq_nil_of_length_eq_zero hr.1
    have hrun := run_append_owned_none (P := P) (w := w) base t o.type T i 1 ht hi (.slice A n c) n _ hown
    refine wpList_plain hgd fun K hK => ?_
    unfold Oper.wp execOp
    simp only [ho, resolve, invoke, builtin, Sem.run_bind, Sem.run_pure, Result.andThen_ok, List.map_toArray, List.map_cons, List.map_nil, hs, hx, hrun]
    refine hK _ _ ?_
    have e : xs ++ ([] : List Int) = xs := List.append_nil _
    exact h A c w (by rw [e]; exact hown) (World.grownBy.refl w _)
  · have hnews : ∀ j u, (ys.map (Value.int .i64))[j]? = some u → w.cell? (ad.add j) = some u := by
      intro j u hj
      have hl := hr.1
      rw [List.getElem?_map] at hj
      by_cases hm : j < m
      · obtain ⟨b, off, e, hc⟩ := hr.2.2.2.1 (by omega)
        simp only [Option.some.injEq] at e
        subst e
        rw [add_plain', hc j hm, List.getD_eq_getElem?_getD, List.getElem?_eq_getElem (by omega)]
        rw [List.getElem?_eq_getElem (by omega)] at hj
        simpa using hj
      · rw [List.getElem?_eq_none (by omega)] at hj
        cases hj
    refine wpList_append_own_at w hgd s x t ho base T i (.int .i64 0) 1 8 ht hi hz h1 h2 rfl (by omega) (.slice A n c) n (xs.map (Value.int .i64)) hs hown ad m c2 (ys.map (Value.int .i64)) hx (by rw [List.length_map]; have := hr.1; omega) hnews (ints_oneCell _ _) (by simp only [maxLen]; omega) (by omega) hbase ?_
    intro v' w' hown' hg _ _
    rw [← List.map_append] at hown'
    rcases hown'.2 with ⟨rfl, h0⟩ | ⟨g, cap, cur, rfl, _⟩
    · have := h none 0 w' (by unfold OW; rw [h0] at hown' ⊢; exact hown') hg
      rw [h0] at this
      exact this
    · exact h _ _ w' hown' hg

/-- The address of a slice lies below a block; from a block on; two lie in different blocks. -/
def Lt (A : Option Addr) (B : Nat) : Prop := ∀ p, A = some p → p.block < B
def Ge (A : Option Addr) (B : Nat) : Prop := ∀ p, A = some p → B ≤ p.block
def Disj (A A2 : Option Addr) : Prop := ∀ p q, A = some p → A2 = some q → p.block ≠ q.block
theorem Lt.mono {A : Option Addr} {B B' : Nat} (h : Lt A B) (hb : B ≤ B') : Lt A B' := fun p hp => Nat.lt_of_lt_of_le (h p hp) hb
theorem Ge.mono {A : Option Addr} {B B' : Nat} (h : Ge A B) (hb : B' ≤ B) : Ge A B' := fun p hp => Nat.le_trans hb (h p hp)
theorem Disj.mk {A A2 : Option Addr} {B : Nat} (h : Lt A B) (k : Ge A2 B) : Disj A A2 := fun p q hp hq e => by
  have h1 := h p hp
  have h2 := k q hq
  omega
theorem Disj.symm {A A2 : Option Addr} (h : Disj A A2) : Disj A2 A := fun p q hp hq e => h q p hq hp e.symm
theorem OW.lt {w : World} {T base : Nat} {A : Option Addr} {n c : Nat} {xs : List Int} (h : OW w T base A n c xs) : Lt A w.heap.size := fun p hp => by
  rcases h.form with ⟨rfl, _⟩ | ⟨g, rfl, _, hg⟩
  · cases hp
  · simp only [Option.some.injEq] at hp
    subst hp
    exact hg
theorem OW.ge {w : World} {T base : Nat} {A : Option Addr} {n c : Nat} {xs : List Int} (h : OW w T base A n c xs) : Ge A base := fun p hp => by
  rcases h.form with ⟨rfl, _⟩ | ⟨g, rfl, hg, _⟩
  · cases hp
  · simp only [Option.some.injEq] at hp
    subst hp
    exact hg
/-- Only the row of the slice A has been written. -/
def Row (w w' : World) (A : Option Addr) : Prop := w.grownBy w' (A.map (·.block))
theorem Row.refl (w : World) (A : Option Addr) : Row w w A := World.grownBy.refl w _
theorem row_ne {A A2 : Option Addr} {p : Addr} (hd : Disj A2 A) (hp : A2 = some p) : some p.block ≠ A.map (·.block) := by
  rcases A with _ | q
  · simp
  · have := hd p q hp rfl
    simpa using this
theorem IS.away {w w' : World} {A A2 : Option Addr} {m c2 : Nat} {ys : List Int} (h : IS w A2 m c2 ys) (hg : Row w w' A) (hd : Disj A2 A) : IS w' A2 m c2 ys := by
  refine ⟨h.1, h.2.1, h.2.2.1, fun hn => ?_, h.2.2.2.2⟩
  obtain ⟨b, off, rfl, hc⟩ := h.2.2.2.1 hn
  refine ⟨b, off, rfl, fun j hj => ?_⟩
  have hlt := World.block_lt_of_cell? w ⟨b, off + j, none⟩ (hc j hj)
  rw [← hc j hj]
  exact World.cell?_of_block (hg.block b hlt (row_ne hd rfl))
theorem OW.away {w w' : World} {T base : Nat} {A A2 : Option Addr} {m c2 : Nat} {ys : List Int} (h : OW w T base A2 m c2 ys) (hg : Row w w' A) (hd : Disj A2 A) : OW w' T base A2 m c2 ys :=
  h.kept fun g e hlt => hg.block g hlt (row_ne hd e)
theorem Blk.away {w w' : World} {g : Nat} {t : TypeId} {cs : Array Value} {A : Option Addr} (h : Blk w g t cs) (hg : Row w w' A) (hd : Disj (some ⟨g, 0, none⟩) A) : Blk w' g t cs :=
  (hg.block g h.lt (row_ne hd rfl)).trans h
theorem below_row {B : Nat} {a w w' : World} {A : Option Addr} (h : Below B a w) (hg : Row w w' A) (hB : B ≤ w.heap.size) (hd : Ge A B) : Below B a w' :=
  h.grown hg hB fun k hk => by
    rcases A with _ | q
    · simp at hk
    · simp at hk
      have := hd q rfl
      omega
theorem own_map {A : Option Addr} {n c : Nat} : (Value.slice A n c).ownBlock = A.map (·.block) := by cases A <;> rfl

theorem OW.setCell2 {w : World} {T base : Nat} {A : Option Addr} {n c : Nat} {xs : List Int} (h : OW w T base A n c xs) {p : Addr} (hp : p.block < base ∨ Disj (some ⟨p.block, 0, none⟩) A) (u : Value) : OW (w.setCell p u) T base A n c xs := by
  rcases hp with hp | hp
  · exact h.setCell hp u
  · exact h.kept fun g e _ => Below.heap_setCell w p u g (fun e2 => hp _ _ rfl e (by simp [e2]))

theorem OW.cutTo {w : World} {T base : Nat} {A : Option Addr} {n c : Nat} {xs : List Int} (h : OW w T base A n c xs) {k : Nat} (hk : k ≤ n) : OW w T base A k c (xs.take k) := by
  have hl := h.len
  obtain ⟨h1, h2⟩ := h
  refine ⟨by simp; omega, ?_⟩
  rcases h2 with ⟨hv, hx⟩ | ⟨g, cap, cur, hv, hb, hg, hnc, hcm, hcs, ht⟩
  · left
    simp only [Value.slice.injEq] at hv
    obtain ⟨rfl, rfl, rfl⟩ := hv
    have : k = 0 := by omega
    subst this
    exact ⟨rfl, by simp⟩
  · right
    simp only [Value.slice.injEq] at hv
    obtain ⟨rfl, _, rfl⟩ := hv
    refine ⟨g, c, cur, rfl, hb, hg, by omega, hcm, hcs, ?_⟩
    rw [List.map_take, ← ht, List.take_take]
    congr 1
    omega
theorem OW.storedS {w : World} {T base : Nat} {n c : Nat} {xs : List Int} {g : Nat} (h : OW w T base (some ⟨g, 0, none⟩) n c xs) (k : Nat) (v : Int) : OW (w.setCell ⟨g, k, none⟩ (.int .i64 v)) T base (some ⟨g, 0, none⟩) n c (xs.set k v) := by
  have h2 := (World.ownsRow.stored h k (.int .i64 v)).1
  rw [← List.map_set] at h2
  exact h2

/-- The numbers that a mark writes: k, k + 1 and so on. -/
def marks (k : Int) (n : Nat) : List Int := (List.range n).map fun (i : Nat) => k + (i : Int)
theorem marks_len (k : Int) (n : Nat) : (marks k n).length = n := by simp [marks]
theorem marks_at {k : Int} {n i : Nat} (h : i < n) : (marks k n)[i]? = some (k + (i : Int)) := by simp [marks, h]
theorem mark_start (k : Int) (xs : List Int) : xs = (marks k 0) ++ xs.drop 0 := by simp [marks]
theorem mark_step {k : Int} {i : Nat} {xs : List Int} (h : i < xs.length) : ((marks k i ++ xs.drop i).map (Value.int .i64)).set i (.int .i64 (k + (i : Int))) = (marks k (i + 1) ++ xs.drop (i + 1)).map (Value.int .i64) := by
  have e1 : marks k (i + 1) = marks k i ++ [k + (i : Int)] := by simp [marks, List.range_succ]
  have e2 : xs.drop i = xs[i] :: xs.drop (i + 1) := List.drop_eq_getElem_cons h
  have h1 : i - ((marks k i).map (Value.int .i64)).length = 0 := by rw [List.length_map, marks_len]; omega
  rw [e1, e2, List.map_append, List.set_append_right _ _ (by rw [List.length_map, marks_len]; omega), h1]
  simp only [List.map_cons, List.set_cons_zero, List.map_append, List.append_assoc, List.cons_append, List.nil_append]
theorem mark_end {k : Int} {n : Nat} {xs : List Int} (h : xs.length = n) : marks k n ++ xs.drop n = marks k n := by
  rw [List.drop_of_length_le (by omega), List.append_nil]

/-- The slice value 'slice A n c' holds bytes. -/
def BS (w : World) (A : Option Addr) (n c : Nat) (xs : List Int) : Prop :=
  xs.length = n ∧ n ≤ c ∧ c ≤ maxLen ∧ (∀ x ∈ xs, 0 ≤ x ∧ x ≤ 255) ∧
    (0 < n → ∃ b off, A = some ⟨b, off, none⟩ ∧ ∀ j, j < n → w.cell? ⟨b, off + j, none⟩ = some (.int .u8 (xs.getD j 0))) ∧ (A = none → c = 0)
theorem BS.nil (w : World) : BS w none 0 0 [] := ⟨rfl, Nat.le_refl _, by simp [maxLen], by simp, fun h => absurd h (by omega), fun _ => rfl⟩
theorem BS.of_row {w : World} {a : Option Addr} {len cap : Nat} {zs : List Int}
    (h : (a = none ∧ len = 0 ∧ cap = 0 ∧ zs = []) ∨
      ∃ x, a = some x ∧ len ≤ cap ∧ cap ≤ maxLen ∧ zs.length = cap ∧ (∀ i, i < zs.length → w.cell? (x.add i) = some (.int .u8 (zs.getD i 0))) ∧ ∀ n ∈ zs, (Lit.int .u8 n).wf = true) :
    BS w a len cap (zs.take len) := by
  rcases h with ⟨rfl, rfl, rfl, rfl⟩ | ⟨x, rfl, hl, hm, hz, hc, hw⟩
  · exact BS.nil w
  · refine ⟨by rw [List.length_take]; omega, hl, hm, fun y hy => ?_, fun hn => ?_, fun h => by cases h⟩
    · have h2 := hw y (List.mem_of_mem_take hy)
      have e1 : IntKind.u8.min = 0 := rfl
      have e2 : IntKind.u8.max = 255 := rfl
      simp [Lit.wf, e1, e2] at h2
      omega
    obtain ⟨b, off, spot⟩ := x
    have h0 := hc 0 (by omega)
    have hspot : spot = none := by simpa [Addr.add] using World.cell?_spot h0
    subst hspot
    refine ⟨b, off, rfl, fun j hj => ?_⟩
    rw [← add_plain', hc j (by omega)]
    congr 2
    rw [List.getD_eq_getElem?_getD, List.getD_eq_getElem?_getD, List.getElem?_take, if_pos hj]
theorem BS.at_ {w : World} {A : Option Addr} {n c : Nat} {xs : List Int} (h : BS w A n c xs) {k : Nat} (hk : k < n) :
    ∃ b off v, A = some ⟨b, off, none⟩ ∧ 0 ≤ v ∧ v ≤ 255 ∧ w.cell? ⟨b, off + k, none⟩ = some (.int .u8 v) := by
  obtain ⟨b, off, e, hc⟩ := h.2.2.2.2.1 (by omega)
  have hl : k < xs.length := by have := h.1; omega
  refine ⟨b, off, xs[k], e, (h.2.2.2.1 _ (List.getElem_mem hl)).1, (h.2.2.2.1 _ (List.getElem_mem hl)).2, ?_⟩
  rw [hc k hk, List.getD_eq_getElem?_getD, List.getElem?_eq_getElem hl]
  rfl
theorem BS.keep {w w' : World} {A : Option Addr} {n c : Nat} {xs : List Int} (h : BS w A n c xs) (hk : 0 < n → ∀ p : Addr, A.map (·.block) = some p.block → w'.cell? p = w.cell? p) : BS w' A n c xs := by
  refine ⟨h.1, h.2.1, h.2.2.1, h.2.2.2.1, fun hn => ?_, h.2.2.2.2.2⟩
  obtain ⟨b, off, rfl, hc⟩ := h.2.2.2.2.1 hn
  exact ⟨b, off, rfl, fun j hj => (hk hn ⟨b, off + j, none⟩ rfl).trans (hc j hj)⟩
theorem BS.lt {w : World} {A : Option Addr} {n c : Nat} {xs : List Int} (h : BS w A n c xs) (hn : 0 < n) : Lt A w.heap.size := fun p hp => by
  obtain ⟨b, off, rfl, hc⟩ := h.2.2.2.2.1 hn
  cases hp
  exact World.block_lt_of_cell? w ⟨b, off + 0, none⟩ (hc 0 hn)

theorem BS.cut {w : World} {A : Option Addr} {n c : Nat} {xs : List Int} (h : BS w A n c xs) {hi : Nat} (h2 : hi ≤ n) : BS w A hi c (xs.take hi) := by
  obtain ⟨hl, hnc, hm, hb, hc, hz⟩ := h
  refine ⟨by rw [List.length_take]; omega, by omega, hm, fun x hx => hb x (List.mem_of_mem_take hx), fun hn => ?_, hz⟩
  obtain ⟨b, off, e, hc'⟩ := hc (by omega)
  refine ⟨b, off, e, fun j hj => ?_⟩
  rw [hc' j (by omega)]
  congr 2
  rw [List.getD_eq_getElem?_getD, List.getD_eq_getElem?_getD, List.getElem?_take, if_pos hj]

/-- Integers that came in, as the shell of a proof tells them. -/
theorem IS.of_row {w : World} {a : Option Addr} {len cap : Nat} {zs : List Int}
    (h : (a = none ∧ len = 0 ∧ cap = 0 ∧ zs = []) ∨
      ∃ x, a = some x ∧ len ≤ cap ∧ cap ≤ maxLen ∧ zs.length = cap ∧ (∀ i, i < zs.length → w.cell? (x.add i) = some (.int .i64 (zs.getD i 0))) ∧ ∀ n ∈ zs, (Lit.int .i64 n).wf = true) :
    IS w a len cap (zs.take len) := by
  rcases h with ⟨rfl, rfl, rfl, rfl⟩ | ⟨x, rfl, hl, hm, hz, hc, _⟩
  · exact IS.nil w
  · refine ⟨by rw [List.length_take]; omega, hl, hm, fun hn => ?_, fun h => by cases h⟩
    obtain ⟨b, off, spot⟩ := x
    have h0 := hc 0 (by omega)
    have hspot : spot = none := by simpa [Addr.add] using World.cell?_spot h0
    subst hspot
    refine ⟨b, off, rfl, fun j hj => ?_⟩
    rw [← add_plain', hc j (by omega)]
    congr 2
    rw [List.getD_eq_getElem?_getD, List.getD_eq_getElem?_getD, List.getElem?_take, if_pos hj]
theorem call_to {P : Program} {f : FuncId} {args : Array Value} {w : World} {B : Nat} {b c : Bool} (h : Calls P f args w fun e w' => e = .returned (.bool b) ∧ Below B w w') (hb : b = c) : Calls P f args w fun e w' => e = .returned (.bool c) ∧ Below B w w' := by
  subst hb
  exact h
theorem call_int {P : Program} {f : FuncId} {args : Array Value} {w : World} {R : World → Prop} {b c : Int} (h : Calls P f args w fun e w' => e = .returned (.int .i64 b) ∧ R w') (hb : b = c) : Calls P f args w fun e w' => e = .returned (.int .i64 c) ∧ R w' := by
  subst hb
  exact h
theorem call_b {P : Program} {f : FuncId} {args : Array Value} {w : World} {R : World → Prop} {b c : Bool} (h : Calls P f args w fun e w' => e = .returned (.bool b) ∧ R w') (hb : b = c) : Calls P f args w fun e w' => e = .returned (.bool c) ∧ R w' := by
  subst hb
  exact h
end Go.Proofs.Ythbdcindhkjboaa
