/-
  append of integers, as one step of a region that draws its order.
-/
import Derived.Test.YtnhlbaldbjcjaaaVic
import Derived.Test.YtnhlbaldbjcjaaaTriB
namespace Go.Proofs.Ytnhlbaldbjcjaaa
open Go.RowKit
theorem run_append_is {P : Program} {w : World} {t ty T base : Nat} (hinfo : (P.info? T).map (fun i => (i.zero, i.size, i.bytes)) = some (some (.int .i64 0), 1, 8)) (ht : P.underlying t = some (.slice T))
    {A A2 : Option Addr} {n c m c2 : Nat} {xs ys : List Int} (hown : OW w T base A n c xs) (hr : IS w A2 m c2 ys) (hb : n + m ≤ 1073741824) (hbase : base ≤ w.heap.size) :
    ∃ A' c' w', (Builtin.append_ #[t, t] ty #[.slice A n c, .slice A2 m c2]).run P w = .ok (.slice A' (n + m) c') w' ∧ OW w' T base A' (n + m) c' (xs ++ ys) ∧ Row w w' A ∧ Near A' A w.heap.size := by
  obtain ⟨i, hi, hz, h1, h2⟩ := info_parts hinfo
  rcases A2 with _ | ad
  · obtain rfl : c2 = 0 := hr.2.2.2.2 rfl
    obtain rfl : m = 0 := by have := hr.2.1; omega
    obtain rfl : ys = [] := List.eq_nil_of_length_eq_zero hr.1
    have hrun := run_append_owned_none (P := P) (w := w) base t ty T i 1 ht hi (.slice A n c) n _ hown
    exact ⟨A, c, w, hrun, by rw [List.append_nil]; exact hown, Row.refl _ _, .inl rfl⟩
  · have hnews : ∀ j u, (ys.map (Value.int .i64))[j]? = some u → w.cell? (ad.add j) = some u := by
      intro j u hj
      have hl := hr.1
      rw [List.getElem?_map] at hj
      by_cases hm : j < m
      · obtain ⟨b, off, e, hc⟩ := hr.2.2.2.1 (by omega)
        simp only [Option.some.injEq] at e
        subst e
        rw [add_plain', hc j hm, List.getD_eq_getElem?_getD, List.getElem?_eq_getElem (by omega)]
        rw [List.getElem?_eq_getElem (by omega)] at hj
        simpa using hj
      · rw [List.getElem?_eq_none (by omega)] at hj
        cases hj
    obtain ⟨v', w', hrun, hown', hg, _, hat⟩ := run_append_own_at (P := P) w base t ty T i (.int .i64 0) 1 8 ht hi hz h1 h2 rfl (by omega) (.slice A n c) n (xs.map (Value.int .i64)) hown ad m c2 (ys.map (Value.int .i64)) (by rw [List.length_map]; have := hr.1; omega) hnews (ints_oneCell _ _) (by simp only [maxLen]; omega) (by omega) hbase
    rw [← List.map_append] at hown'
    rcases hown'.2 with ⟨rfl, h0⟩ | ⟨g, cap, cur, rfl, _⟩
    · exact ⟨none, 0, w', by rw [hrun, h0], by unfold OW; rw [h0] at hown' ⊢; exact hown', by unfold Row; rw [← own_map (n := n) (c := c)]; exact hg, by rw [own_map, own_map] at hat; exact hat⟩
    · exact ⟨_, _, w', hrun, hown', by unfold Row; rw [← own_map (n := n) (c := c)]; exact hg, by rw [own_map, own_map] at hat; exact hat⟩
theorem step_append_is {P : Program} {ops : Array Oper} {o : Oper} {a : Act} {w : World} {K : Act → World → Prop} {Q : Exit → Act → World → Prop} {E : Prop} (hg : o.guard = none) (s x : Operand) (t : TypeId)
    (hop : o.op = Op.call { callee := Callee.builtin Builtin.append, args := #[s, x], argTypes := #[t, t] }) (base T : Nat)
    (hinfo : (P.info? T).map (fun i => (i.zero, i.size, i.bytes)) = some (some (.int .i64 0), 1, 8)) (ht : P.underlying t = some (.slice T))
    (A : Option Addr) (n c : Nat) (xs : List Int) (hs : a.eval s = .slice A n c) (hown : OW w T base A n c xs)
    (A2 : Option Addr) (m c2 : Nat) (ys : List Int) (hx : a.eval x = .slice A2 m c2) (hr : IS w A2 m c2 ys) (hb : n + m ≤ 1073741824) (hbase : base ≤ w.heap.size)
    (hK : ∀ A' c' w', OW w' T base A' (n + m) c' (xs ++ ys) → Row w w' A → Near A' A w.heap.size → K (a.put o.dst (.slice A' (n + m) c')) w') :
    if Region.wanted o (yielded ops a.tmps) = true then Oper.wp P o a w K Q else E := by
  have hw : Region.wanted o (yielded ops a.tmps) = true := by simp [Region.wanted, hg]
  rw [if_pos hw]
  obtain ⟨A', c', w', hrun, h2, h3, h4⟩ := run_append_is (P := P) (ty := o.type) hinfo ht hown hr hb hbase
  unfold Oper.wp
  simp [execOp, hop, resolve, invoke, builtin, hs, hx, hrun, Result.andThen]
  exact hK A' c' w' h2 h3 h4
theorem any_int (p : Int) (w : World) : (Instr.typeAssert (.iface 3 (.int .i64 p)) 20 3 false).run Try.prog w = .ok (.int .i64 p) w := by kernel_rfl
set_option maxHeartbeats 4000000 in
theorem vic_Push_any {g base : Nat} {A B : Option Addr} {n c m d : Nat} {ps : List Int} (p : Int) (w : World) (hP : Blk w g 41 #[.slice B m d, .slice A n c])
    (hO : OW w 3 base A n c ps) (hD : Disj (some ⟨g, 0, none⟩) A) (hn : n ≤ 1000) (hb : base ≤ w.heap.size) (hgb : base ≤ g) :
    Calls Try.prog 47 #[.pointer (some ⟨g, 0, none⟩), .iface 3 (.int .i64 p)] w fun e w' => e = .returned (.tuple #[]) ∧ ∃ A' c', Blk w' g 41 #[.slice B m d, .slice A' (n + 1) c'] ∧ OW w' 3 base A' (n + 1) c' (ps ++ [p]) ∧ Disj (some ⟨g, 0, none⟩) A' ∧ Below base w w' := by
  have hgw := hP.lt
  obtain ⟨p0, p1⟩ := hP.c2
  have f1 := hP.frozen 1
  have hne : g ≠ w.heap.size := by omega
  have OO : Hid (OW ((w.alloc (.cells #[.int .i64 p] 3)).drew) 3 base A n c ps) := Lib.hid ((hO.alloc _).drew)
  have ST : Hid (IS ((w.alloc (.cells #[.int .i64 p] 3)).drew) (some ⟨w.heap.size, 0, none⟩) 1 1 [p]) := Lib.hid (OW.lit w 3 0 [p] (Nat.zero_le _) (by simp)).is.drew
  have PP : Hid (Blk ((w.alloc (.cells #[.int .i64 p] 3)).drew) g 41 #[.slice B m d, .slice A n c]) := Lib.hid (hP.alloc _).drew
  have BB : Hid (Below base w ((w.alloc (.cells #[.int .i64 p] 3)).drew)) := Lib.hid ((Below.refl _ _).alloc hb _).drew
  have HD := Lib.hid hD
  have HGe := Lib.hid hO.ge
  have ha := fun w => any_int p w
  clear hP hO hD
  go_enter Try.func47, Try.ntmps47
  go_region_law (refine step_append_is rfl (.tmp 8) (.tmp 11) 39 rfl base 3 infoInt Try.underlying39 A n c ps (by simp [Act.eval, Act.put]) OO.out (some ⟨w.heap.size, 0, none⟩) 1 1 [p] (by simp [Act.eval, Act.put]) ST.out (by omega) (by show base ≤ (w.alloc _).heap.size; simp; omega) ?_; intro A' c' w2 ho hg hnr; have O2 := Lib.hid ho; have P2 := Lib.hid (PP.out.away hg HD.out); have B2 := Lib.hid (below_row BB.out hg (by show base ≤ (w.alloc _).heap.size; simp; omega) HGe.out); have D2 := Lib.hid (hnr.disj HD.out.symm (fun q hq => by cases hq; show g < (w.alloc _).heap.size; simp; omega)).symm; clear ho hg hnr; obtain ⟨z0, z1⟩ := P2.out.c2; have zf := P2.out.frozen 1)
  all_goals (
    refine bodyPost_end (v := .tuple #[]) (by simp [results, Try.results47, go_sem]) rfl ?_
    exact ⟨rfl, A', c', by simpa using P2.out.set_ 1 (.slice A' (n + 1) c'), O2.out.setCell2 (p := ⟨g, 1, none⟩) (.inr D2.out) _, D2.out, B2.out.setCell (p := ⟨g, 1, none⟩) hgb _⟩)
end Go.Proofs.Ytnhlbaldbjcjaaa
