/-
  Contracts of queues: slices.DeleteFunc of the entry with a name.
-/
import Derived.Test.YthemfejahohbeaaQuE
import Derived.Test.YthemfejahohbeaaTriC
import Derived.Test.YthemfejahohbeaaArN
namespace Go.Proofs.Ythemfejahohbeaa
open Go.RowKit
/-- Entries without those with a name. -/
def flt (nm : Int) (xs : List Tr) : List Tr := xs.filter fun y => !(y.a == nm)
theorem flt_next {nm : Int} {xs : List Tr} {k : Nat} {x : Tr} (h : xs[k]? = some x) : flt nm (xs.take (k + 1)) = flt nm (xs.take k) ++ if x.a == nm then [] else [x] := by
  have hk : k < xs.length := (List.getElem?_eq_some_iff.1 h).1
  have hx : xs[k] = x := (List.getElem?_eq_some_iff.1 h).2
  unfold flt
  rw [List.take_succ_eq_append_getElem hk, hx, List.filter_append]
  by_cases e : (x.a == nm) = true
  · simp [List.filter_cons, e]
  · simp only [Bool.not_eq_true] at e
    simp [List.filter_cons, e]
theorem flt_before {nm : Int} {xs : List Tr} {k : Nat} (h : k ≤ whereA nm xs) : flt nm (xs.take k) = xs.take k := by
  unfold flt
  rw [List.filter_eq_self]
  intro y hy
  obtain ⟨j, hj, e⟩ := List.getElem_of_mem hy
  rw [List.length_take] at hj
  rw [List.getElem_take] at e
  have h1 := List.not_of_lt_findIdx (p := fun x : Tr => x.a == nm) (xs := xs) (i := j) (by unfold whereA at h; omega)
  rw [e] at h1
  simpa using h1
theorem where_get {nm : Int} {xs : List Tr} (h : whereA nm xs < xs.length) : ∃ x, xs[whereA nm xs]? = some x ∧ x.a = nm := by
  refine ⟨xs[whereA nm xs], List.getElem?_eq_getElem h, ?_⟩
  have := List.findIdx_getElem (p := fun x : Tr => x.a == nm) (w := h)
  exact eq_of_beq this
set_option maxHeartbeats 400000 in
theorem popClo_any (x : Tr) (g : Nat) (nm : Int) (w : World) (hc : w.cell? ⟨g, 0, none⟩ = some (.int .i64 nm)) :
    Calls Try.prog 47 #[.agg #[.int .i64 x.a, .int .i64 x.b, .int .i64 x.c], .pointer (some ⟨g, 0, none⟩)] w fun e w' => e = .returned (.bool (x.a == nm)) ∧ Below w.heap.size w w' := by
  have hg : g < w.heap.size := World.block_lt_of_cell? w _ hc
  go_enter Try.func47, Try.ntmps47
  go_wp2_with (fail)
  go_ret
  exact ⟨rfl, below_new _ _⟩
set_option maxHeartbeats 2000000 in
theorem popIdx_any {A : Option Addr} {n c : Nat} {xs : List Tr} (g : Nat) (nm : Int) (w : World) (h : TS w A n c xs) (hc : w.cell? ⟨g, 0, none⟩ = some (.int .i64 nm)) (hn : n ≤ 1000000) :
    Calls Try.prog 65 #[.slice A n c, .func (.func 47) #[] #[.pointer (some ⟨g, 0, none⟩)]] w fun e w' => e = .returned (.int .i64 (namedA nm xs)) ∧ Below w.heap.size w w' := by
  have H := Lib.hid h
  have HC := Lib.hid hc
  clear h hc
  go_enter Try.func65, Try.ntmps65
  go_wp2_with (fail)
  go_loopw [8] (fun i wr => ∃ k : Nat, k ≤ n ∧ i = .int .i64 k ∧ Hid (∀ j, j < k → ∀ y, xs[j]? = some y → y.a ≠ nm) ∧ Hid (Below w.heap.size w wr)) (fun i _ => n - (intOf i).toNat)
  case atStart => exact ⟨0, Nat.zero_le _, rfl, Lib.hid (fun j hj => absurd hj (by omega)), Lib.hid (Below.refl _ _)⟩
  case round =>
    obtain ⟨k, hk, rfl, hp, hB⟩ := hrel
    by_cases hlt : k < n
    · obtain ⟨b, off, x, rfl, hx, ca, cb, cc⟩ := (H.out.below hB.out (Nat.le_refl _)).at_ hlt
      have HX := Lib.hid hx
      have hki : (k : Int) < (n : Int) := by omega
      clear hx
      rcases hv : (x.a == nm) with _ | _
      · have hne : Hid (x.a ≠ nm) := Lib.hid (by simpa using hv)
        go_wp2_with (fail)
        refine (call_b (popClo_any x g nm _ (cell_up hB.out HC.out)) hv).mono ?_
        rintro e w2 ⟨rfl, hb2⟩
        have B2 := Lib.hid (hB.out.trans (hb2.mono hB.out.size))
        clear hb2 ca cb cc hv
        go_wp2_with (fail)
        go_roundw
        case rel =>
          refine ⟨k + 1, by omega, by go_num, Lib.hid fun j hj y hy => ?_, B2⟩
          rcases Nat.lt_or_ge j k with h1 | h1
          · exact hp.out j h1 y hy
          · obtain rfl : j = k := by omega
            obtain rfl : x = y := by have h2 := HX.out; rw [hy] at h2; injection h2 with h2; exact h2.symm
            exact hne.out
        case measure => simp [intOf]; omega
      · have heq : Hid (x.a = nm) := Lib.hid (by simpa using hv)
        go_wp2_with (fail)
        refine (call_b (popClo_any x g nm _ (cell_up hB.out HC.out)) hv).mono ?_
        rintro e w2 ⟨rfl, hb2⟩
        have B2 := Lib.hid (hB.out.trans (hb2.mono hB.out.size))
        clear hb2 ca cb cc hv
        go_wp2_with (fail)
        go_ret
        exact ⟨ret_int (named_at HX.out heq.out hp.out).symm, B2.out⟩
    · go_wp2_with (fail)
      go_ret
      have ek : k = n := by omega
      subst ek
      exact ⟨ret_int (named_none fun j hj => hp.out j (by have := H.out.len; omega)).symm, hB.out⟩
/-- A call has handed back a part of a row of the call's own. -/
def GaveRow (T base g : Nat) (w : World) (xs : List Tr) (e : Ending) (w' : World) : Prop :=
  ∃ n c, e = .returned (.slice (some ⟨g, 0, none⟩) n c) ∧ OT w' T base (some ⟨g, 0, none⟩) n c xs ∧ Row w w' (some ⟨g, 0, none⟩)
set_option maxHeartbeats 8000000 in
theorem popDel_any {base g0 n c : Nat} {xs : List Tr} (g : Nat) (nm : Int) (w : World) (h : OT w 29 base (some ⟨g0, 0, none⟩) n c xs) (hc : w.cell? ⟨g, 0, none⟩ = some (.int .i64 nm)) (hne : g ≠ g0) (hn : n ≤ 1000) (hW : whereA nm xs < xs.length) :
    Calls Try.prog 46 #[.slice (some ⟨g0, 0, none⟩) n c, .func (.func 47) #[] #[.pointer (some ⟨g, 0, none⟩)]] w (GaveRow 29 base g0 w (flt nm xs)) := by
  have hl := h.len
  have hnc := h.ts.2.1
  have hcm := h.ts.2.2.1
  simp only [maxLen] at hcm
  obtain ⟨K, hK⟩ : ∃ K : Nat, K = whereA nm xs := ⟨_, rfl⟩
  have hKn : K < n := by omega
  have e1 : Hid (namedA nm xs = (K : Int)) := Lib.hid (by rw [named_eq hW, hK])
  obtain ⟨xk, hxk, hak⟩ := where_get hW
  rw [← hK] at hxk
  have F0 : Hid (flt nm (xs.take (K + 1)) = xs.take K) := Lib.hid (by rw [flt_next hxk, flt_before (by omega)]; simp [hak])
  have HL := Lib.hid hl
  have H := Lib.hid h
  have HC := Lib.hid hc
  clear h hc hl hK hW hxk hak
  have hK1 : ((K : Int) == -1) = false := by simp
  have hz := fun w => (by kernel_rfl : (zeroValue 29).run Try.prog w = .ok (.agg #[.int .i64 0, .int .i64 0, .int .i64 0]) w)
  have HZ := Lib.hid hz
  clear hz
  go_enter Try.func46, Try.ntmps46
  go_wp2_with (fail)
  refine (call_int (popIdx_any g nm _ H.out.ts HC.out (by omega)) e1.out).mono ?_
  rintro e w1 ⟨rfl, hb1⟩
  have O1 := Lib.hid (H.out.below hb1 (Nat.le_refl _))
  have R1 : Hid (Row w w1 (some ⟨g0, 0, none⟩)) := Lib.hid ⟨hb1.os, hb1.tape, hb1.output, hb1.size, fun k hk _ => hb1.block k hk⟩
  have C1 := Lib.hid (cell_up hb1 HC.out)
  clear hb1
  go_wp2_with (fail)
  go_loopw [5, 6] (fun i j wr => ∃ jj ii : Nat, K + 1 ≤ jj ∧ jj ≤ n ∧ ii < jj ∧ i = .int .i64 ii ∧ j = .int .i64 jj ∧ Hid ((flt nm (xs.take jj)).length = ii) ∧ Hid (OT wr 29 base (some ⟨g0, 0, none⟩) n c (flt nm (xs.take jj) ++ xs.drop ii)) ∧ Hid (Row w wr (some ⟨g0, 0, none⟩)) ∧ Hid (wr.cell? ⟨g, 0, none⟩ = some (.int .i64 nm))) (fun _ j _ => n - (intOf j).toNat)
  case atStart => exact ⟨K + 1, K, Nat.le_refl _, by omega, by omega, rfl, by go_num, Lib.hid (by rw [F0.out, List.length_take]; have := HL.out; omega), Lib.hid (by rw [F0.out, List.take_append_drop]; exact O1.out), R1, C1⟩
  case round =>
    obtain ⟨jj, ii, hj0, hj1, hij, rfl, rfl, hlen, hO, hR, hC⟩ := hrel
    have hli : ii < jj := hij
    by_cases hlt : jj < n
    · have hx : xs[jj]? = some (xs[jj]'(by have := HL.out; omega)) := List.getElem?_eq_getElem _
      obtain ⟨x, hxx⟩ : ∃ x, xs[jj]'(by have := HL.out; omega) = x := ⟨_, rfl⟩
      rw [hxx] at hx
      clear hxx
      have HX := Lib.hid hx
      have hx2 : (flt nm (xs.take jj) ++ xs.drop ii)[jj]? = some x := by
        rw [List.getElem?_append_right (by have := hlen.out; omega), List.getElem?_drop]
        rw [show ii + (jj - (flt nm (xs.take jj)).length) = jj by have := hlen.out; omega]
        exact hx
      obtain ⟨_, _, x', e0, hx', ca, cb, cc⟩ := hO.out.ts.at_ hlt
      simp only [Option.some.injEq, Addr.mk.injEq, and_true] at e0
      obtain ⟨rfl, rfl⟩ := e0
      obtain rfl : x = x' := by rw [hx2] at hx'; injection hx'
      rw [Nat.zero_add] at ca cb cc
      clear hx hx2 hx'
      have FN := Lib.hid (flt_next (nm := nm) HX.out)
      have hg0 : g0 < wr.heap.size := World.block_lt_of_cell? wr _ ca
      have hgw : g < wr.heap.size := World.block_lt_of_cell? wr _ hC.out
      rcases hv : (x.a == nm) with _ | _
      case true =>
        go_wp2_with (fail)
        refine (call_b (popClo_any x g nm _ (cell_alloc hC.out _)) hv).mono ?_
        rintro e w2 ⟨rfl, hb2⟩
        have O2 := Lib.hid ((hO.out.alloc (.cells #[.int .i64 x.a, .int .i64 x.b, .int .i64 x.c] 29)).below hb2 (Nat.le_refl _))
        have B2 := Lib.hid ((below_new wr (.cells #[.int .i64 x.a, .int .i64 x.b, .int .i64 x.c] 29)).trans (hb2.mono (by simp)))
        have R2 : Hid (Row w w2 (some ⟨g0, 0, none⟩)) := Lib.hid (World.grownBy.trans hR.out ⟨B2.out.os, B2.out.tape, B2.out.output, B2.out.size, fun k hk _ => B2.out.block k hk⟩)
        have C2 := Lib.hid (cell_up B2.out hC.out)
        have FN2 : Hid (flt nm (xs.take (jj + 1)) = flt nm (xs.take jj)) := Lib.hid (by rw [FN.out, hv]; simp)
        clear hb2 ca cb cc hv
        go_wp2_with (fail)
        go_roundw
        case rel => exact ⟨jj + 1, ii, by omega, by omega, by omega, rfl, by go_num, Lib.hid (by rw [FN2.out]; exact hlen.out), Lib.hid (by rw [FN2.out]; exact O2.out), R2, C2⟩
        case measure => simp [intOf]; omega
      case false =>
        go_wp2_with (fail)
        refine (call_b (popClo_any x g nm _ (cell_alloc hC.out _)) hv).mono ?_
        rintro e w2 ⟨rfl, hb2⟩
        have O2 := Lib.hid ((hO.out.alloc (.cells #[.int .i64 x.a, .int .i64 x.b, .int .i64 x.c] 29)).below hb2 (Nat.le_refl _))
        have X2 := Lib.hid ((Blk.new wr 29 #[.int .i64 x.a, .int .i64 x.b, .int .i64 x.c]).on hb2)
        have B2 := Lib.hid ((below_new wr (.cells #[.int .i64 x.a, .int .i64 x.b, .int .i64 x.c] 29)).trans (hb2.mono (by simp)))
        have R2 : Hid (Row w w2 (some ⟨g0, 0, none⟩)) := Lib.hid (World.grownBy.trans hR.out ⟨B2.out.os, B2.out.tape, B2.out.output, B2.out.size, fun k hk _ => B2.out.block k hk⟩)
        have C2 := Lib.hid (cell_up B2.out hC.out)
        have FN2 : Hid (flt nm (xs.take (jj + 1)) = flt nm (xs.take jj) ++ [x]) := Lib.hid (by rw [FN.out, hv]; simp)
        clear hb2 ca cb cc hv
        have hin : ii < n := by omega
        obtain ⟨_, _, y, e0, hy, ya, yb, yc⟩ := O2.out.ts.at_ hin
        simp only [Option.some.injEq, Addr.mk.injEq, and_true] at e0
        obtain ⟨rfl, rfl⟩ := e0
        rw [Nat.zero_add] at ya yb yc
        have f0 : w2.frozen? ⟨g0, ii * 3, none⟩ = false := World.ownsRow.frozenAt O2.out (ii * 3)
        have f1 : w2.frozen? ⟨g0, ii * 3 + 1, none⟩ = false := World.ownsRow.frozenAt O2.out (ii * 3 + 1)
        have f2 : w2.frozen? ⟨g0, ii * 3 + 2, none⟩ = false := World.ownsRow.frozenAt O2.out (ii * 3 + 2)
        obtain ⟨x0, x1, x2⟩ := X2.out.c3
        have xl := X2.out.lt
        have hii : (ii : Int) < (n : Int) := by omega
        clear hy
        go_wp2_with (fail)
        go_roundw
        case rel =>
          refine ⟨jj + 1, ii + 1, by omega, by omega, by omega, by go_num, by go_num, Lib.hid (by rw [FN2.out, List.length_append, hlen.out]; rfl), Lib.hid ?_, Lib.hid ?_, Lib.hid ?_⟩
          · have h1 := O2.out.stored hin x
            have h2 : (flt nm (xs.take jj) ++ xs.drop ii).set ii x = flt nm (xs.take (jj + 1)) ++ xs.drop (ii + 1) := by
              rw [FN2.out, List.append_assoc, List.set_append_right _ _ (by have := hlen.out; omega), hlen.out, Nat.sub_self]
              congr 1
              have hd : ii < xs.length := by have := HL.out; omega
              rw [List.drop_eq_getElem_cons hd]
              rfl
            rw [h2] at h1
            exact h1
          · refine World.grownBy.trans R2.out ⟨rfl, rfl, rfl, by simp [World.setCell], fun k _ hk => ?_⟩
            have hkg : k ≠ g0 := fun e => hk (by simp [e])
            rw [Below.heap_setCell _ _ _ _ hkg, Below.heap_setCell _ _ _ _ hkg, Below.heap_setCell _ _ _ _ hkg]
          · exact cell_set (cell_set (cell_set C2.out hne _) hne _) hne _
        case measure => simp [intOf]; omega
    · have ej : jj = n := by omega
      subst ej
      have FX : Hid (flt nm (xs.take jj) = flt nm xs) := Lib.hid (by rw [List.take_of_length_le (by have := HL.out; omega)])
      have hii : (ii : Int) < (jj : Int) := by omega
      have hic : (ii : Int) < (c : Int) := by omega
      have hci : ¬ c = ii := by omega
      have hjc : (jj : Int) ≤ (c : Int) := by omega
      have hi0 : (0 : Int) ≤ (ii : Int) := by omega
      have hile : (ii : Int) ≤ (jj : Int) := by omega
      have hicl : (ii : Int) ≤ (c : Int) := by omega
      have hcl : ∀ ty, (Builtin.clear_ #[23] ty #[.slice (some ⟨g0, ii * 3, none⟩) (jj - ii) (c - ii)]).run Try.prog wr = .ok (.tuple #[]) (wr.setCells g0 (ii * 3) (List.replicate ((jj - ii) * 3) (.int .i64 0))) := fun ty => by
        refine run_clear_ts wr _ 29 ty Try.underlying23 HZ.out g0 (ii * 3) (jj - ii) (c - ii) (by omega) (fun q hq => ?_) (fun q hq => World.ownsRow.frozenAt hO.out (ii * 3 + q))
        have h1 := World.ownsRow.cellAt hO.out (ii * 3 + q) (by omega)
        rw [h1, List.getElem?_eq_getElem (by rw [hO.out.1]; omega)]
        rfl
      go_wp2_with (fail)
      go_ret
      refine ⟨ii, c, rfl, ?_, World.grownBy.trans hR.out (row_setCells g0 _ _ _)⟩
      have h1 := hO.out.cutTo (k := ii) (by omega)
      rw [List.take_left' hlen.out, FX.out] at h1
      exact OT.cleared _ _ h1 (Nat.le_refl _)
end Go.Proofs.Ythemfejahohbeaa
