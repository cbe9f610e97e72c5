/-
  Contracts of arenas: a block freed, by the model.
-/
import Derived.Test.YtleoncjdhlomaaaArF0
import Derived.Test.YtleoncjdhlomaaaArC
import Derived.Test.YtleoncjdhlomaaaArN
namespace Go.Proofs.Ytleoncjdhlomaaa
open Go.RowKit
attribute [local go_sem ↓] Go.wp_at_zero Go.wp_at_succ
/-- Whether a valid arena has a block with a name. -/
noncomputable def frOK (s : Int) (xs : List Tr) (nm : Int) : Bool := validA s xs && decide (whereA nm xs < xs.length)
noncomputable def frS (s : Int) (xs : List Tr) (nm : Int) : Int := if frOK s xs nm then s else 0
noncomputable def frX (s : Int) (xs : List Tr) (nm : Int) : List Tr := if frOK s xs nm then xs.take (whereA nm xs) ++ xs.drop (whereA nm xs + 1) else []
theorem frOK_f1 {s nm : Int} {xs : List Tr} (h : validA s xs = false) : frOK s xs nm = false := by simp [frOK, h]
theorem frOK_f2 {s nm : Int} {xs : List Tr} (h : ¬ whereA nm xs < xs.length) : frOK s xs nm = false := by simp [frOK, h]
theorem frOK_t {s nm : Int} {xs : List Tr} (h : validA s xs = true) (h2 : whereA nm xs < xs.length) : frOK s xs nm = true := by simp [frOK, h, h2]
theorem gaveFr_f {T : Nat} {w w' : World} {s nm : Int} {xs : List Tr} (h : frOK s xs nm = false) (hb : Below w.heap.size w w') :
    GaveArB T w (frS s xs nm) (frX s xs nm) (frOK s xs nm) (.returned (.tuple #[.agg #[.int .i64 0, .slice none 0 0], .bool false])) w' := by
  refine ⟨none, 0, 0, by simp [frS, h], ?_, hb⟩
  rw [show frX s xs nm = [] by simp [frX, h]]
  exact OT.nil _ _ _
theorem frX_le (s : Int) (xs : List Tr) (nm : Int) : (frX s xs nm).length ≤ 10 := by
  unfold frX
  split
  · next h =>
    have hv : validA s xs = true := by simp [frOK] at h; exact h.1
    obtain ⟨h10, _⟩ := validA_used hv
    rw [List.length_append, List.length_take, List.length_drop]
    have : whereA nm xs < xs.length := by simp [frOK] at h; exact h.2
    omega
  · simp
set_option maxHeartbeats 4000000 in
theorem spec_FreeBlock_any {A : Option Addr} {n c : Nat} {xs : List Tr} (s nm : Int) (w : World) (h : TS w A n c xs) :
    Calls Try.prog 25 #[.agg #[.int .i64 s, .slice A n c], .int .i64 nm] w (GaveArB 39 w (frS s xs nm) (frX s xs nm) (frOK s xs nm)) := by
  have hl := h.len
  have hcap := h.cap
  have H := Lib.hid h
  clear h
  rcases hv : validA s xs with _ | _
  · clear hl
    go_enter Try.func25, Try.ntmps25
    go_wp2_with (fail)
    refine (call_b (spec_validArena_any s _ ((H.out.alloc _).alloc _)) hv).mono ?_
    rintro e w1 ⟨rfl, hb⟩
    have B1 := Lib.hid (Below.trans (((Below.refl w.heap.size w).alloc (Nat.le_refl _) _).alloc (by simp) _) (hb.mono (by simp; try omega)))
    have Q1 : Hid (Blk w1 (w.heap.size + 1) 25 #[.int .i64 0, .slice none 0 0]) := Lib.hid ((by simpa using Blk.new (w.alloc (.cells #[.int .i64 s, .slice A n c] 25)) 25 #[.int .i64 0, .slice none 0 0] : Blk _ (w.heap.size + 1) _ _).on hb)
    clear hb
    obtain ⟨q0, q1⟩ := Q1.out.c2
    have f0 := Q1.out.frozen 0
    have f1 := Q1.out.frozen 1
    go_wp2_with (fail)
    refine bodyPost_ret (v := .tuple #[.agg #[.int .i64 0, .slice none 0 0], .bool false]) (by simp [results, Try.results25, go_sem, q0, q1]) rfl ?_
    refine gaveFr_f (frOK_f1 hv) ?_
    repeat' (first | with_reducible exact B1.out | refine Below.setCell ?_ ?_ _ | (show w.heap.size ≤ _; first | omega | (simp; done) | (simp; omega)))
  obtain ⟨h10, _⟩ := validA_used hv
  have hn : n ≤ 10 := by omega
  have HV := Lib.hid hv
  have HL := Lib.hid hl
  clear hl h10 hv
  by_cases hw : whereA nm xs < xs.length
  case neg =>
    have hw2 := named_neg.2 hw
    have e1 : namedA nm xs = -1 := by simp [namedA, hw]
    go_enter Try.func25, Try.ntmps25
    go_wp2_with (fail)
    refine (call_b (spec_validArena_any s _ ((H.out.alloc _).alloc _)) HV.out).mono ?_
    rintro e w1 ⟨rfl, hb⟩
    have B1 := Lib.hid (Below.trans (((Below.refl w.heap.size w).alloc (Nat.le_refl _) _).alloc (by simp) _) (hb.mono (by simp; try omega)))
    have P1 : Hid (Blk w1 w.heap.size 25 #[.int .i64 s, .slice A n c]) := Lib.hid (((Blk.new w _ _).alloc _).on hb)
    have Q1 : Hid (Blk w1 (w.heap.size + 1) 25 #[.int .i64 0, .slice none 0 0]) := Lib.hid ((by simpa using Blk.new (w.alloc (.cells #[.int .i64 s, .slice A n c] 25)) 25 #[.int .i64 0, .slice none 0 0] : Blk _ (w.heap.size + 1) _ _).on hb)
    have T1 := Lib.hid (((H.out.alloc _).alloc _).below hb (Nat.le_refl _))
    clear hb
    obtain ⟨p0, p1⟩ := P1.out.c2
    go_wp2_with (fail)
    refine (call_int (spec_named_any s nm _ T1.out (by omega)) e1).mono ?_
    rintro e w2 ⟨rfl, hb⟩
    have B2 := Lib.hid (B1.out.trans (hb.mono B1.out.size))
    have Q2 := Lib.hid (Q1.out.on hb)
    clear hb p0 p1
    obtain ⟨q0, q1⟩ := Q2.out.c2
    have f0 := Q2.out.frozen 0
    have f1 := Q2.out.frozen 1
    go_wp2_with (fail)
    refine bodyPost_ret (v := .tuple #[.agg #[.int .i64 0, .slice none 0 0], .bool false]) (by simp [results, Try.results25, go_sem, q0, q1]) rfl ?_
    refine gaveFr_f (frOK_f2 hw) ?_
    repeat' (first | with_reducible exact B2.out | refine Below.setCell ?_ ?_ _ | (show w.heap.size ≤ _; first | omega | (simp; done) | (simp; omega)))
  obtain ⟨K, hK⟩ : ∃ K : Nat, K = whereA nm xs := ⟨_, rfl⟩
  have e1 : namedA nm xs = (K : Int) := by rw [named_eq hw, hK]
  have hKn : K < n := by have := HL.out; omega
  have HK := Lib.hid hK
  have E1 := Lib.hid e1
  have HW := Lib.hid hw
  clear hK e1 hw
  have hKi : (K : Int) < (n : Int) := by omega
  have hk0 : ¬ (K : Int) < 0 := by omega
  go_enter Try.func25, Try.ntmps25
  go_wp2_with (fail)
  refine (call_b (spec_validArena_any s _ ((H.out.alloc _).alloc _)) HV.out).mono ?_
  rintro e w1 ⟨rfl, hb⟩
  have B1 := Lib.hid (Below.trans (((Below.refl w.heap.size w).alloc (Nat.le_refl _) _).alloc (by simp) _) (hb.mono (by simp; try omega)))
  have P1 : Hid (Blk w1 w.heap.size 25 #[.int .i64 s, .slice A n c]) := Lib.hid (((Blk.new w _ _).alloc _).on hb)
  have Q1 : Hid (Blk w1 (w.heap.size + 1) 25 #[.int .i64 0, .slice none 0 0]) := Lib.hid ((by simpa using Blk.new (w.alloc (.cells #[.int .i64 s, .slice A n c] 25)) 25 #[.int .i64 0, .slice none 0 0] : Blk _ (w.heap.size + 1) _ _).on hb)
  have T1 := Lib.hid (((H.out.alloc _).alloc _).below hb (Nat.le_refl _))
  have hz1 := hb.size
  simp at hz1
  clear hb
  obtain ⟨p0, p1⟩ := P1.out.c2
  go_wp2_with (fail)
  refine (call_int (spec_named_any s nm _ T1.out (by omega )) E1.out).mono ?_
  rintro e w2 ⟨rfl, hb⟩
  have B2 := Lib.hid (B1.out.trans (hb.mono B1.out.size))
  have P2 := Lib.hid (P1.out.on hb)
  have Q2 := Lib.hid (Q1.out.on hb)
  have T2 := Lib.hid (T1.out.below hb (Nat.le_refl _))
  have hz2 := hb.size
  clear hb p0 p1
  obtain ⟨p0, p1⟩ := P2.out.c2
  go_wp2_with (fail)
  refine (call_int (spec_named_any s nm _ T2.out (by omega )) E1.out).mono ?_
  rintro e w3 ⟨rfl, hb⟩
  have B3 := Lib.hid (B2.out.trans (hb.mono B2.out.size))
  have P3 := Lib.hid (P2.out.on hb)
  have Q3 := Lib.hid (Q2.out.on hb)
  have T3 := Lib.hid (T2.out.below hb (Nat.le_refl _))
  have hz3 := hb.size
  clear hb p0 p1
  obtain ⟨p0, p1⟩ := P3.out.c2
  obtain ⟨b, off, x, rfl, _, hxa, _⟩ := T3.out.at_ hKn
  have hbl : b < w3.heap.size := World.block_lt_of_cell? w3 ⟨b, off + K * 3, none⟩ hxa
  clear hxa
  have hpl : w.heap.size < w3.heap.size := by omega
  have hql : w.heap.size + 1 < w3.heap.size := by omega
  have OL : Hid (OT (w3.alloc (.cells #[] 39)) 39 w3.heap.size (some ⟨w3.heap.size, 0, none⟩) 0 0 []) := Lib.hid (by simpa [cellsT] using OT.lit w3 39 w3.heap.size [] (Nat.le_refl _) (by simp))
  have hnc := T3.out.2.1
  have hkc : (K : Int) ≤ (c : Int) := by omega
  have HT4 : Hid (TS (w3.alloc (.cells #[] 39)) (some ⟨b, off, none⟩) K c (xs.take K)) := Lib.hid (by simpa using (T3.out.cut (lo := 0) (hi := K) (by omega) (by omega)).alloc (.cells #[] 39))
  go_wp2_with (at_builtin; go_must (refine wpList_append_ts _ rfl (.tmp 21) (.tmp 25) _ rfl w3.heap.size 39 infoBlk Try.underlying23 _ _ _ _ rfl OL.out _ _ _ _ rfl HT4.out (by omega) (by simp) ?_); intro A6 d6 w6 hown6 hg6; have O6 := Lib.hid hown6; have G6 := Lib.hid hg6; have P6 := Lib.hid ((P3.out.alloc _).away hg6 (box_far hpl OL.out.ge)); have Q6 := Lib.hid ((Q3.out.alloc _).away hg6 (box_far hql OL.out.ge)); have T6 := Lib.hid ((T3.out.alloc _).away hg6 (Disj.mk (B := w3.heap.size) (fun p hp => by cases hp; exact hbl) OL.out.ge)); have B6 := Lib.hid (((Below.refl w3.heap.size w3).alloc (Nat.le_refl _) _).grown hg6 (by simp) (by intro k hk; simp at hk; omega)); clear hown6 hg6)
  clear p0 p1
  obtain ⟨p0, p1⟩ := P6.out.c2
  obtain ⟨q0, q1⟩ := Q6.out.c2
  have f0 := Q6.out.frozen 0
  have f1 := Q6.out.frozen 1
  have hb6 : b < w6.heap.size := Nat.lt_of_lt_of_le hbl B6.out.size
  have O7 : Hid (OT w6.drew 39 w3.heap.size A6 K d6 (xs.take K)) := Lib.hid (by simpa using O6.out.drew)
  obtain ⟨AX, hAX⟩ : ∃ v, (if c = K + 1 then some (⟨b, off, none⟩ : Addr) else some ⟨b, off + (K + 1) * 3, none⟩) = v := ⟨_, rfl⟩
  have T7 : Hid (TS w6.drew AX (n - (K + 1)) (c - (K + 1)) (xs.drop (K + 1))) := Lib.hid (hAX ▸ T6.out.drew.rest hKn)
  have hwr : IntKind.i64.wrap ((K : Int) + 1) = (K : Int) + 1 := by rw [IntWalk.i64_in _ (by omega)]
  have htn : ((K : Int) + 1).toNat = K + 1 := by omega
  have hz6 : w.heap.size ≤ w6.drew.heap.size := by have := B6.out.size; show w.heap.size ≤ w6.heap.size; omega
  have B7 := Lib.hid (B3.out.trans (B6.out.mono (Nat.le_of_lt hpl))).drew
  have P7 := Lib.hid P6.out.drew
  have Q7 := Lib.hid Q6.out.drew
  have hx1 : (0 : Int) ≤ (K : Int) + 1 := by omega
  have hx2 : (K : Int) + 1 ≤ (n : Int) := by omega
  have hx3 : (n : Int) ≤ (c : Int) := by omega
  go_region_law (refine step_append_ts rfl (.tmp 29) (.tmp 34) 23 rfl w3.heap.size 39 infoBlk Try.underlying23 A6 K d6 (xs.take K) (by simp [Act.eval, Act.put]) O7.out AX (n - (K + 1)) (c - (K + 1)) (xs.drop (K + 1)) (by simp [Act.eval, Act.put]) T7.out (by omega) (by have := B6.out.size; simpa using this) ?_; intro A8 d8 w8 ho hg; have O8 := Lib.hid ho; have G8 := Lib.hid hg; have Q8 := Lib.hid (Q7.out.away hg (box_far hql O7.out.ge)); have P8 := Lib.hid (P7.out.away hg (box_far hpl O7.out.ge)); have B8 := Lib.hid (below_row B7.out hg hz6 (O7.out.ge.mono (Nat.le_of_lt hpl))); clear ho hg; obtain ⟨r0, r1⟩ := Q8.out.c2; obtain ⟨s0, s1⟩ := P8.out.c2; have g0 := Q8.out.frozen 0; have g1 := Q8.out.frozen 1)
  all_goals (
    rename_i KK hKK
    show KK _ _
    refine hKK _ _ ?_
    go_wp2_with (fail)
    have QF := (Q8.out.set_ 0 (.int .i64 s)).set_ 1 (.slice A8 (K + (n - (K + 1))) d8)
    obtain ⟨z0, z1⟩ := (by simpa using QF : Blk _ _ 25 #[.int .i64 s, .slice A8 (K + (n - (K + 1))) d8]).c2
    refine bodyPost_ret (v := .tuple #[.agg #[.int .i64 s, .slice A8 (K + (n - (K + 1))) d8], .bool true]) (by simp [results, Try.results25, go_sem, z0, z1]) rfl ?_
    have hok := frOK_t (nm := nm) HV.out HW.out
    refine ⟨A8, K + (n - (K + 1)), d8, by simp only [frS, hok, if_true], ?_, (B8.out.setCell (by show w.heap.size ≤ w.heap.size + 1; omega) _).setCell (by show w.heap.size ≤ w.heap.size + 1; omega) _⟩
    simp only [frX, hok, if_true, ← HK.out]
    exact ((O8.out.setCell2 (.inl hql) _).setCell2 (.inl hql) _).base_le (Nat.le_of_lt hpl))
end Go.Proofs.Ytleoncjdhlomaaa
