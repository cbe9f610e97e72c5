/-
  Drawn arguments of the laws on budgets.
-/
import Derived.Test.YtcbphifadokfeaaGenE
namespace Go.Proofs.Ytcbphifadokfeaa
open Go.RowKit
attribute [local go_sem ↓] Go.wp_at_zero Go.wp_at_succ

/-- A drawn budget, and nothing old written. -/
def DrewB (w : World) (e : Ending) (w' : World) : Prop :=
  ∃ t ks us A n c A' n' c', e = .returned (.agg #[.int .i64 t, .slice A n c, .slice A' n' c']) ∧ n ≤ 6 ∧ n' ≤ 6 ∧ IS w' A n c ks ∧ IS w' A' n' c' us ∧ Below w.heap.size w w'
def DrewBC (w : World) (e : Ending) (w' : World) : Prop :=
  ∃ t ks us A n c A' n' c' cl, e = .returned (.tuple #[.agg #[.int .i64 t, .slice A n c, .slice A' n' c'], .int .i64 cl]) ∧ n ≤ 6 ∧ n' ≤ 6 ∧ -1 ≤ cl ∧ cl ≤ 3 ∧ IS w' A n c ks ∧ IS w' A' n' c' us ∧ Below w.heap.size w w'
def DrewBCS (w : World) (e : Ending) (w' : World) : Prop :=
  ∃ t ks us A n c A' n' c' cl s, e = .returned (.tuple #[.agg #[.int .i64 t, .slice A n c, .slice A' n' c'], .int .i64 cl, .int .i64 s]) ∧ n ≤ 6 ∧ n' ≤ 6 ∧ -1 ≤ cl ∧ cl ≤ 3 ∧ -1 ≤ s ∧ s ≤ 201 ∧ IS w' A n c ks ∧ IS w' A' n' c' us ∧ Below w.heap.size w w'
theorem roomV_bd (t cl : Int) (ks us : List Int) : -1 ≤ roomV t ks us cl ∧ roomV t ks us cl ≤ 200 := by
  rcases hv : validB t ks us with _ | _
  · rw [roomV_f1 hv]; omega
  rcases hc : inR cl 0 2 with _ | _
  · rw [roomV_f2 hc]; omega
  · rw [roomV_t hv hc]; have := roomL_bd hv hc; omega
set_option maxHeartbeats 2000000 in
theorem spec_DrawLoadOf_any {A : Option Addr} {n c : Nat} {zs : List Int} (w : World) (h : BS w A n c zs) (hn : n ≤ 1048576) :
    Calls Try.prog 17 #[.slice A n c] w (DrewB w) := by
  have H := Lib.hid h
  clear h
  go_enter Try.func17, Try.ntmps17
  go_wp2_with (fail)
  refine (newReader_any _ (H.out.alloc _) hn).mono ?_
  rintro e w1 ⟨rfl, hr1, hb1⟩
  have R1 : Hid (RD w1 62 (w.heap.size + 1) 0) := Lib.hid (by simpa using hr1)
  have B1 := Lib.hid (below_then (below_new w _) hb1)
  have Q1 := Lib.hid ((Blk.new w 33 #[.int .i64 0, .slice none 0 0, .slice none 0 0]).on hb1)
  have hz1 := R1.out.lt
  clear hr1 hb1
  go_wp2_with (fail)
  refine (anyBudget_any (w.heap.size + 1) 0 w1 R1.out (by omega)).mono ?_
  rintro e w2 ⟨t, ks, us, A2, n2, c2, A2', n2', c2', rfl, hn2, hn2', i1, i2, ge1, ge2, hr2, hw2⟩
  have I1 := Lib.hid i1
  have I2 := Lib.hid i2
  have D1 : Hid (Disj (some ⟨w.heap.size, 0, none⟩) A2) := Lib.hid (box_far (show w.heap.size < w1.heap.size by omega) ge1)
  have D2 : Hid (Disj (some ⟨w.heap.size, 0, none⟩) A2') := Lib.hid (box_far (show w.heap.size < w1.heap.size by omega) ge2)
  have B2 := Lib.hid (B1.out.trans ((hw2.below (by omega)).mono (by omega)))
  have Q2 := Lib.hid (Q1.out.rd hw2 (by omega))
  clear i1 i2 ge1 ge2 hr2 hw2
  obtain ⟨qa, qb, qc⟩ := Q2.out.c3
  have f0 := Q2.out.frozen 0
  have f1 := Q2.out.frozen 1
  have f2 := Q2.out.frozen 2
  go_wp2_with (fail)
  refine bodyPost_ret (v := .agg #[.int .i64 t, .slice A2 n2 c2, .slice A2' n2' c2']) (by simp [results, Try.results17, go_sem, qa, qb, qc]) rfl ?_
  refine ⟨t, ks, us, A2, n2, c2, A2', n2', c2', rfl, hn2, hn2', ?_, ?_, ?_⟩
  · repeat' (first | with_reducible exact I1.out | refine IS.setCell ?_ ?_ _ | exact D1.out)
  · repeat' (first | with_reducible exact I2.out | refine IS.setCell ?_ ?_ _ | exact D2.out)
  · repeat' (first | with_reducible exact B2.out | refine Below.setCell ?_ ?_ _ | exact Nat.le_refl _)
end Go.Proofs.Ytcbphifadokfeaa
