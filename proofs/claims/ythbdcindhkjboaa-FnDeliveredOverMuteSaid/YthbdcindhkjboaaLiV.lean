/-
  UnackedOver of both sides: the queue, sorted in place.
-/
import Derived.Test.YthbdcindhkjboaaLiT
import Derived.Test.YthbdcindhkjboaaLawO
import Derived.Test.YthbdcindhkjboaaLay
import Derived.Sort.OwnSortedInts
namespace Go.Proofs.Ythbdcindhkjboaa
open Go.RowKit

theorem QS.holds {w : World} {T base g off n c : Nat} {xs : List Int} (h : QS w T base (some ⟨g, off, none⟩) n c xs) : Go.Sort.Holds (Value.int .i64) w g off xs.toArray ∧ g < w.heap.size := by
  obtain ⟨hl, h1 | ⟨g', off', cs, e, hb, hk, hc, hn, hm, hx⟩⟩ := h
  · cases h1.1
  · simp only [Option.some.injEq, Addr.mk.injEq, and_true] at e
    obtain ⟨rfl, rfl⟩ := e
    refine ⟨fun j hj => ⟨?_, hk.frozen _⟩, hk.lt⟩
    have hj' : j < xs.length := by simpa using hj
    rw [hk.cell, hx j (by omega), List.getD_eq_getElem?_getD, List.getElem?_eq_getElem hj']
    simp [hj']
theorem QS.sorted {w : World} {T base g off n c k : Nat} {xs ys : List Int} {os : Array Obj} (h : QS w T base (some ⟨g, off, none⟩) n c xs) (hy : ys.length = xs.length) :
    QS (Go.Sort.grow (Go.Sort.putRow (Value.int .i64) (Go.Sort.ahead w k) g off ys.toArray) os) T base (some ⟨g, off, none⟩) n c ys ∧ Row w (Go.Sort.grow (Go.Sort.putRow (Value.int .i64) (Go.Sort.ahead w k) g off ys.toArray) os) (some ⟨g, off, none⟩) := by
  obtain ⟨hl, h1 | ⟨g', off', cs, e, hb, hk, hc, hn, hm, hx⟩⟩ := h
  · cases h1.1
  · simp only [Option.some.injEq, Addr.mk.injEq, and_true] at e
    obtain ⟨rfl, rfl⟩ := e
    have hg := hk.lt
    have hk' : w.heap[g]? = some (.cells cs T (0, 0)) := hk
    have e1 : (Go.Sort.grow (Go.Sort.putRow (Value.int .i64) (Go.Sort.ahead w k) g off ys.toArray) os).heap[g]? = some (.cells (Go.Sort.putCells (Value.int .i64) off ys.toArray cs) T (0, 0)) := by
      rw [Go.Sort.heap_grow_old _ _ (by simpa using hg)]
      simp [Go.Sort.putRow, Go.Sort.mapBlock, Go.Sort.ahead, Array.getElem?_modify, hk', Go.Sort.onCells]
    refine ⟨⟨by omega, .inr ⟨g, off, _, rfl, hb, e1, by simp [Go.Sort.putCells]; omega, hn, hm, fun j hj => ?_⟩⟩, ?_⟩
    · have hjs : off + j < cs.size := by omega
      have hjy : j < ys.length := by omega
      rw [List.getD_eq_getElem?_getD, List.getElem?_eq_getElem hjy]
      simp [Go.Sort.putCells, hjs, hjy]
    · refine ⟨rfl, rfl, rfl, by simp, fun i hi hne => ?_⟩
      rw [Go.Sort.heap_grow_old _ _ (by simpa using hi)]
      have : g ≠ i := fun e => hne (by rw [e]; rfl)
      simp [Go.Sort.putRow, Go.Sort.mapBlock, Go.Sort.ahead, Array.getElem?_modify, this]
/-- A call has handed back integers that may begin behind their block's beginning. -/
def GaveQ (T : Nat) (w : World) (xs : List Int) (e : Ending) (w' : World) : Prop :=
  ∃ A n c, e = .returned (.slice A n c) ∧ QS w' T w.heap.size A n c xs ∧ Below w.heap.size w w'
theorem q_at {P : Program} {f : FuncId} {args : Array Value} {T : Nat} {w : World} {l l' : List Int} (h : Calls P f args w (GaveQ T w l)) (e : l = l') : Calls P f args w (GaveQ T w l') := e ▸ h
theorem sortQ_any {T base : Nat} {A : Option Addr} {n c : Nat} {xs : List Int} (w : World) (h : QS w T base A n c xs) (hn : n ≤ 1000) :
    Calls Try.prog 30 #[.slice A n c] w fun e w' => e = .returned (.tuple #[]) ∧ QS w' T base A n c (xs.mergeSort fun x y => decide (x ≤ y)) ∧ Row w w' A := by
  have hl := h.len
  rcases A with _ | ⟨g, off, sp⟩
  · obtain ⟨_, h1 | ⟨_, _, _, e, _⟩⟩ := h
    · obtain ⟨_, rfl, rfl⟩ := h1
      obtain rfl : xs = [] := List.eq_nil_of_length_eq_zero hl
      refine (sort_none none 0 w).mono ?_
      rintro e w' ⟨rfl, rfl⟩
      exact ⟨rfl, by simpa using QS.nil _ _ _, Row.refl _ _⟩
    · cases e
  · obtain rfl : sp = none := by
      obtain ⟨_, h1 | ⟨_, _, _, e, _⟩⟩ := h
      · cases h1.1
      · simp only [Option.some.injEq, Addr.mk.injEq] at e; exact e.2.2
    obtain ⟨hH, hg⟩ := h.holds
    subst hl
    refine (sort_ints g off c xs w hH hg (by omega)).mono ?_
    rintro e w' ⟨rfl, k, os, rfl⟩
    have := h.sorted (k := k) (os := os) (ys := xs.mergeSort fun x y => decide (x ≤ y)) (by simp)
    exact ⟨rfl, this⟩
set_option maxHeartbeats 1000000 in
theorem impl_UnackedOver_any {A : Option Addr} {n c : Nat} {xs : List Int} (m : Int) (w : World) (h : IS w A n c xs) :
    Calls Try.prog 11 #[.slice A n c, .int .i64 m] w (GaveQ 3 w (uakV xs m)) := by
  have HL := Lib.hid h.len
  have H := Lib.hid h
  clear h
  rcases hk : okK xs m with _ | _
  · have HK := Lib.hid hk
    go_enter Try.func11, Try.ntmps11
    go_wp2_with (go_at_call 28; refine (call_b (impl_validLink_any m _ H.out) hk).mono ?_; rintro e w' ⟨rfl, rfl⟩)
    go_ret
    exact ⟨none, 0, 0, rfl, by rw [uak_f HK.out]; exact QS.nil _ _ _, Below.refl _ _⟩
  · have HK := Lib.hid hk
    obtain ⟨h20, har, hm0, hm8⟩ := okK_facts hk
    obtain ⟨M, rfl⟩ := Int.eq_ofNat_of_zero_le hm0
    have hM : M ≤ 8 := by omega
    have hn : n ≤ 20 := by have := HL.out; omega
    have HF := fun (Q A : Option Addr) (nq cq na ca : Nat) (s : Int) (W : World) => (show Sem.run Try.prog (Instr.field 39 (.agg #[.slice Q nq cq, .slice A na ca, .int .i64 s]) 0) W = .ok (.slice Q nq cq) W by simp [Instr.field, go_sem, part, asAgg])
    have HAR := Lib.hid har
    have HS := Lib.hid (uak_sort hk)
    have HLN := Lib.hid (show (linkR xs (M : Int)).1.length ≤ 8 by rw [← uak_len hk]; exact uakV_le _ _)
    clear h20 hm0 hm8 har
    go_enter Try.func11, Try.ntmps11
    go_wp2_with (first | (go_at_call 28; refine (call_b (impl_validLink_any (M : Int) _ H.out) hk).mono ?_; rintro e w' ⟨rfl, rfl⟩) | (go_at_call 29; go_must (refine (impl_runLink_any M _ H.out hn HAR.out hM).mono ?_; rintro e w1 ⟨Q, nq, cq, A1, na, ca, rfl, hq, ho, hd, hb⟩; have Q1 := Lib.hid (show QS w1 3 w.heap.size Q nq cq (linkR xs (M : Int)).1 by simpa [linkR] using hq); have B1 := Lib.hid hb; have hnq : nq ≤ 1000 := (by have h1 := Q1.out.len; have h2 := HLN.out; omega); clear hq ho hd hb)) | (go_at_call 30; go_must (refine (sortQ_any _ Q1.out hnq).mono ?_; rintro e w2 ⟨rfl, hq, hr⟩; have Q2 := Lib.hid hq; have B2 := Lib.hid (below_row B1.out hr B1.out.size Q1.out.ge); clear hq hr)))
    go_ret
    refine ⟨Q, nq, cq, rfl, ?_, B2.out⟩
    rw [← HS.out]
    exact Q2.out
set_option maxHeartbeats 1000000 in
theorem spec_UnackedOver_any {A : Option Addr} {n c : Nat} {xs : List Int} (m : Int) (w : World) (h : IS w A n c xs) :
    Calls Try.prog 9 #[.slice A n c, .int .i64 m] w (GaveInts 3 w (uakV xs m)) := by
  have HL := Lib.hid h.len
  have H := Lib.hid h
  clear h
  rcases hk : okK xs m with _ | _
  · have HK := Lib.hid hk
    go_enter Try.func9, Try.ntmps9
    go_wp2_with (go_at_call 25; refine (call_b (spec_validFates_any m _ H.out) hk).mono ?_; rintro e w' ⟨rfl, rfl⟩)
    go_ret
    exact ⟨none, 0, 0, rfl, by rw [uak_f HK.out]; exact ⟨rfl, .inl ⟨rfl, rfl⟩⟩, Below.refl _ _⟩
  · have HK := Lib.hid hk
    obtain ⟨h20, har, hm0, hm8⟩ := okK_facts hk
    obtain ⟨M, rfl⟩ := Int.eq_ofNat_of_zero_le hm0
    have hM : M ≤ 8 := by omega
    have hn : n ≤ 20 := by have := HL.out; omega
    have HF := fun (A B : Option Addr) (n c m d : Nat) (s b x : Int) (W : World) => (show Sem.run Try.prog (Instr.field 36 (.agg #[.slice A n c, .int .i64 s, .int .i64 b, .int .i64 x, .slice B m d]) 2) W = .ok (.agg #[.int .i64 b, .int .i64 x, .slice B m d]) W by simp [Instr.field, go_sem, part, asAgg])
    have HAR := Lib.hid har
    clear h20 hm0 hm8 har
    go_enter Try.func9, Try.ntmps9
    go_wp2_with (first | (go_at_call 25; refine (call_b (spec_validFates_any (M : Int) _ H.out) hk).mono ?_; rintro e w' ⟨rfl, rfl⟩) | (go_at_call 27; go_must (refine (spec_play_any M _ H.out hn HAR.out hM).mono ?_; rintro e w1 ⟨A1, na, ca, b, B, p, d, k, rfl, ho, hv, hi, hop, hb⟩; have I1 := Lib.hid hi; have HV1 := Lib.hid hv; have HOP := Lib.hid hop; have B1 := Lib.hid hb; clear ho hv hi hop hb)) | (go_at_call 26; go_must (refine (spec_OpenBatches_any b (M : Int) _ I1.out).mono ?_; rintro e w2 ⟨A2, n2, c2, rfl, ho, hb⟩; have hz := B1.out.size; have O2 := Lib.hid (ho.base_le hz); have B2 := Lib.hid (B1.out.trans (hb.mono B1.out.size)); clear ho hb)))
    go_ret
    refine ⟨A2, n2, c2, rfl, ?_, B2.out⟩
    have e : uakV xs (M : Int) = openL b (M : Int) k := by rw [HOP.out]; simp [uakV, HK.out, linkR]
    rw [e]
    exact O2.out
end Go.Proofs.Ythbdcindhkjboaa
