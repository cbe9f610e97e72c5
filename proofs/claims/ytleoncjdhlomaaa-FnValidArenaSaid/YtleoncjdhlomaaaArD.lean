/-
  Contracts of arenas: compaction by the model.
-/
import Derived.Test.YtleoncjdhlomaaaArC
import Derived.Test.YtleoncjdhlomaaaAr
namespace Go.Proofs.Ytleoncjdhlomaaa
open Go.RowKit
attribute [local go_sem ↓] Go.wp_at_zero Go.wp_at_succ
theorem cmp_step {xs : List Tr} {k : Nat} {x : Tr} (h : xs[k]? = some x) : ((cmpL xs).take k ++ xs.drop k).set k ⟨x.a, ((xs.take k).map Tr.c).sum, x.c⟩ = (cmpL xs).take (k + 1) ++ xs.drop (k + 1) := by
  have hk := (List.getElem?_eq_some_iff.1 h).1
  have hl : ((cmpL xs).take k).length = k := by rw [List.length_take, cmpL_len]; omega
  rw [List.set_append, if_neg (by omega), hl, Nat.sub_self, cmpL_next h, List.append_assoc, List.drop_eq_getElem_cons hk, List.set_cons_zero]
  rfl
theorem cmp_at {xs : List Tr} {k : Nat} (hk : k ≤ xs.length) : ((cmpL xs).take k ++ xs.drop k)[k]? = xs[k]? := by
  have hl : ((cmpL xs).take k).length = k := by rw [List.length_take, cmpL_len]; omega
  rw [List.getElem?_append_right (by omega), hl, Nat.sub_self, List.getElem?_drop]
  rfl
set_option maxHeartbeats 4000000 in
theorem spec_CompactArena_any {A : Option Addr} {n c : Nat} {xs : List Tr} (s : Int) (w : World) (h : TS w A n c xs) :
    Calls Try.prog 28 #[.agg #[.int .i64 s, .slice A n c]] w (GaveArB 39 w (cmS s xs) (cmX s xs) (validA s xs)) := by
  have hl := h.len
  have hcap := h.cap
  have H := Lib.hid h
  clear h
  rcases hv : validA s xs with _ | _
  · clear hl
    go_enter Try.func28, Try.ntmps28
    go_wp2_with (fail)
    refine (call_b (spec_validArena_any s _ ((H.out.alloc _).alloc _)) hv).mono ?_
    rintro e w1 ⟨rfl, hb⟩
    have B1 := Lib.hid (Below.trans (((Below.refl w.heap.size w).alloc (Nat.le_refl _) _).alloc (by simp) _) (hb.mono (by simp; try omega)))
    have Q1 : Hid (Blk w1 (w.heap.size + 1) 25 #[.int .i64 0, .slice none 0 0]) := Lib.hid ((by simpa using Blk.new (w.alloc (.cells #[.int .i64 s, .slice A n c] 25)) 25 #[.int .i64 0, .slice none 0 0] : Blk _ (w.heap.size + 1) _ _).on hb)
    clear hb
    obtain ⟨q0, q1⟩ := Q1.out.c2
    have f0 := Q1.out.frozen 0
    have f1 := Q1.out.frozen 1
    go_wp2_with (fail)
    refine bodyPost_ret (v := .tuple #[.agg #[.int .i64 0, .slice none 0 0], .bool false]) (by simp [results, Try.results28, go_sem, q0, q1]) rfl ?_
    refine gaveAr_f (by simp [cmS, hv]) (by simp [cmX, hv]) rfl ?_
    repeat' (first | with_reducible exact B1.out | refine Below.setCell ?_ ?_ _ | (show w.heap.size ≤ _; first | omega | (simp; done) | (simp; omega)))
  obtain ⟨h10, hc⟩ := validA_used hv
  have hn : n ≤ 10 := by omega
  have HC := Lib.hid hc
  have HV := Lib.hid hv
  have HL := Lib.hid hl
  clear hl h10 hc hv
  go_enter Try.func28, Try.ntmps28
  go_wp2_with (fail)
  refine (call_b (spec_validArena_any s _ ((H.out.alloc _).alloc _)) HV.out).mono ?_
  rintro e w1 ⟨rfl, hb⟩
  have B1 := Lib.hid (Below.trans (((Below.refl w.heap.size w).alloc (Nat.le_refl _) _).alloc (by simp) _) (hb.mono (by simp; try omega)))
  have P1 : Hid (Blk w1 w.heap.size 25 #[.int .i64 s, .slice A n c]) := Lib.hid (((Blk.new w _ _).alloc _).on hb)
  have Q1 : Hid (Blk w1 (w.heap.size + 1) 25 #[.int .i64 0, .slice none 0 0]) := Lib.hid ((by simpa using Blk.new (w.alloc (.cells #[.int .i64 s, .slice A n c] 25)) 25 #[.int .i64 0, .slice none 0 0] : Blk _ (w.heap.size + 1) _ _).on hb)
  have T1 := Lib.hid (((H.out.alloc _).alloc _).below hb (Nat.le_refl _))
  have hz1 := hb.size
  simp at hz1
  clear hb
  obtain ⟨p0, p1⟩ := P1.out.c2
  go_wp2_with (fail)
  refine (spec_copyArena_any s _ T1.out (by omega)).mono ?_
  rintro e w2 ⟨A2, n2, c2, rfl, ho, hb2⟩
  obtain rfl : n = n2 := by have h1 := ho.len; have h2 := HL.out; omega
  have O2 := Lib.hid ho
  have B2 := Lib.hid (B1.out.trans (hb2.mono B1.out.size))
  have Q2 := Lib.hid (Q1.out.on hb2)
  have hz2 := hb2.size
  clear ho hb2 p0 p1
  go_wp2_with (fail)
  go_loopw [5, 6] (fun e i wr => ∃ (k : Nat) (E : Int), k ≤ n ∧ 0 ≤ E ∧ E ≤ 64 * (k : Int) ∧ i = .int .i64 k ∧ e = .int .i64 E ∧ Hid (((xs.take k).map Tr.c).sum = E) ∧ Hid (OT wr 39 w1.heap.size A2 n c2 ((cmpL xs).take k ++ xs.drop k) ∧ Blk wr w2.heap.size 25 #[.int .i64 s, .slice A2 n c2] ∧ Disj (some ⟨w2.heap.size, 0, none⟩) A2 ∧ Below w1.heap.size w2 wr)) (fun _ i _ => n - (intOf i).toNat)
  case atStart => exact ⟨0, 0, Nat.zero_le _, by omega, by omega, rfl, rfl, Lib.hid (by simp), Lib.hid ⟨by simpa using O2.out.alloc _, Blk.new _ _ _, Disj.mk (B := w2.heap.size) O2.out.lt (fun p hp => by cases hp; exact Nat.le_refl _) |>.symm, (Below.refl _ _).alloc hz2 _⟩⟩
  case round =>
    obtain ⟨k, E, hk, hE0, hE1, rfl, rfl, hE, HH⟩ := hrel
    have O4 := Lib.hid HH.out.1
    have P4 := Lib.hid HH.out.2.1
    have D4 := Lib.hid HH.out.2.2.1
    have B4 := Lib.hid HH.out.2.2.2
    clear HH
    obtain ⟨p0, p1⟩ := P4.out.c2
    by_cases hlt : k < n
    · obtain ⟨g, rfl, hg1, hg2⟩ := O4.out.pos (by omega)
      obtain ⟨_, _, x, e0, hx, ca, cb, cc⟩ := O4.out.ts.at_ hlt
      simp only [Option.some.injEq, Addr.mk.injEq, and_true] at e0
      obtain ⟨rfl, rfl⟩ := e0
      rw [Nat.zero_add] at ca cb cc
      rw [cmp_at (by have := HL.out; omega)] at hx
      obtain ⟨hv0, hv1⟩ := HC.out x (List.mem_of_getElem? hx)
      have HX := Lib.hid hx
      have hki : (k : Int) < (n : Int) := by omega
      have f1 : wr.frozen? ⟨g, k * 3 + 1, none⟩ = false := World.ownsRow.frozenAt O4.out (k * 3 + 1)
      have hne : ¬ w2.heap.size = g := fun e => D4.out _ _ rfl rfl e
      have hne2 : ¬ g = w2.heap.size := fun e => hne e.symm
      clear hx
      go_wp2_with (fail)
      go_roundw
      case rel =>
        refine ⟨k + 1, E + x.c, by omega, by omega, by omega, by go_num, by go_num, Lib.hid (by rw [sumC_next HX.out, hE.out]), Lib.hid ⟨?_, P4.out.far hne _, D4.out, B4.out.setCell hg1 _⟩⟩
        have h1 := O4.out.putb (j := k) (x := x) (by rw [cmp_at (by have := HL.out; omega)]; exact HX.out) E
        rw [← hE.out, cmp_step HX.out] at h1
        rw [← hE.out]
        exact h1
      case measure => simp [intOf]; omega
    · have ek : k = n := by omega
      subst ek
      have BW := Lib.hid (B2.out.trans (B4.out.mono (by omega : w.heap.size ≤ w1.heap.size)))
      have Q4 : Hid (Blk wr (w.heap.size + 1) 25 #[.int .i64 0, .slice none 0 0]) := Lib.hid ((B4.out.block (w.heap.size + 1) (by omega)).trans Q2.out)
      obtain ⟨q0, q1⟩ := Q4.out.c2
      have f0 := Q4.out.frozen 0
      have f1 := Q4.out.frozen 1
      go_wp2_with (fail)
      refine bodyPost_ret (v := .tuple #[.agg #[.int .i64 s, .slice A2 k c2], .bool true]) (by simp [results, Try.results28, go_sem, q0, q1]) rfl ?_
      refine ⟨A2, k, c2, by simp [cmS, HV.out], ?_, ?_⟩
      · simp only [cmX, HV.out, if_true]
        have h1 := O4.out
        rw [List.take_of_length_le (by rw [cmpL_len]; have := HL.out; omega), List.drop_of_length_le (by have := HL.out; omega), List.append_nil] at h1
        refine OT.base_le (base := w1.heap.size) ?_ (by omega)
        repeat (refine OT.setCell ?_ (by show w.heap.size + 1 < _; omega) _)
        exact h1
      · repeat' (first | with_reducible exact BW.out | refine Below.setCell ?_ ?_ _ | (show w.heap.size ≤ _; first | omega | (simp; done) | (simp; omega)))
end Go.Proofs.Ytleoncjdhlomaaa
