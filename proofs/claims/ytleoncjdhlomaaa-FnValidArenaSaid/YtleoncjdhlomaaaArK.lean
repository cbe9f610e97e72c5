/-
  Contracts of arenas: marks, copies, compaction.
-/
import Derived.Test.YtleoncjdhlomaaaArU
import Derived.Test.YtleoncjdhlomaaaArW
import Derived.Test.YtleoncjdhlomaaaTriA
import Derived.Deep.RegionHeld3
import Derived.Deep.DrawnRows
namespace Go.Proofs.Ytleoncjdhlomaaa
open Go.RowKit
attribute [local go_sem ↓] Go.wp_at_zero Go.wp_at_succ
set_option maxHeartbeats 2000000 in
theorem laws_markBlockS_any {base : Nat} {A : Option Addr} {n c : Nat} {xs : List Tr} (k : Int) (w : World) (h : OT w 39 base A n c xs) (hn : n ≤ 1073741824) (hk0 : 0 ≤ k) (hk1 : k ≤ 10995116277) :
    Calls Try.prog 54 #[.slice A n c, .int .i64 k] w fun e w' => e = .returned (.int .i64 (k + 3 * (n : Int))) ∧ OT w' 39 base A n c (marks3 k n) ∧ Row w w' A := by
  have hl := h.len
  have HL := Lib.hid hl
  clear hl
  have H := Lib.hid h
  clear h
  go_enter Try.func54, Try.ntmps54
  go_wp2_with (fail)
  go_loopw [1, 5] (fun t i wr => ∃ j : Nat, j ≤ n ∧ t = .int .i64 (k + 3 * (j : Int)) ∧ i = .int .i64 j ∧ Hid (OT wr 39 base A n c (marks3 k j ++ xs.drop j) ∧ Row w wr A)) (fun _ i _ => n - (intOf i).toNat)
  case atStart => exact ⟨0, Nat.zero_le _, by go_num, rfl, Lib.hid ⟨by simpa [marks3] using H.out, Row.refl _ _⟩⟩
  case round =>
    obtain ⟨j, hj, rfl, rfl, ho⟩ := hrel
    by_cases hlt : j < n
    · obtain ⟨g, rfl, hg1, hg2⟩ := ho.out.1.pos (by omega)
      obtain ⟨_, _, v, e0, _, ca, cb, cc⟩ := ho.out.1.ts.at_ hlt
      simp only [Option.some.injEq, Addr.mk.injEq, and_true] at e0
      obtain ⟨rfl, rfl⟩ := e0
      rw [Nat.zero_add] at ca cb cc
      have f0 : wr.frozen? ⟨g, j * 3, none⟩ = false := World.ownsRow.frozenAt ho.out.1 (j * 3)
      have f1 : wr.frozen? ⟨g, j * 3 + 1, none⟩ = false := World.ownsRow.frozenAt ho.out.1 (j * 3 + 1)
      have f2 : wr.frozen? ⟨g, j * 3 + 2, none⟩ = false := World.ownsRow.frozenAt ho.out.1 (j * 3 + 2)
      go_wp2_with (fail)
      go_roundw
      case rel =>
        refine ⟨j + 1, by omega, by go_num, by go_num, Lib.hid ⟨?_, ?_⟩⟩
        · rw [← marks3_next (by have := HL.out; omega)]
          have h3 := ho.out.1.stored hlt ⟨k + 3 * (j : Int), k + 3 * (j : Int) + 1, k + 3 * (j : Int) + 2⟩
          simpa [Int.add_assoc] using h3
        · have h3 := ho.out.1.storedRow j ⟨k + 3 * (j : Int), k + 3 * (j : Int) + 1, k + 3 * (j : Int) + 2⟩
          have h4 : Row w _ _ := World.grownBy.trans ho.out.2 h3
          simpa [Int.add_assoc] using h4
      case measure => simp [intOf]; omega
    · go_wp2_with (fail)
      go_ret
      have ek : j = n := by omega
      subst ek
      have h2 := ho.out.1
      rw [List.drop_of_length_le (by have := HL.out; omega), List.append_nil] at h2
      exact ⟨rfl, h2, ho.out.2⟩
set_option maxHeartbeats 2000000 in
theorem laws_heldBlockS_any {A : Option Addr} {n c : Nat} (k : Int) (w : World) (h : TS w A n c (marks3 k n)) (hn : n ≤ 1073741824) (hk0 : 0 ≤ k) (hk1 : k ≤ 10995116277) :
    Calls Try.prog 55 #[.slice A n c, .int .i64 k] w fun e w' => e = .returned (.int .i64 (k + 3 * (n : Int))) ∧ w = w' := by
  have H := Lib.hid h
  clear h
  go_enter Try.func55, Try.ntmps55
  go_wp2_with (fail)
  go_loop [1, 5] (fun t i => ∃ j : Nat, j ≤ n ∧ t = .int .i64 (k + 3 * (j : Int)) ∧ i = .int .i64 j) (fun _ i => n - (intOf i).toNat)
  case atStart => exact ⟨0, Nat.zero_le _, by go_num, rfl⟩
  case round =>
    obtain ⟨j, hj, rfl, rfl⟩ := hrel
    by_cases hlt : j < n
    · obtain ⟨b, off, v, rfl, hx, ca, cb, cc⟩ := H.out.at_ hlt
      rw [marks3_at hlt] at hx
      obtain rfl : (⟨k + 3 * (j : Int), k + 3 * (j : Int) + 1, k + 3 * (j : Int) + 2⟩ : Tr) = v := by injection hx
      clear hx
      simp only at ca cb cc
      have hne : (k + 3 * (j : Int) != k + 3 * (j : Int)) = false := by simp
      have hne1 : (k + 3 * (j : Int) + 1 != k + 3 * (j : Int) + 1) = false := by simp
      have hne2 : (k + 3 * (j : Int) + 2 != k + 3 * (j : Int) + 2) = false := by simp
      go_wp2_with (fail)
      go_round
      case rel => exact ⟨j + 1, by omega, by go_num, by go_num⟩
      case measure => simp [intOf]; omega
    · go_wp2_with (fail)
      go_ret
      have ek : j = n := by omega
      subst ek
      exact ⟨rfl, rfl⟩
theorem laws_markArena_any {base : Nat} {A : Option Addr} {n c : Nat} {xs : List Tr} (s k : Int) (w : World) (h : OT w 39 base A n c xs) (hn : n ≤ 1073741824) (hk0 : 0 ≤ k) (hk1 : k ≤ 10995116277) :
    Calls Try.prog 34 #[.agg #[.int .i64 s, .slice A n c], .int .i64 k] w fun e w' => e = .returned (.int .i64 (k + 3 * (n : Int))) ∧ OT w' 39 base A n c (marks3 k n) ∧ Row w w' A := by
  have H := Lib.hid h
  clear h
  go_enter Try.func34, Try.ntmps34
  go_wp2_with (fail)
  refine (laws_markBlockS_any _ _ (H.out.alloc _) hn hk0 hk1).mono ?_
  rintro e w1 ⟨rfl, ho, hr⟩
  have HO := Lib.hid ho
  have HR := Lib.hid hr
  clear ho hr
  go_wp2_with (fail)
  go_ret
  exact ⟨rfl, HO.out, (World.grownBy_alloc _ _ _).trans HR.out⟩
theorem laws_heldArena_any {A : Option Addr} {n c : Nat} (s k : Int) (w : World) (h : TS w A n c (marks3 k n)) (hn : n ≤ 1073741824) (hk0 : 0 ≤ k) (hk1 : k ≤ 10995116277) :
    Calls Try.prog 35 #[.agg #[.int .i64 s, .slice A n c], .int .i64 k] w fun e w' => e = .returned (.int .i64 (k + 3 * (n : Int))) ∧ Below w.heap.size w w' := by
  have H := Lib.hid h
  clear h
  go_enter Try.func35, Try.ntmps35
  go_wp2_with (fail)
  refine (laws_heldBlockS_any _ _ (H.out.alloc _) hn hk0 hk1).mono ?_
  rintro e w1 ⟨rfl, rfl⟩
  go_wp2_with (fail)
  go_ret
  exact ⟨rfl, below_new _ _⟩
/-- The blocks moved together. -/
def cmpL (xs : List Tr) : List Tr := (List.range xs.length).map fun i => ⟨(xs.getD i default).a, ((xs.take i).map Tr.c).sum, (xs.getD i default).c⟩
theorem cmpL_len (xs : List Tr) : (cmpL xs).length = xs.length := by simp [cmpL]
theorem cmpL_at {xs : List Tr} {k : Nat} {x : Tr} (h : xs[k]? = some x) : (cmpL xs)[k]? = some ⟨x.a, ((xs.take k).map Tr.c).sum, x.c⟩ := by
  have hk : k < xs.length := (List.getElem?_eq_some_iff.1 h).1
  simp [cmpL, hk, (List.getElem?_eq_some_iff.1 h).2]
theorem cmpL_next {xs : List Tr} {k : Nat} {x : Tr} (h : xs[k]? = some x) : (cmpL xs).take (k + 1) = (cmpL xs).take k ++ [⟨x.a, ((xs.take k).map Tr.c).sum, x.c⟩] := by
  have h2 := cmpL_at h
  rw [List.take_succ_eq_append_getElem (List.getElem?_eq_some_iff.1 h2).1, (List.getElem?_eq_some_iff.1 h2).2]
/-- A call has handed back an arena, and whether there is one. -/
def GaveArB (T : Nat) (w : World) (s : Int) (xs : List Tr) (ok : Bool) (e : Ending) (w' : World) : Prop :=
  ∃ A n c, e = .returned (.tuple #[.agg #[.int .i64 s, .slice A n c], .bool ok]) ∧ OT w' T w.heap.size A n c xs ∧ Below w.heap.size w w'
theorem gaveAr_f {T : Nat} {w w' : World} {s : Int} {xs : List Tr} {ok : Bool} (h1 : s = 0) (h2 : xs = []) (h3 : ok = false) (hb : Below w.heap.size w w') :
    GaveArB T w s xs ok (.returned (.tuple #[.agg #[.int .i64 0, .slice none 0 0], .bool false])) w' := by
  subst h1 h2 h3
  exact ⟨none, 0, 0, rfl, OT.nil _ _ _, hb⟩
noncomputable def cmS (s : Int) (xs : List Tr) : Int := if validA s xs then s else 0
noncomputable def cmX (s : Int) (xs : List Tr) : List Tr := if validA s xs then cmpL xs else []
theorem cmX_le (s : Int) (xs : List Tr) : (cmX s xs).length ≤ 10 := by
  unfold cmX
  split
  · rename_i h; rw [cmpL_len]; exact (validA_used h).1
  · simp
set_option maxHeartbeats 4000000 in
theorem impl_CompactArena_any {A : Option Addr} {n c : Nat} {xs : List Tr} (s : Int) (w : World) (h : TS w A n c xs) :
    Calls Try.prog 27 #[.agg #[.int .i64 s, .slice A n c]] w (GaveArB 39 w (cmS s xs) (cmX s xs) (validA s xs)) := by
  have hl := h.len
  have hcap := h.cap
  have H := Lib.hid h
  clear h
  rcases hv : validA s xs with _ | _
  · clear hl
    go_enter Try.func27, Try.ntmps27
    go_wp2_with (fail)
    refine (call_b (impl_ValidArena_any s _ ((H.out.alloc _).alloc _)) hv).mono ?_
    rintro e w1 ⟨rfl, hb⟩
    have B1 := Lib.hid (Below.trans (((Below.refl w.heap.size w).alloc (Nat.le_refl _) _).alloc (by simp) _) (hb.mono (by simp; try omega)))
    have Q1 : Hid (Blk w1 (w.heap.size + 1) 25 #[.int .i64 0, .slice none 0 0]) := Lib.hid ((by simpa using Blk.new (w.alloc (.cells #[.int .i64 s, .slice A n c] 25)) 25 #[.int .i64 0, .slice none 0 0] : Blk _ (w.heap.size + 1) _ _).on hb)
    clear hb
    obtain ⟨q0, q1⟩ := Q1.out.c2
    have f0 := Q1.out.frozen 0
    have f1 := Q1.out.frozen 1
    go_wp2_with (fail)
    refine bodyPost_ret (v := .tuple #[.agg #[.int .i64 0, .slice none 0 0], .bool false]) (by simp [results, Try.results27, go_sem, q0, q1]) rfl ?_
    refine gaveAr_f (by simp [cmS, hv]) (by simp [cmX, hv]) rfl ?_
    repeat' (first | with_reducible exact B1.out | refine Below.setCell ?_ ?_ _ | (show w.heap.size ≤ _; first | omega | (simp; done) | (simp; omega)))
  obtain ⟨h10, hc⟩ := validA_used hv
  have hn : n ≤ 10 := by omega
  have HC := Lib.hid hc
  have HV := Lib.hid hv
  have HL := Lib.hid hl
  clear hl h10 hc hv
  go_enter Try.func27, Try.ntmps27
  go_wp2_with (fail)
  refine (call_b (impl_ValidArena_any s _ ((H.out.alloc _).alloc _)) HV.out).mono ?_
  rintro e w1 ⟨rfl, hb⟩
  have B1 := Lib.hid (Below.trans (((Below.refl w.heap.size w).alloc (Nat.le_refl _) _).alloc (by simp) _) (hb.mono (by simp; try omega)))
  have P1 : Hid (Blk w1 w.heap.size 25 #[.int .i64 s, .slice A n c]) := Lib.hid (((Blk.new w _ _).alloc _).on hb)
  have Q1 : Hid (Blk w1 (w.heap.size + 1) 25 #[.int .i64 0, .slice none 0 0]) := Lib.hid ((by simpa using Blk.new (w.alloc (.cells #[.int .i64 s, .slice A n c] 25)) 25 #[.int .i64 0, .slice none 0 0] : Blk _ (w.heap.size + 1) _ _).on hb)
  have T1 := Lib.hid (((H.out.alloc _).alloc _).below hb (Nat.le_refl _))
  have hz1 := hb.size
  simp at hz1
  clear hb
  obtain ⟨p0, p1⟩ := P1.out.c2
  go_wp2_with (fail)
  clear p0 p1
  go_loopw [4, 5, 15] (fun v e i wr => ∃ (k m d : Nat) (E : Int) (A4 : Option Addr), k ≤ n ∧ 0 ≤ E ∧ E ≤ 64 * (k : Int) ∧ i = .int .i64 k ∧ e = .int .i64 E ∧ v = .slice A4 k d ∧ Hid (((xs.take k).map Tr.c).sum = E) ∧ Hid (OT wr 39 w1.heap.size A4 k d ((cmpL xs).take k) ∧ Below w1.heap.size w1 wr)) (fun _ _ i _ => n - (intOf i).toNat)
  case atStart => exact ⟨0, 0, 0, 0, none, Nat.zero_le _, by omega, by omega, rfl, rfl, rfl, Lib.hid (by simp), Lib.hid ⟨by simpa using OT.nil _ _ _, Below.refl _ _⟩⟩
  case round =>
    obtain ⟨k, m, d, E, A4, hk, hE0, hE1, rfl, rfl, rfl, hE, HH⟩ := hrel
    have O4 := Lib.hid HH.out.1
    have B4 := Lib.hid HH.out.2
    have hs4 := B4.out.size
    clear HH
    by_cases hlt : k < n
    · obtain ⟨b, off, x, rfl, hx, ca, cb, cc⟩ := (T1.out.below B4.out (Nat.le_refl _)).at_ hlt
      obtain ⟨hv0, hv1⟩ := HC.out x (List.mem_of_getElem? hx)
      have HX := Lib.hid hx
      have hki : (k : Int) < (n : Int) := by omega
      have HS : Hid (TS ((wr.alloc (.cells #[.int .i64 x.a, .int .i64 x.b, .int .i64 x.c] 39)).alloc (.cells #[.int .i64 x.a, .int .i64 E, .int .i64 x.c] 39)) (some ⟨wr.heap.size + 1, 0, none⟩) 1 1 [⟨x.a, E, x.c⟩]) := Lib.hid (by
        have h := (OT.lit (wr.alloc (.cells #[.int .i64 x.a, .int .i64 x.b, .int .i64 x.c] 39)) 39 0 [⟨x.a, E, x.c⟩] (by simp) (by simp)).ts
        simpa [cellsT] using h)
      have O5 := Lib.hid ((O4.out.alloc (.cells #[.int .i64 x.a, .int .i64 x.b, .int .i64 x.c] 39)).alloc (.cells #[.int .i64 x.a, .int .i64 E, .int .i64 x.c] 39))
      have B5 := Lib.hid ((B4.out.alloc hs4 (.cells #[.int .i64 x.a, .int .i64 x.b, .int .i64 x.c] 39)).alloc (by simp; omega) (.cells #[.int .i64 x.a, .int .i64 E, .int .i64 x.c] 39))
      have X5 := Lib.hid ((Blk.new wr 39 #[.int .i64 x.a, .int .i64 x.b, .int .i64 x.c]).alloc (.cells #[.int .i64 x.a, .int .i64 E, .int .i64 x.c] 39))
      have DX : Hid (Disj (some ⟨wr.heap.size, 0, none⟩) A4) := Lib.hid (Disj.mk (B := wr.heap.size) O4.out.lt (fun p hp => by cases hp; exact Nat.le_refl _)).symm
      clear hx
      go_wp2_with (at_builtin; go_must (refine wpList_append_ts _ rfl (.tmp 19) (.tmp 26) _ rfl w1.heap.size 39 infoBlk Try.underlying23 _ _ _ _ rfl O5.out _ _ _ _ rfl HS.out (by omega) (by simp; omega) ?_); intro A6 d6 w6 hown6 hg6; have O6 := Lib.hid hown6; have G6 := Lib.hid hg6; have X6 := Lib.hid (X5.out.away hg6 DX.out); clear hown6 hg6; obtain ⟨x0, x1, x2⟩ := X6.out.c3)
      go_roundw
      case rel =>
        refine ⟨k + 1, 0, d6, E + x.c, A6, by omega, by omega, by omega, by go_num, by go_num, rfl, Lib.hid (by rw [sumC_next HX.out, hE.out]), Lib.hid ⟨?_, below_row B5.out G6.out (by simp; omega) O5.out.ge⟩⟩
        rw [cmpL_next HX.out, hE.out]
        exact O6.out
      case measure => simp [intOf]; omega
    · have ek : k = n := by omega
      subst ek
      have P4 := Lib.hid (P1.out.on B4.out)
      have Q4 := Lib.hid (Q1.out.on B4.out)
      have BW := Lib.hid (B1.out.trans (B4.out.mono B1.out.size))
      obtain ⟨p0, p1⟩ := P4.out.c2
      obtain ⟨q0, q1⟩ := Q4.out.c2
      have f0 := Q4.out.frozen 0
      have f1 := Q4.out.frozen 1
      have pl := P4.out.lt
      go_wp2_with (fail)
      refine bodyPost_ret (v := .tuple #[.agg #[.int .i64 s, .slice A4 k d], .bool true]) (by simp [results, Try.results27, go_sem, q0, q1]) rfl ?_
      refine ⟨A4, k, d, by simp [cmS, HV.out], ?_, ?_⟩
      · simp only [cmX, HV.out, if_true]
        have h1 := O4.out
        rw [List.take_of_length_le (by rw [cmpL_len]; have := HL.out; omega)] at h1
        refine OT.base_le (base := w1.heap.size) ?_ (by omega)
        repeat (refine OT.setCell ?_ (by show w.heap.size + 1 < _; omega) _)
        exact h1
      · repeat' (first | with_reducible exact BW.out | refine Below.setCell ?_ ?_ _ | (show w.heap.size ≤ _; first | omega | (simp; done) | (simp; omega)))
end Go.Proofs.Ytleoncjdhlomaaa
