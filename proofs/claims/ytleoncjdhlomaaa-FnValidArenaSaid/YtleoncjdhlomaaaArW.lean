/-
  Contracts of the laws' functions on arenas: size, copy, comparison.
-/
import Derived.Test.YtleoncjdhlomaaaOwn
import Derived.Test.YtleoncjdhlomaaaTri
import Derived.Lib.QuietBelow
import Derived.Deep.DeepMust
namespace Go.Proofs.Ytleoncjdhlomaaa
open Go.RowKit

/-- A call has handed back new triples, and nothing that was there has turned. -/
def GaveTri (T : Nat) (w : World) (xs : List Tr) (e : Ending) (w' : World) : Prop :=
  ∃ A n c, e = .returned (.slice A n c) ∧ OT w' T w.heap.size A n c xs ∧ Below w.heap.size w w'
/-- A call has handed back an arena with new triples. -/
def GaveAr (T : Nat) (w : World) (s : Int) (xs : List Tr) (e : Ending) (w' : World) : Prop :=
  ∃ A n c, e = .returned (.agg #[.int .i64 s, .slice A n c]) ∧ OT w' T w.heap.size A n c xs ∧ Below w.heap.size w w'
theorem laws_szBlockS_any {A : Option Addr} {n c : Nat} (left : Int) (w : World) (h1 : n ≤ 9223372036854775807) (h2 : 0 ≤ left) (h3 : left ≤ 1048576) :
    Calls Try.prog 51 #[.slice A n c, .int .i64 left] w fun e w' => e = .returned (.int .i64 (szL left n)) ∧ w = w' := by
  rcases Int.lt_or_le left (n : Int) with h | h
  · go_enter Try.func51, Try.ntmps51
    go_wp2
    go_ret
    exact ⟨ret_int (szL_lo h).symm, rfl⟩
  · go_enter Try.func51, Try.ntmps51
    go_wp2
    go_ret
    exact ⟨ret_int (szL_hi h).symm, rfl⟩
theorem laws_szArena_any {A : Option Addr} {n c : Nat} (s left : Int) (w : World) (h1 : n ≤ 9223372036854775807) (h2 : 0 ≤ left) (h3 : left ≤ 1048576) :
    Calls Try.prog 31 #[.agg #[.int .i64 s, .slice A n c], .int .i64 left] w fun e w' => e = .returned (.int .i64 (szL left n)) ∧ Below w.heap.size w w' := by
  rcases Int.lt_or_le left (n : Int) with h | h
  · have he := Lib.hid (szL_lo h)
    go_enter Try.func31, Try.ntmps31
    go_wp2_with (go_at_call 51; refine (laws_szBlockS_any _ _ h1 h2 h3).mono ?_; rintro e w' ⟨rfl, rfl⟩; rw [he.out])
    go_ret
    exact ⟨ret_int he.out.symm, below_new _ _⟩
  · have he := Lib.hid (szL_hi h)
    have hx : 0 ≤ left - (n : Int) := by omega
    go_enter Try.func31, Try.ntmps31
    go_wp2_with (go_at_call 51; refine (laws_szBlockS_any _ _ h1 h2 h3).mono ?_; rintro e w' ⟨rfl, rfl⟩; rw [he.out])
    go_ret
    exact ⟨ret_int he.out.symm, below_new _ _⟩
theorem laws_toBlock_any (a b c : Int) (w : World) :
    Calls Try.prog 58 #[.agg #[.int .i64 a, .int .i64 b, .int .i64 c]] w fun e w' => e = .returned (.agg #[.int .i64 a, .int .i64 b, .int .i64 c]) ∧ Below w.heap.size w w' := by
  go_enter Try.func58, Try.ntmps58
  go_wp2_with (fail)
  refine bodyPost_ret (v := .agg #[.int .i64 a, .int .i64 b, .int .i64 c]) (by simp [results, Try.results58, go_sem]) rfl ⟨rfl, ?_⟩
  repeat' (first | with_reducible exact Below.refl _ _ | refine Below.setCell ?_ ?_ _ | refine Below.alloc ?_ ?_ _ | omega | (simp; done) | (simp; omega))
theorem made3 (n : Nat) : (madeCells (Value.agg #[.int .i64 0, .int .i64 0, .int .i64 0]).cells (n * 3)).toList = cellsT (List.replicate n ⟨0, 0, 0⟩) := by
  have h1 : (madeCells (Value.agg #[.int .i64 0, .int .i64 0, .int .i64 0]).cells (n * 3)).toList = List.replicate (n * 3) (.int .i64 0) := by
    apply List.ext_getElem?
    intro j
    have hc : (Value.agg #[.int .i64 0, .int .i64 0, .int .i64 0]).cells = #[.int .i64 0, .int .i64 0, .int .i64 0] := rfl
    rw [hc]
    by_cases hj : j < n * 3
    · have h3 : (#[.int .i64 0, .int .i64 0, .int .i64 0] : Array Value)[j % 3]! = .int .i64 0 := by
        have h : j % 3 = 0 ∨ j % 3 = 1 ∨ j % 3 = 2 := by omega
        rcases h with h | h | h <;> simp [h]
      simp [madeCells, hj]
      have h : j % 3 = 0 ∨ j % 3 = 1 ∨ j % 3 = 2 := by omega
      rcases h with h | h | h <;> simp [h]
    · simp [madeCells, hj]
  have h2 : cellsT (List.replicate n ⟨0, 0, 0⟩) = List.replicate (n * 3) (.int .i64 0) := by
    clear h1
    induction n with
    | zero => rfl
    | succ m ih =>
      have e : (m + 1) * 3 = m * 3 + 1 + 1 + 1 := by omega
      rw [List.replicate_succ, e, List.replicate_succ, List.replicate_succ, List.replicate_succ, ← ih]
      simp [cellsT]
  rw [h1, h2]
theorem fill3_next {xs : List Tr} {n k : Nat} {x : Tr} (hl : xs.length = n) (hk : k < n) (hx : xs[k]? = some x) :
    (xs.take k ++ List.replicate (n - k) (⟨0, 0, 0⟩ : Tr)).set k x = xs.take (k + 1) ++ List.replicate (n - (k + 1)) ⟨0, 0, 0⟩ := by
  have hk' : k < xs.length := by omega
  have e : xs[k] = x := (List.getElem?_eq_some_iff.1 hx).2
  rw [List.set_append_right _ _ (by simp; omega), List.take_succ_eq_append_getElem hk', e]
  have h1 : k - (xs.take k).length = 0 := by rw [List.length_take]; omega
  rw [h1]
  obtain ⟨m, hm⟩ : ∃ m, n - k = m + 1 := ⟨n - k - 1, by omega⟩
  have h2 : n - (k + 1) = m := by omega
  rw [hm, h2, List.replicate_succ]
  simp
theorem infoBlk : (Try.prog.info? 39).map (fun i => (i.zero, i.size, i.bytes)) = some (some (.agg #[.int .i64 0, .int .i64 0, .int .i64 0]), 3, 24) := by kernel_rfl
set_option maxHeartbeats 2000000 in
theorem laws_toBlockS_any {A : Option Addr} {n c : Nat} {xs : List Tr} (w : World) (h : TS w A n c xs) (hn : n ≤ 1048576) :
    Calls Try.prog 52 #[.slice A n c] w (GaveTri 39 w xs) := by
  obtain ⟨i0, hi, hz0, hz1, hz2⟩ := info_parts infoBlk
  have hm : n ≤ maxLen := by simp only [maxLen]; omega
  have hl := h.len
  have HL := Lib.hid hl
  clear hl
  have H := Lib.hid h
  clear h
  have hb2 : i0.bytes * n ≤ 281474976710656 := by rw [hz2]; omega
  have HB := Lib.hid hb2
  clear hb2
  have HZ1 := Lib.hid hz1
  have HZ0 := Lib.hid hz0
  have HI := Lib.hid hi
  clear hz0 hz1 hz2 hi
  go_enter Try.func52, Try.ntmps52
  go_wp2_with (at_make; refine wpList_make_full _ rfl _ _ 23 rfl w.heap.size 39 i0 (.agg #[.int .i64 0, .int .i64 0, .int .i64 0]) 3 Try.underlying23 HI.out HZ0.out HZ1.out .i64 .i64 _ _ n rfl rfl rfl rfl HB.out hm (Nat.le_refl _) ?_; intro w1 hown1 hgr1)
  have hbel : Hid (Below w.heap.size w w1) := Lib.hid ((Below.refl _ _).grown hgr1 (Nat.le_refl _) (by simp))
  have HO : Hid (OT w1 39 w.heap.size (some ⟨w.heap.size, 0, none⟩) n n (xs.take 0 ++ List.replicate (n - 0) ⟨0, 0, 0⟩)) := Lib.hid (by
    unfold OT
    rw [made3] at hown1
    simpa using hown1)
  clear hown1 hgr1
  go_loopw [4] (fun i wr => ∃ k : Nat, k ≤ n ∧ i = .int .i64 k ∧ Hid (OT wr 39 w.heap.size (some ⟨w.heap.size, 0, none⟩) n n (xs.take k ++ List.replicate (n - k) ⟨0, 0, 0⟩)) ∧ Hid (Below w.heap.size w wr)) (fun i _ => n - (intOf i).toNat)
  case atStart => exact ⟨0, Nat.zero_le _, rfl, HO, hbel⟩
  case round =>
    obtain ⟨k, hk, rfl, ho, hb⟩ := hrel
    clear hbel HO
    by_cases hlt : k < n
    · obtain ⟨b, off, x, rfl, hx, ca, cb, cc⟩ := (H.out.below hb.out (Nat.le_refl _)).at_ hlt
      have HX := Lib.hid hx
      clear hx
      go_wp2_with (fail)
      refine (laws_toBlock_any x.a x.b x.c _).mono ?_
      rintro e w2 ⟨rfl, hb2⟩
      have O2 := Lib.hid (ho.out.below hb2 (Nat.le_refl _))
      have B2 := Lib.hid (hb.out.trans (hb2.mono hb.out.size))
      clear hb2 ca cb cc
      obtain ⟨_, _, y, e0, hy, ya, yb, yc⟩ := O2.out.ts.at_ hlt
      simp only [Option.some.injEq, Addr.mk.injEq, and_true] at e0
      obtain ⟨rfl, rfl⟩ := e0
      rw [Nat.zero_add] at ya yb yc
      have f0 : w2.frozen? ⟨w.heap.size, k * 3, none⟩ = false := World.ownsRow.frozenAt O2.out (k * 3)
      have f1 : w2.frozen? ⟨w.heap.size, k * 3 + 1, none⟩ = false := World.ownsRow.frozenAt O2.out (k * 3 + 1)
      have f2 : w2.frozen? ⟨w.heap.size, k * 3 + 2, none⟩ = false := World.ownsRow.frozenAt O2.out (k * 3 + 2)
      clear hy
      go_wp2_with (fail)
      go_roundw
      case rel =>
        refine ⟨k + 1, by omega, by go_num, Lib.hid ?_, Lib.hid (((B2.out.setCell (Nat.le_refl _) _).setCell (Nat.le_refl _) _).setCell (Nat.le_refl _) _)⟩
        rw [← fill3_next HL.out hlt HX.out]
        exact O2.out.stored hlt x
      case measure => simp [intOf]; omega
    · go_wp2_with (fail)
      go_ret
      have ek : k = n := by omega
      subst ek
      have ht := ho.out
      rw [List.take_of_length_le (by have := HL.out; omega), Nat.sub_self, List.replicate_zero, List.append_nil] at ht
      exact ⟨_, _, _, rfl, ht, hb.out⟩
set_option maxHeartbeats 1000000 in
theorem laws_toArena_any {A : Option Addr} {n c : Nat} {xs : List Tr} (s : Int) (w : World) (h : TS w A n c xs) (hn : n ≤ 1048576) :
    Calls Try.prog 32 #[.agg #[.int .i64 s, .slice A n c]] w (GaveAr 39 w s xs) := by
  have H := Lib.hid h
  clear h
  go_enter Try.func32, Try.ntmps32
  go_wp2_with (fail)
  refine (laws_toBlockS_any _ (((H.out.alloc _).alloc _).alloc _) hn).mono ?_
  rintro e w1 ⟨A1, n1, c1, rfl, ho1, hb1⟩
  obtain ⟨hc, hf⟩ := bcell hb1
  have hz := hb1.size
  simp at hz
  have HO := Lib.hid ho1
  have HB := Lib.hid hb1
  clear ho1 hb1
  go_wp2_with (fail)
  refine bodyPost_ret (v := .agg #[.int .i64 s, .slice A1 n1 c1]) (by simp [results, Try.results32, go_sem, hc]) rfl ⟨_, _, _, rfl, ?_, ?_⟩
  · refine OT.base_le (base := w.heap.size + 1 + 1 + 1) ?_ (by omega)
    repeat (refine OT.setCell ?_ (by simp; try omega) _)
    simpa using HO.out
  · repeat (refine Below.setCell ?_ (by simp; try omega) _)
    exact Below.trans ((((Below.refl _ _).alloc (by simp) _).alloc (by simp; try omega) _).alloc (by simp; try omega) _) (HB.out.mono (by simp; try omega))
theorem laws_eqBlock_same (a b c : Int) (w : World) :
    Calls Try.prog 59 #[.agg #[.int .i64 a, .int .i64 b, .int .i64 c], .agg #[.int .i64 a, .int .i64 b, .int .i64 c]] w fun e w' => e = .returned (.bool true) ∧ Below w.heap.size w w' := by
  have e1 : (a != a) = false := by simp
  have e2 : (b != b) = false := by simp
  have e3 : (c != c) = false := by simp
  go_enter Try.func59, Try.ntmps59
  go_wp2_with (fail)
  go_ret
  exact ⟨rfl, ((Below.refl _ _).alloc (Nat.le_refl _) _).alloc (by simp) _⟩
set_option maxHeartbeats 2000000 in
theorem laws_eqBlockS_same {A A' : Option Addr} {n c n' c' : Nat} {xs : List Tr} (w : World) (h : TS w A n c xs) (h' : TS w A' n' c' xs) :
    Calls Try.prog 53 #[.slice A n c, .slice A' n' c'] w fun e w' => e = .returned (.bool true) ∧ Below w.heap.size w w' := by
  obtain rfl : n = n' := h.len.symm.trans h'.len
  have hcap := h.cap
  have H := Lib.hid h
  have H' := Lib.hid h'
  clear h h'
  go_enter Try.func53, Try.ntmps53
  go_wp2_with (fail)
  go_loopw [5] (fun i wr => ∃ k : Nat, k ≤ n ∧ i = .int .i64 k ∧ Hid (Below w.heap.size w wr)) (fun i _ => n - (intOf i).toNat)
  case atStart => exact ⟨0, Nat.zero_le _, rfl, Lib.hid (Below.refl _ _)⟩
  case round =>
    obtain ⟨k, hk, rfl, hb⟩ := hrel
    by_cases hlt : k < n
    · obtain ⟨b, off, x, rfl, hx, ca, cb, cc⟩ := (H.out.below hb.out (Nat.le_refl _)).at_ hlt
      obtain ⟨b', off', x', rfl, hx', ca', cb', cc'⟩ := (H'.out.below hb.out (Nat.le_refl _)).at_ hlt
      obtain rfl : x = x' := by rw [hx] at hx'; injection hx'
      have hki : (k : Int) < (n : Int) := by omega
      have q1 := fun d os => cell_regrown ca d os
      have q2 := fun d os => cell_regrown cb d os
      have q3 := fun d os => cell_regrown cc d os
      have q4 := fun d os => cell_regrown ca' d os
      have q5 := fun d os => cell_regrown cb' d os
      have q6 := fun d os => cell_regrown cc' d os
      clear hx hx' ca cb cc ca' cb' cc'
      go_wp2_with (fail)
      refine wp_region_quiet_below (by kernel_rfl) (by kernel_rfl) ?_
      repeat (first | go_big_quiet_step ((go_at_call 59; exact Calls.regrown_of (laws_eqBlock_same _ _ _ _))) | quiet_step ((go_at_call 59; exact Calls.regrown_of (laws_eqBlock_same _ _ _ _))))
      refine wpQuiet_nil ?_
      intro wq hw'
      have hbq : Below wr.heap.size wr wq := by obtain ⟨p, rfl⟩ := hw'; exact below_regrown _ _ _
      have BQ := Lib.hid (hb.out.trans (hbq.mono hb.out.size))
      clear hw' hbq q1 q2 q3 q4 q5 q6
      go_wp2_with (fail)
      go_roundw
      case rel => exact ⟨k + 1, by omega, by go_num, BQ⟩
      case measure => simp [intOf]; omega
    · go_wp2_with (fail)
      go_ret
      exact ⟨rfl, hb.out⟩
theorem laws_eqArena_same {A A' : Option Addr} {n c n' c' : Nat} {xs : List Tr} (s : Int) (w : World) (h : TS w A n c xs) (h' : TS w A' n' c' xs) :
    Calls Try.prog 33 #[.agg #[.int .i64 s, .slice A n c], .agg #[.int .i64 s, .slice A' n' c']] w fun e w' => e = .returned (.bool true) ∧ Below w.heap.size w w' := by
  have H := Lib.hid ((h.alloc (.cells #[.int .i64 s, .slice A n c] 25)).alloc (.cells #[.int .i64 s, .slice A' n' c'] 25))
  have H' := Lib.hid ((h'.alloc (.cells #[.int .i64 s, .slice A n c] 25)).alloc (.cells #[.int .i64 s, .slice A' n' c'] 25))
  clear h h'
  have e1 : (s != s) = false := by simp
  have HB := Lib.hid (((Below.refl w.heap.size w).alloc (Nat.le_refl _) (.cells #[.int .i64 s, .slice A n c] 25)).alloc (by simp) (.cells #[.int .i64 s, .slice A' n' c'] 25))
  go_enter Try.func33, Try.ntmps33
  go_wp2_with (fail)
  refine (laws_eqBlockS_same _ H.out H'.out).mono ?_
  rintro e w1 ⟨rfl, hb⟩
  have BB := Lib.hid (HB.out.trans (hb.mono HB.out.size))
  clear hb
  go_wp2_with (fail)
  go_ret
  exact ⟨rfl, BB.out⟩
end Go.Proofs.Ytleoncjdhlomaaa
