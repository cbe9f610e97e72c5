/-
  Contracts of the laws' functions on lists of entries: size, copy, comparison, marks.
-/
import Derived.Test.YtccgfeenjffnpaaArW
import Derived.Test.YtccgfeenjffnpaaTriA
import Derived.Deep.DeepMust
import Derived.Deep.RegionHeld3
import Derived.IntWalk
namespace Go.Proofs.Ytccgfeenjffnpaa
open Go.RowKit
theorem laws_szEntryS_any {A : Option Addr} {n c : Nat} (left : Int) (w : World) (h1 : n ≤ 9223372036854775807) (h2 : 0 ≤ left) (h3 : left ≤ 1048576) :
    Calls Try.prog 36 #[.slice A n c, .int .i64 left] w fun e w' => e = .returned (.int .i64 (szL left n)) ∧ w = w' := by
  rcases Int.lt_or_le left (n : Int) with h | h
  · go_enter Try.func36, Try.ntmps36
    go_wp2
    go_ret
    exact ⟨ret_int (szL_lo h).symm, rfl⟩
  · go_enter Try.func36, Try.ntmps36
    go_wp2
    go_ret
    exact ⟨ret_int (szL_hi h).symm, rfl⟩
theorem laws_toEntry_any (a b c : Int) (w : World) :
    Calls Try.prog 19 #[.agg #[.int .i64 a, .int .i64 b, .int .i64 c]] w fun e w' => e = .returned (.agg #[.int .i64 a, .int .i64 b, .int .i64 c]) ∧ Below w.heap.size w w' := by
  go_enter Try.func19, Try.ntmps19
  go_wp2_with (fail)
  refine bodyPost_ret (v := .agg #[.int .i64 a, .int .i64 b, .int .i64 c]) (by simp [results, Try.results19, go_sem]) rfl ⟨rfl, ?_⟩
  repeat' (first | with_reducible exact Below.refl _ _ | refine Below.setCell ?_ ?_ _ | refine Below.alloc ?_ ?_ _ | omega | (simp; done) | (simp; omega))
theorem infoEnt : (Try.prog.info? 38).map (fun i => (i.zero, i.size, i.bytes)) = some (some (.agg #[.int .i64 0, .int .i64 0, .int .i64 0]), 3, 24) := by kernel_rfl
set_option maxHeartbeats 2000000 in
theorem laws_toEntryS_any {A : Option Addr} {n c : Nat} {xs : List Tr} (w : World) (h : TS w A n c xs) (hn : n ≤ 1048576) :
    Calls Try.prog 38 #[.slice A n c] w (GaveTri 38 w xs) := by
  obtain ⟨i0, hi, hz0, hz1, hz2⟩ := info_parts infoEnt
  have hm : n ≤ maxLen := by simp only [maxLen]; omega
  have hl := h.len
  have HL := Lib.hid hl
  clear hl
  have H := Lib.hid h
  clear h
  have hb2 : i0.bytes * n ≤ 281474976710656 := by rw [hz2]; omega
  have HB := Lib.hid hb2
  clear hb2
  have HZ1 := Lib.hid hz1
  have HZ0 := Lib.hid hz0
  have HI := Lib.hid hi
  clear hz0 hz1 hz2 hi
  go_enter Try.func38, Try.ntmps38
  go_wp2_with (at_make; refine wpList_make_full _ rfl _ _ 28 rfl w.heap.size 38 i0 (.agg #[.int .i64 0, .int .i64 0, .int .i64 0]) 3 Try.underlying28 HI.out HZ0.out HZ1.out .i64 .i64 _ _ n rfl rfl rfl rfl HB.out hm (Nat.le_refl _) ?_; intro w1 hown1 hgr1)
  have hbel : Hid (Below w.heap.size w w1) := Lib.hid ((Below.refl _ _).grown hgr1 (Nat.le_refl _) (by simp))
  have HO : Hid (OT w1 38 w.heap.size (some ⟨w.heap.size, 0, none⟩) n n (xs.take 0 ++ List.replicate (n - 0) ⟨0, 0, 0⟩)) := Lib.hid (by
    unfold OT
    rw [made3] at hown1
    simpa using hown1)
  clear hown1 hgr1
  go_loopw [4] (fun i wr => ∃ k : Nat, k ≤ n ∧ i = .int .i64 k ∧ Hid (OT wr 38 w.heap.size (some ⟨w.heap.size, 0, none⟩) n n (xs.take k ++ List.replicate (n - k) ⟨0, 0, 0⟩)) ∧ Hid (Below w.heap.size w wr)) (fun i _ => n - (intOf i).toNat)
  case atStart => exact ⟨0, Nat.zero_le _, rfl, HO, hbel⟩
  case round =>
    obtain ⟨k, hk, rfl, ho, hb⟩ := hrel
    clear hbel HO
    by_cases hlt : k < n
    · obtain ⟨b, off, x, rfl, hx, ca, cb, cc⟩ := (H.out.below hb.out (Nat.le_refl _)).at_ hlt
      have HX := Lib.hid hx
      clear hx
      go_wp2_with (fail)
      refine (laws_toEntry_any x.a x.b x.c _).mono ?_
      rintro e w2 ⟨rfl, hb2⟩
      have O2 := Lib.hid (ho.out.below hb2 (Nat.le_refl _))
      have B2 := Lib.hid (hb.out.trans (hb2.mono hb.out.size))
      clear hb2 ca cb cc
      obtain ⟨_, _, y, e0, hy, ya, yb, yc⟩ := O2.out.ts.at_ hlt
      simp only [Option.some.injEq, Addr.mk.injEq, and_true] at e0
      obtain ⟨rfl, rfl⟩ := e0
      rw [Nat.zero_add] at ya yb yc
      have f0 : w2.frozen? ⟨w.heap.size, k * 3, none⟩ = false := World.ownsRow.frozenAt O2.out (k * 3)
      have f1 : w2.frozen? ⟨w.heap.size, k * 3 + 1, none⟩ = false := World.ownsRow.frozenAt O2.out (k * 3 + 1)
      have f2 : w2.frozen? ⟨w.heap.size, k * 3 + 2, none⟩ = false := World.ownsRow.frozenAt O2.out (k * 3 + 2)
      clear hy
      go_wp2_with (fail)
      go_roundw
      case rel =>
        refine ⟨k + 1, by omega, by go_num, Lib.hid ?_, Lib.hid (((B2.out.setCell (Nat.le_refl _) _).setCell (Nat.le_refl _) _).setCell (Nat.le_refl _) _)⟩
        rw [← fill3_next HL.out hlt HX.out]
        exact O2.out.stored hlt x
      case measure => simp [intOf]; omega
    · go_wp2_with (fail)
      go_ret
      have ek : k = n := by omega
      subst ek
      have ht := ho.out
      rw [List.take_of_length_le (by have := HL.out; omega), Nat.sub_self, List.replicate_zero, List.append_nil] at ht
      exact ⟨_, _, _, rfl, ht, hb.out⟩
theorem laws_eqEntry_same (a b c : Int) (w : World) :
    Calls Try.prog 25 #[.agg #[.int .i64 a, .int .i64 b, .int .i64 c], .agg #[.int .i64 a, .int .i64 b, .int .i64 c]] w fun e w' => e = .returned (.bool true) ∧ Below w.heap.size w w' := by
  have e1 : (a != a) = false := by simp
  have e2 : (b != b) = false := by simp
  have e3 : (c != c) = false := by simp
  go_enter Try.func25, Try.ntmps25
  go_wp2_with (fail)
  go_ret
  exact ⟨rfl, ((Below.refl _ _).alloc (Nat.le_refl _) _).alloc (by simp) _⟩
set_option maxHeartbeats 2000000 in
theorem laws_eqEntryS_same {A A' : Option Addr} {n c n' c' : Nat} {xs : List Tr} (w : World) (h : TS w A n c xs) (h' : TS w A' n' c' xs) :
    Calls Try.prog 28 #[.slice A n c, .slice A' n' c'] w fun e w' => e = .returned (.bool true) ∧ Below w.heap.size w w' := by
  obtain rfl : n = n' := h.len.symm.trans h'.len
  have hcap := h.cap
  have H := Lib.hid h
  have H' := Lib.hid h'
  clear h h'
  go_enter Try.func28, Try.ntmps28
  go_wp2_with (fail)
  go_loopw [5] (fun i wr => ∃ k : Nat, k ≤ n ∧ i = .int .i64 k ∧ Hid (Below w.heap.size w wr)) (fun i _ => n - (intOf i).toNat)
  case atStart => exact ⟨0, Nat.zero_le _, rfl, Lib.hid (Below.refl _ _)⟩
  case round =>
    obtain ⟨k, hk, rfl, hb⟩ := hrel
    by_cases hlt : k < n
    · obtain ⟨b, off, x, rfl, hx, ca, cb, cc⟩ := (H.out.below hb.out (Nat.le_refl _)).at_ hlt
      obtain ⟨b', off', x', rfl, hx', ca', cb', cc'⟩ := (H'.out.below hb.out (Nat.le_refl _)).at_ hlt
      obtain rfl : x = x' := by rw [hx] at hx'; injection hx'
      have hki : (k : Int) < (n : Int) := by omega
      have q1 := fun d os => cell_regrown ca d os
      have q2 := fun d os => cell_regrown cb d os
      have q3 := fun d os => cell_regrown cc d os
      have q4 := fun d os => cell_regrown ca' d os
      have q5 := fun d os => cell_regrown cb' d os
      have q6 := fun d os => cell_regrown cc' d os
      clear hx hx' ca cb cc ca' cb' cc'
      go_wp2_with (fail)
      refine wp_region_quiet_below (by kernel_rfl) (by kernel_rfl) ?_
      repeat (first | go_big_quiet_step ((go_at_call 25; exact Calls.regrown_of (laws_eqEntry_same _ _ _ _))) | quiet_step ((go_at_call 25; exact Calls.regrown_of (laws_eqEntry_same _ _ _ _))))
      refine wpQuiet_nil ?_
      intro wq hw'
      have hbq : Below wr.heap.size wr wq := by obtain ⟨p, rfl⟩ := hw'; exact below_regrown _ _ _
      have BQ := Lib.hid (hb.out.trans (hbq.mono hb.out.size))
      clear hw' hbq q1 q2 q3 q4 q5 q6
      go_wp2_with (fail)
      go_roundw
      case rel => exact ⟨k + 1, by omega, by go_num, BQ⟩
      case measure => simp [intOf]; omega
    · go_wp2_with (fail)
      go_ret
      exact ⟨rfl, hb.out⟩
set_option maxHeartbeats 2000000 in
theorem laws_markEntryS_any {base : Nat} {A : Option Addr} {n c : Nat} {xs : List Tr} (k : Int) (w : World) (h : OT w 38 base A n c xs) (hn : n ≤ 1073741824) (hk0 : 0 ≤ k) (hk1 : k ≤ 10995116277) :
    Calls Try.prog 29 #[.slice A n c, .int .i64 k] w fun e w' => e = .returned (.int .i64 (k + 3 * (n : Int))) ∧ OT w' 38 base A n c (marks3 k n) ∧ Row w w' A := by
  have hl := h.len
  have HL := Lib.hid hl
  clear hl
  have H := Lib.hid h
  clear h
  go_enter Try.func29, Try.ntmps29
  go_wp2_with (fail)
  go_loopw [1, 5] (fun t i wr => ∃ j : Nat, j ≤ n ∧ t = .int .i64 (k + 3 * (j : Int)) ∧ i = .int .i64 j ∧ Hid (OT wr 38 base A n c (marks3 k j ++ xs.drop j) ∧ Row w wr A)) (fun _ i _ => n - (intOf i).toNat)
  case atStart => exact ⟨0, Nat.zero_le _, by go_num, rfl, Lib.hid ⟨by simpa [marks3] using H.out, Row.refl _ _⟩⟩
  case round =>
    obtain ⟨j, hj, rfl, rfl, ho⟩ := hrel
    by_cases hlt : j < n
    · obtain ⟨g, rfl, hg1, hg2⟩ := ho.out.1.pos (by omega)
      obtain ⟨_, _, v, e0, _, ca, cb, cc⟩ := ho.out.1.ts.at_ hlt
      simp only [Option.some.injEq, Addr.mk.injEq, and_true] at e0
      obtain ⟨rfl, rfl⟩ := e0
      rw [Nat.zero_add] at ca cb cc
      have f0 : wr.frozen? ⟨g, j * 3, none⟩ = false := World.ownsRow.frozenAt ho.out.1 (j * 3)
      have f1 : wr.frozen? ⟨g, j * 3 + 1, none⟩ = false := World.ownsRow.frozenAt ho.out.1 (j * 3 + 1)
      have f2 : wr.frozen? ⟨g, j * 3 + 2, none⟩ = false := World.ownsRow.frozenAt ho.out.1 (j * 3 + 2)
      go_wp2_with (fail)
      go_roundw
      case rel =>
        refine ⟨j + 1, by omega, by go_num, by go_num, Lib.hid ⟨?_, ?_⟩⟩
        · rw [← marks3_next (by have := HL.out; omega)]
          have h3 := ho.out.1.stored hlt ⟨k + 3 * (j : Int), k + 3 * (j : Int) + 1, k + 3 * (j : Int) + 2⟩
          simpa [Int.add_assoc] using h3
        · have h3 := ho.out.1.storedRow j ⟨k + 3 * (j : Int), k + 3 * (j : Int) + 1, k + 3 * (j : Int) + 2⟩
          have h4 : Row w _ _ := World.grownBy.trans ho.out.2 h3
          simpa [Int.add_assoc] using h4
      case measure => simp [intOf]; omega
    · go_wp2_with (fail)
      go_ret
      have ek : j = n := by omega
      subst ek
      have h2 := ho.out.1
      rw [List.drop_of_length_le (by have := HL.out; omega), List.append_nil] at h2
      exact ⟨rfl, h2, ho.out.2⟩
set_option maxHeartbeats 2000000 in
theorem laws_heldEntryS_any {A : Option Addr} {n c : Nat} (k : Int) (w : World) (h : TS w A n c (marks3 k n)) (hn : n ≤ 1073741824) (hk0 : 0 ≤ k) (hk1 : k ≤ 10995116277) :
    Calls Try.prog 30 #[.slice A n c, .int .i64 k] w fun e w' => e = .returned (.int .i64 (k + 3 * (n : Int))) ∧ w = w' := by
  have H := Lib.hid h
  clear h
  go_enter Try.func30, Try.ntmps30
  go_wp2_with (fail)
  go_loop [1, 5] (fun t i => ∃ j : Nat, j ≤ n ∧ t = .int .i64 (k + 3 * (j : Int)) ∧ i = .int .i64 j) (fun _ i => n - (intOf i).toNat)
  case atStart => exact ⟨0, Nat.zero_le _, by go_num, rfl⟩
  case round =>
    obtain ⟨j, hj, rfl, rfl⟩ := hrel
    by_cases hlt : j < n
    · obtain ⟨b, off, v, rfl, hx, ca, cb, cc⟩ := H.out.at_ hlt
      rw [marks3_at hlt] at hx
      obtain rfl : (⟨k + 3 * (j : Int), k + 3 * (j : Int) + 1, k + 3 * (j : Int) + 2⟩ : Tr) = v := by injection hx
      clear hx
      simp only at ca cb cc
      have hne : (k + 3 * (j : Int) != k + 3 * (j : Int)) = false := by simp
      have hne1 : (k + 3 * (j : Int) + 1 != k + 3 * (j : Int) + 1) = false := by simp
      have hne2 : (k + 3 * (j : Int) + 2 != k + 3 * (j : Int) + 2) = false := by simp
      go_wp2_with (fail)
      go_round
      case rel => exact ⟨j + 1, by omega, by go_num, by go_num⟩
      case measure => simp [intOf]; omega
    · go_wp2_with (fail)
      go_ret
      have ek : j = n := by omega
      subst ek
      exact ⟨rfl, rfl⟩
end Go.Proofs.Ytccgfeenjffnpaa
