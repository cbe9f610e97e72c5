/-
  What draws an arena. (Its words were written by a program of my own.)
-/
import Derived.Test.YtleoncjdhlomaaaGenF
namespace Go.Proofs.Ytleoncjdhlomaaa
open Go.RowKit

/-- A drawn arena, and nothing old written. -/
def DrewAw (w : World) (e : Ending) (w' : World) : Prop :=
  ∃ s xs A n c, e = .returned (.agg #[.int .i64 s, .slice A n c]) ∧ n ≤ 11 ∧ TS w' A n c xs ∧ Below w.heap.size w w'
def DrewAN (w : World) (e : Ending) (w' : World) : Prop :=
  ∃ s xs A n c nm, e = .returned (.tuple #[.agg #[.int .i64 s, .slice A n c], .int .i64 nm]) ∧ n ≤ 11 ∧ TS w' A n c xs ∧ Below w.heap.size w w'
def DrewANS (w : World) (e : Ending) (w' : World) : Prop :=
  ∃ s xs A n c nm sz, e = .returned (.tuple #[.agg #[.int .i64 s, .slice A n c], .int .i64 nm, .int .i64 sz]) ∧ n ≤ 11 ∧ (-1 ≤ nm ∧ nm ≤ 100) ∧ (0 ≤ sz ∧ sz ≤ 65) ∧ TS w' A n c xs ∧ Below w.heap.size w w'
set_option maxHeartbeats 1000000 in
theorem spec_DrawValidArena_any {A : Option Addr} {n c : Nat} {zs : List Int} (w : World) (h : BS w A n c zs) (hn : n ≤ 1048576) :
    Calls Try.prog 14 #[.slice A n c] w (DrewAw w) := by
  have H := Lib.hid h
  clear h
  go_enter Try.func14, Try.ntmps14
  go_wp2_with (fail)
  refine (newReader_any _ (H.out.alloc _) hn).mono ?_
  rintro e w1 ⟨rfl, hr1, hb1⟩
  have R1 : Hid (RD w1 69 (w.heap.size + 1) 0) := Lib.hid (by simpa using hr1)
  have B1 := Lib.hid (below_then (below_new w _) hb1)
  have Q1 := Lib.hid ((Blk.new w 25 #[.int .i64 0, .slice none 0 0]).on hb1)
  have hz1 := R1.out.lt
  clear hr1 hb1
  go_wp2_with (fail)
  refine (anyArena_any (w.heap.size + 1) 0 w1 R1.out (by omega)).mono ?_
  rintro e w2 ⟨s, xs, A, n, c, rfl, hn2, t2, ge2, lt2, hr2, hw2⟩
  have T2 := Lib.hid t2
  have D2 : Hid (Disj (some ⟨w.heap.size, 0, none⟩) A) := Lib.hid (ge_disj (show w.heap.size < w1.heap.size by omega) ge2)
  have B2 := Lib.hid (B1.out.trans ((hw2.below (by omega)).mono (by omega)))
  have Q2 := Lib.hid (Q1.out.rd hw2 (by omega))
  clear t2 ge2 lt2 hr2 hw2
  obtain ⟨qa, qb⟩ := Q2.out.c2
  have f0 := Q2.out.frozen 0
  have f1 := Q2.out.frozen 1
  go_wp2_with (fail)
  refine bodyPost_ret (v := .agg #[.int .i64 s, .slice A n c]) (by simp [results, Try.results14, go_sem, qa, qb]) rfl ?_
  refine ⟨s, xs, A, n, c, rfl, hn2, ?_, ?_⟩
  · repeat' (first | with_reducible exact T2.out | refine TS.setCell ?_ ?_ _ | exact D2.out)
  · repeat' (first | with_reducible exact B2.out | refine Below.setCell ?_ ?_ _ | exact Nat.le_refl _)
set_option maxHeartbeats 1000000 in
theorem spec_DrawUsedPlaces_any {A : Option Addr} {n c : Nat} {zs : List Int} (w : World) (h : BS w A n c zs) (hn : n ≤ 1048576) :
    Calls Try.prog 29 #[.slice A n c] w (DrewAw w) := by
  have H := Lib.hid h
  clear h
  go_enter Try.func29, Try.ntmps29
  go_wp2_with (fail)
  refine (newReader_any _ (H.out.alloc _) hn).mono ?_
  rintro e w1 ⟨rfl, hr1, hb1⟩
  have R1 : Hid (RD w1 69 (w.heap.size + 1) 0) := Lib.hid (by simpa using hr1)
  have B1 := Lib.hid (below_then (below_new w _) hb1)
  have Q1 := Lib.hid ((Blk.new w 25 #[.int .i64 0, .slice none 0 0]).on hb1)
  have hz1 := R1.out.lt
  clear hr1 hb1
  go_wp2_with (fail)
  refine (anyArena_any (w.heap.size + 1) 0 w1 R1.out (by omega)).mono ?_
  rintro e w2 ⟨s, xs, A, n, c, rfl, hn2, t2, ge2, lt2, hr2, hw2⟩
  have T2 := Lib.hid t2
  have D2 : Hid (Disj (some ⟨w.heap.size, 0, none⟩) A) := Lib.hid (ge_disj (show w.heap.size < w1.heap.size by omega) ge2)
  have B2 := Lib.hid (B1.out.trans ((hw2.below (by omega)).mono (by omega)))
  have Q2 := Lib.hid (Q1.out.rd hw2 (by omega))
  clear t2 ge2 lt2 hr2 hw2
  obtain ⟨qa, qb⟩ := Q2.out.c2
  have f0 := Q2.out.frozen 0
  have f1 := Q2.out.frozen 1
  go_wp2_with (fail)
  refine bodyPost_ret (v := .agg #[.int .i64 s, .slice A n c]) (by simp [results, Try.results29, go_sem, qa, qb]) rfl ?_
  refine ⟨s, xs, A, n, c, rfl, hn2, ?_, ?_⟩
  · repeat' (first | with_reducible exact T2.out | refine TS.setCell ?_ ?_ _ | exact D2.out)
  · repeat' (first | with_reducible exact B2.out | refine Below.setCell ?_ ?_ _ | exact Nat.le_refl _)
set_option maxHeartbeats 1000000 in
theorem spec_DrawCompactArena_any {A : Option Addr} {n c : Nat} {zs : List Int} (w : World) (h : BS w A n c zs) (hn : n ≤ 1048576) :
    Calls Try.prog 26 #[.slice A n c] w (DrewAw w) := by
  have H := Lib.hid h
  clear h
  go_enter Try.func26, Try.ntmps26
  go_wp2_with (fail)
  refine (newReader_any _ (H.out.alloc _) hn).mono ?_
  rintro e w1 ⟨rfl, hr1, hb1⟩
  have R1 : Hid (RD w1 69 (w.heap.size + 1) 0) := Lib.hid (by simpa using hr1)
  have B1 := Lib.hid (below_then (below_new w _) hb1)
  have Q1 := Lib.hid ((Blk.new w 25 #[.int .i64 0, .slice none 0 0]).on hb1)
  have hz1 := R1.out.lt
  clear hr1 hb1
  go_wp2_with (fail)
  refine (anyArena_any (w.heap.size + 1) 0 w1 R1.out (by omega)).mono ?_
  rintro e w2 ⟨s, xs, A, n, c, rfl, hn2, t2, ge2, lt2, hr2, hw2⟩
  have T2 := Lib.hid t2
  have D2 : Hid (Disj (some ⟨w.heap.size, 0, none⟩) A) := Lib.hid (ge_disj (show w.heap.size < w1.heap.size by omega) ge2)
  have B2 := Lib.hid (B1.out.trans ((hw2.below (by omega)).mono (by omega)))
  have Q2 := Lib.hid (Q1.out.rd hw2 (by omega))
  clear t2 ge2 lt2 hr2 hw2
  obtain ⟨qa, qb⟩ := Q2.out.c2
  have f0 := Q2.out.frozen 0
  have f1 := Q2.out.frozen 1
  go_wp2_with (fail)
  refine bodyPost_ret (v := .agg #[.int .i64 s, .slice A n c]) (by simp [results, Try.results26, go_sem, qa, qb]) rfl ?_
  refine ⟨s, xs, A, n, c, rfl, hn2, ?_, ?_⟩
  · repeat' (first | with_reducible exact T2.out | refine TS.setCell ?_ ?_ _ | exact D2.out)
  · repeat' (first | with_reducible exact B2.out | refine Below.setCell ?_ ?_ _ | exact Nat.le_refl _)
set_option maxHeartbeats 1600000 in
theorem spec_DrawAllocBlock_any {A : Option Addr} {n c : Nat} {zs : List Int} (w : World) (h : BS w A n c zs) (hn : n ≤ 1048576) :
    Calls Try.prog 17 #[.slice A n c] w (DrewANS w) := by
  have H := Lib.hid h
  clear h
  go_enter Try.func17, Try.ntmps17
  go_wp2_with (fail)
  refine (newReader_any _ (H.out.alloc _) hn).mono ?_
  rintro e w1 ⟨rfl, hr1, hb1⟩
  have R1 : Hid (RD w1 69 (w.heap.size + 1) 0) := Lib.hid (by simpa using hr1)
  have B1 := Lib.hid (below_then (below_new w _) hb1)
  have Q1 := Lib.hid ((Blk.new w 25 #[.int .i64 0, .slice none 0 0]).on hb1)
  have hz1 := R1.out.lt
  clear hr1 hb1
  go_wp2_with (fail)
  refine (anyArena_any (w.heap.size + 1) 0 w1 R1.out (by omega)).mono ?_
  rintro e w2 ⟨s, xs, A, n, c, rfl, hn2, t2, ge2, lt2, hr2, hw2⟩
  have T2 := Lib.hid (t2.alloc (.cells #[.int .i64 s, .slice A n c] 25))
  have GE := Lib.hid (ge2.mono (show w.heap.size + 1 + 1 ≤ _ by omega))
  have D2 : Hid (Disj (some ⟨w.heap.size, 0, none⟩) A) := Lib.hid (ge_disj (show w.heap.size < w1.heap.size by omega) ge2)
  have hz2 := hw2.size
  have B2 := Lib.hid ((B1.out.trans ((hw2.below (by omega)).mono (by omega))).alloc (by have := B1.out.size; omega) (.cells #[.int .i64 s, .slice A n c] 25))
  have Q2 := Lib.hid ((Q1.out.rd hw2 (by omega)).alloc (.cells #[.int .i64 s, .slice A n c] 25))
  have R2 := Lib.hid (hr2.below ((below_new w2 (.cells #[.int .i64 s, .slice A n c] 25)).mono hr2.lt))
  have X2 := Lib.hid (Blk.new w2 25 #[.int .i64 s, .slice A n c])
  clear t2 ge2 lt2 hr2 hw2
  obtain ⟨wy, eW⟩ : ∃ v, v = w2.alloc (.cells #[.int .i64 s, .slice A n c] 25) := ⟨_, rfl⟩
  have hsy : wy.heap.size = w2.heap.size + 1 := by rw [eW]; simp
  rw [← eW] at T2 B2 Q2 R2 X2
  have hbr : w2.heap.size ≠ w.heap.size + 1 := by omega
  go_wp2_with (fail)
  rw [← eW]
  clear eW
  refine (pick_any (w.heap.size + 1) _ 12 _ R2.out (by omega) (by omega)).mono ?_
  rintro e w3 ⟨k, rfl, hk0, hk1, hr3, hw3⟩
  have hk2 := hk1 (by omega)
  have R3 := Lib.hid hr3
  have HW3 := Lib.hid hw3
  have hz3 := hw3.size
  have X3 := Lib.hid (X2.out.rd hw3 hbr)
  clear hr3 hw3 hk1
  obtain ⟨xa, xb⟩ := X3.out.c2
  go_wp2_with (fail)
  refine (one_any (xs := [20, k, 99, 100, -1]) (fun x => -1 ≤ x ∧ x ≤ 100) (w.heap.size + 1) _ _ (R3.out.below ((below_new w3 _).mono (by omega))) (by omega) (by simpa using OW.lit w3 3 (w.heap.size + 1 + 1) [20, k, 99, 100, -1] (by omega) (by simp)) (by omega) (by omega) (by simp; omega)).mono ?_
  rintro e w4 ⟨nm, rfl, ⟨hm0, hm1⟩, hr4, hw4⟩
  have R4 := Lib.hid hr4
  have HW4 := Lib.hid (HW3.out.trans ((Rd.of_below (below_new w3 _)).trans hw4))
  have hz4 := HW4.out.size
  have X4 := Lib.hid (X2.out.rd HW4.out hbr)
  have Q4 := Lib.hid (Q2.out.rd HW4.out (by omega))
  have T4 := Lib.hid (T2.out.rd HW4.out GE.out)
  have B4 := Lib.hid (B2.out.trans ((HW4.out.below (by omega)).mono (by omega)))
  clear hr4 hw4 xa xb X3
  obtain ⟨xa, xb⟩ := X4.out.c2
  have hxl : w2.heap.size < w4.heap.size := by omega
  go_wp2_with (fail)
  go_region_held3 (fun w' => w'.cell? ⟨w2.heap.size, 0, none⟩ = some (.int .i64 s) ∧ w'.cell? ⟨w2.heap.size, 1, none⟩ = some (.slice A n c))
    ((repeat' apply And.intro) <;> first | (refine cell_set (cell_rd (w := w4) W5.out hbr xa) ?_ _; show w2.heap.size ≠ w.heap.size; omega) | (refine cell_set (cell_set (cell_rd (w := w4) W5.out hbr xa) ?_ _) ?_ _ <;> (show w2.heap.size ≠ w.heap.size; omega)) | (refine cell_set (cell_rd (w := w4) W5.out hbr xb) ?_ _; show w2.heap.size ≠ w.heap.size; omega) | (refine cell_set (cell_set (cell_rd (w := w4) W5.out hbr xb) ?_ _) ?_ _ <;> (show w2.heap.size ≠ w.heap.size; omega)) | (refine cell_rd (w := w4) ?_ hbr xa <;> (repeat' (first | exact W5.out | exact Rd.refl _ _ | with_reducible refine Rd.drew ?_ | with_reducible refine Rd.alloc ?_ _ | omega))) | (refine cell_rd (w := w4) ?_ hbr xb <;> (repeat' (first | exact W5.out | exact Rd.refl _ _ | with_reducible refine Rd.drew ?_ | with_reducible refine Rd.alloc ?_ _ | omega))))
    ((go_at_call 40; go_must (refine (one_any (n := 7) (c := 7) (xs := [1, 3, 5, 10, 64, 0, 65]) (fun x => 0 ≤ x ∧ x ≤ 65) (w.heap.size + 1) _ _ (R4.out.below (Below.alloc ((Below.refl _ w4).drew) (by show w.heap.size + 1 + 1 ≤ w4.heap.size; omega) _)) (by omega) (OW.lit w4.drew 3 (w.heap.size + 1 + 1) [1, 3, 5, 10, 64, 0, 65] (by show w.heap.size + 1 + 1 ≤ w4.heap.size; omega) (by decide)) (by omega) (by omega) (by simp; try omega)).mono ?_; rintro e w5 ⟨sz, rfl, hs, hr5, hw5⟩; have hs0 := hs.1; have hs1 := hs.2; have W5 := Lib.hid ((Rd.of_below (a := w4) (((Below.refl w4.heap.size w4).drew).alloc (Nat.le_refl _) _)).trans hw5); have Q5 := Lib.hid (Q4.out.rd W5.out (by omega)); obtain ⟨qa, qb⟩ := Q5.out.c2; have f0 := Q5.out.frozen 0; have f1 := Q5.out.frozen 1; clear hs hr5 hw5)))
  all_goals (
    have K5 := Lib.hid (T4.out.rd W5.out GE.out)
    have B5 := Lib.hid (B4.out.trans ((W5.out.below (by omega)).mono (by omega)))
    go_wp2_with (fail)
    refine bodyPost_ret (v := .tuple #[.agg #[.int .i64 s, .slice A n c], .int .i64 nm, .int .i64 sz]) (by simp [results, Try.results17, go_sem, qa, qb]) rfl ?_
    refine ⟨s, xs, A, n, c, nm, sz, rfl, hn2, ⟨hm0, hm1⟩, ⟨hs0, hs1⟩, ?_, ?_⟩
    · repeat' (first | with_reducible exact K5.out | refine TS.setCell ?_ ?_ _ | exact D2.out)
    · repeat' (first | with_reducible exact B5.out | refine Below.setCell ?_ ?_ _ | exact Nat.le_refl _))
set_option maxHeartbeats 1600000 in
theorem spec_DrawFreeBlock_any {A : Option Addr} {n c : Nat} {zs : List Int} (w : World) (h : BS w A n c zs) (hn : n ≤ 1048576) :
    Calls Try.prog 24 #[.slice A n c] w (DrewAN w) := by
  have H := Lib.hid h
  clear h
  go_enter Try.func24, Try.ntmps24
  go_wp2_with (fail)
  refine (newReader_any _ (H.out.alloc _) hn).mono ?_
  rintro e w1 ⟨rfl, hr1, hb1⟩
  have R1 : Hid (RD w1 69 (w.heap.size + 1) 0) := Lib.hid (by simpa using hr1)
  have B1 := Lib.hid (below_then (below_new w _) hb1)
  have Q1 := Lib.hid ((Blk.new w 25 #[.int .i64 0, .slice none 0 0]).on hb1)
  have hz1 := R1.out.lt
  clear hr1 hb1
  go_wp2_with (fail)
  refine (anyArena_any (w.heap.size + 1) 0 w1 R1.out (by omega)).mono ?_
  rintro e w2 ⟨s, xs, A, n, c, rfl, hn2, t2, ge2, lt2, hr2, hw2⟩
  have T2 := Lib.hid (t2.alloc (.cells #[.int .i64 s, .slice A n c] 25))
  have GE := Lib.hid (ge2.mono (show w.heap.size + 1 + 1 ≤ _ by omega))
  have D2 : Hid (Disj (some ⟨w.heap.size, 0, none⟩) A) := Lib.hid (ge_disj (show w.heap.size < w1.heap.size by omega) ge2)
  have hz2 := hw2.size
  have B2 := Lib.hid ((B1.out.trans ((hw2.below (by omega)).mono (by omega))).alloc (by have := B1.out.size; omega) (.cells #[.int .i64 s, .slice A n c] 25))
  have Q2 := Lib.hid ((Q1.out.rd hw2 (by omega)).alloc (.cells #[.int .i64 s, .slice A n c] 25))
  have R2 := Lib.hid (hr2.below ((below_new w2 (.cells #[.int .i64 s, .slice A n c] 25)).mono hr2.lt))
  have X2 := Lib.hid (Blk.new w2 25 #[.int .i64 s, .slice A n c])
  clear t2 ge2 lt2 hr2 hw2
  obtain ⟨wy, eW⟩ : ∃ v, v = w2.alloc (.cells #[.int .i64 s, .slice A n c] 25) := ⟨_, rfl⟩
  have hsy : wy.heap.size = w2.heap.size + 1 := by rw [eW]; simp
  rw [← eW] at T2 B2 Q2 R2 X2
  have hbr : w2.heap.size ≠ w.heap.size + 1 := by omega
  have hqr : w.heap.size ≠ w.heap.size + 1 := by omega
  rcases Nat.eq_zero_or_pos n with h0 | h0
  · subst h0
    go_upto_region 5 with (fail)
    rw [← eW]
    clear eW
    obtain ⟨w4, e4⟩ : ∃ v : World, v = wy := ⟨_, rfl⟩
    rw [← e4] at T2 B2 Q2 R2 X2 hsy ⊢
    clear e4
    have T4 := T2
    have B4 := B2
    have Q4 := Q2
    have R4 := R2
    have hz4 : w2.heap.size < w4.heap.size := by omega
    obtain ⟨xa, xb⟩ := X2.out.c2
    go_region_held3 (fun w' => w'.cell? ⟨w2.heap.size, 0, none⟩ = some (.int .i64 s) ∧ w'.cell? ⟨w2.heap.size, 1, none⟩ = some (.slice A 0 c))
      ((repeat' apply And.intro) <;> first | (refine cell_set (cell_rd (w := w4) W5.out hbr xa) ?_ _; show w2.heap.size ≠ w.heap.size; omega) | (refine cell_set (cell_set (cell_rd (w := w4) W5.out hbr xa) ?_ _) ?_ _ <;> (show w2.heap.size ≠ w.heap.size; omega)) | (refine cell_set (cell_rd (w := w4) W5.out hbr xb) ?_ _; show w2.heap.size ≠ w.heap.size; omega) | (refine cell_set (cell_set (cell_rd (w := w4) W5.out hbr xb) ?_ _) ?_ _ <;> (show w2.heap.size ≠ w.heap.size; omega)) | (refine cell_rd (w := w4) ?_ hbr xa <;> (repeat' (first | exact W5.out | exact Rd.refl _ _ | with_reducible refine Rd.drew ?_ | with_reducible refine Rd.alloc ?_ _ | omega))) | (refine cell_rd (w := w4) ?_ hbr xb <;> (repeat' (first | exact W5.out | exact Rd.refl _ _ | with_reducible refine Rd.drew ?_ | with_reducible refine Rd.alloc ?_ _ | omega))))
      ((go_at_call 41; go_must (refine (pick_any (w.heap.size + 1) _ 14 _ (R4.out.below (by repeat (first | exact Below.refl _ _ | with_reducible refine Below.drew ?_ | with_reducible refine Below.alloc ?_ (by first | omega | (simp; done) | (simp; omega)) _))) (by omega) (by omega)).mono ?_; rintro e w5 ⟨k2, rfl, hk20, hk21, hr5, hw5⟩; have W5 := Lib.hid ((Rd.of_below (a := w4) (by repeat (first | exact Below.refl _ _ | with_reducible refine Below.drew ?_ | with_reducible refine Below.alloc ?_ (by first | omega | (simp; done) | (simp; omega)) _))).trans hw5); have Q5 := Lib.hid (Q4.out.rd W5.out (by omega)); obtain ⟨qa, qb⟩ := Q5.out.c2; have f0 := Q5.out.frozen 0; have f1 := Q5.out.frozen 1; clear hr5 hw5 hk21)))
    all_goals (
      have K5 := Lib.hid (T4.out.rd W5.out GE.out)
      have B5 := Lib.hid (B4.out.trans ((W5.out.below (by omega)).mono (by omega)))
      go_wp2_with (fail)
      refine bodyPost_ret (v := .tuple #[.agg #[.int .i64 s, .slice A 0 c], .int .i64 k2]) (by simp [results, Try.results24, go_sem, qa, qb]) rfl ?_
      refine ⟨s, xs, A, 0, c, k2, rfl, hn2, ?_, ?_⟩
      · repeat' (first | with_reducible exact K5.out | refine TS.setCell ?_ ?_ _ | exact D2.out)
      · repeat' (first | with_reducible exact B5.out | refine Below.setCell ?_ ?_ _ | exact Nat.le_refl _))
  have h0' : (0 : Int) < (n : Int) := by omega
  obtain ⟨b, off, _, rfl, _⟩ := T2.out.at_ h0
  have hb5 : b ≠ w.heap.size + 1 := by have := GE.out _ rfl; simp at this; omega
  have hbq : b ≠ w.heap.size := by have := GE.out _ rfl; simp at this; omega
  have hq3 := X2.out.c2
  obtain ⟨xa, xb⟩ := hq3
  have eW2 := Lib.hid eW
  go_wp2_with (fail)
  rw [← eW]
  clear eW
  refine (pick_any (w.heap.size + 1) _ 4 _ R2.out (by omega) (by omega)).mono ?_
  rintro e w4 ⟨k, rfl, hk0, hk1, hr4, hw4⟩
  have R4 := Lib.hid hr4
  have X4 := Lib.hid (X2.out.rd hw4 hbr)
  have Q4 := Lib.hid (Q2.out.rd hw4 (by omega))
  have T4 := Lib.hid (T2.out.rd hw4 GE.out)
  have hz4 : w2.heap.size < w4.heap.size := by have := hw4.size; omega
  have B4 := Lib.hid (B2.out.trans ((hw4.below (by omega)).mono (by omega)))
  clear hr4 hw4 xa xb hk1 eW2
  obtain ⟨xa, xb⟩ := X4.out.c2
  by_cases hk : 0 < k
  · go_upto_region 4 with (fail)
    go_region_held3 (fun w' => w'.cell? ⟨w2.heap.size, 0, none⟩ = some (.int .i64 s) ∧ w'.cell? ⟨w2.heap.size, 1, none⟩ = some (.slice (some ⟨b, off, none⟩) n c))
      ((repeat' apply And.intro) <;> first | (refine cell_set (cell_rd (w := w4) W5.out hbr xa) ?_ _; show w2.heap.size ≠ w.heap.size; omega) | (refine cell_set (cell_set (cell_rd (w := w4) W5.out hbr xa) ?_ _) ?_ _ <;> (show w2.heap.size ≠ w.heap.size; omega)) | (refine cell_set (cell_rd (w := w4) W5.out hbr xb) ?_ _; show w2.heap.size ≠ w.heap.size; omega) | (refine cell_set (cell_set (cell_rd (w := w4) W5.out hbr xb) ?_ _) ?_ _ <;> (show w2.heap.size ≠ w.heap.size; omega)) | (refine cell_set (cell_rd (w := w4) W5.out hb5 y0) ?_ _; show b ≠ w.heap.size; omega) | (refine cell_set (cell_set (cell_rd (w := w4) W5.out hb5 y0) ?_ _) ?_ _ <;> (show b ≠ w.heap.size; omega)) | (refine cell_rd (w := w4) ?_ hb5 y0 <;> (repeat' (first | exact W5.out | exact Rd.refl _ _ | with_reducible refine Rd.drew ?_ | with_reducible refine Rd.alloc ?_ _ | omega))) | (refine cell_rd (w := w4) ?_ hbr xa <;> (repeat' (first | exact W5.out | exact Rd.refl _ _ | with_reducible refine Rd.drew ?_ | with_reducible refine Rd.alloc ?_ _ | omega))) | (refine cell_rd (w := w4) ?_ hbr xb <;> (repeat' (first | exact W5.out | exact Rd.refl _ _ | with_reducible refine Rd.drew ?_ | with_reducible refine Rd.alloc ?_ _ | omega))))
      ((go_at_call 41; go_must (refine shut_copy (by assumption) (fun hk => ?_); refine (pick_any (w.heap.size + 1) _ (n : Int) _ (R4.out.below (by repeat (first | exact Below.refl _ _ | with_reducible refine Below.drew ?_ | with_reducible refine Below.alloc ?_ (by first | omega | (simp; done) | (simp; omega)) _))) (by omega) (by omega)).mono ?_; rintro e w5 ⟨k2, rfl, hk20, hk21, hr5, hw5⟩; have W5 := Lib.hid ((Rd.of_below (a := w4) (by repeat (first | exact Below.refl _ _ | with_reducible refine Below.drew ?_ | with_reducible refine Below.alloc ?_ (by first | omega | (simp; done) | (simp; omega)) _))).trans hw5); have hk22 := hk21 (by omega); obtain ⟨j2, rfl⟩ := Int.eq_ofNat_of_zero_le hk20; have hj2 : j2 < n := (by omega); obtain ⟨_, _, y, ey, hy, y0, _, _⟩ := T4.out.at_ hj2; simp only [Option.some.injEq, Addr.mk.injEq, and_true] at ey; obtain ⟨rfl, rfl⟩ := ey; clear hy; have hyc : w5.cell? ⟨b, off + j2 * 3, none⟩ = some (.int .i64 y.a) := cell_rd W5.out hb5 y0; have Q5 := Lib.hid (Q4.out.rd W5.out (by omega)); obtain ⟨qa, qb⟩ := Q5.out.c2; have f0 := Q5.out.frozen 0; have f1 := Q5.out.frozen 1; clear hr5 hw5 hk21; rw [shut_eq (fun w' => w'.cell? ⟨b, off + j2 * 3, none⟩ = some (.int .i64 y.a)) hk] at *; clear hk)))
    all_goals (
      have K5 := Lib.hid (T4.out.rd W5.out GE.out)
      have B5 := Lib.hid (B4.out.trans ((W5.out.below (by omega)).mono (by omega)))
      go_wp2_with (fail)
      refine bodyPost_ret (v := .tuple #[.agg #[.int .i64 s, .slice (some ⟨b, off, none⟩) n c], .int .i64 y.a]) (by simp [results, Try.results24, go_sem, qa, qb]) rfl ?_
      refine ⟨s, xs, (some ⟨b, off, none⟩), n, c, y.a, rfl, hn2, ?_, ?_⟩
      · repeat' (first | with_reducible exact K5.out | refine TS.setCell ?_ ?_ _ | exact D2.out)
      · repeat' (first | with_reducible exact B5.out | refine Below.setCell ?_ ?_ _ | exact Nat.le_refl _))
  · go_upto_region 5 with (fail)
    go_region_held3 (fun w' => w'.cell? ⟨w2.heap.size, 0, none⟩ = some (.int .i64 s) ∧ w'.cell? ⟨w2.heap.size, 1, none⟩ = some (.slice (some ⟨b, off, none⟩) n c))
      ((repeat' apply And.intro) <;> first | (refine cell_set (cell_rd (w := w4) W5.out hbr xa) ?_ _; show w2.heap.size ≠ w.heap.size; omega) | (refine cell_set (cell_set (cell_rd (w := w4) W5.out hbr xa) ?_ _) ?_ _ <;> (show w2.heap.size ≠ w.heap.size; omega)) | (refine cell_set (cell_rd (w := w4) W5.out hbr xb) ?_ _; show w2.heap.size ≠ w.heap.size; omega) | (refine cell_set (cell_set (cell_rd (w := w4) W5.out hbr xb) ?_ _) ?_ _ <;> (show w2.heap.size ≠ w.heap.size; omega)) | (refine cell_rd (w := w4) ?_ hbr xa <;> (repeat' (first | exact W5.out | exact Rd.refl _ _ | with_reducible refine Rd.drew ?_ | with_reducible refine Rd.alloc ?_ _ | omega))) | (refine cell_rd (w := w4) ?_ hbr xb <;> (repeat' (first | exact W5.out | exact Rd.refl _ _ | with_reducible refine Rd.drew ?_ | with_reducible refine Rd.alloc ?_ _ | omega))))
      ((go_at_call 41; go_must (refine (pick_any (w.heap.size + 1) _ 14 _ (R4.out.below (by repeat (first | exact Below.refl _ _ | with_reducible refine Below.drew ?_ | with_reducible refine Below.alloc ?_ (by first | omega | (simp; done) | (simp; omega)) _))) (by omega) (by omega)).mono ?_; rintro e w5 ⟨k2, rfl, hk20, hk21, hr5, hw5⟩; have W5 := Lib.hid ((Rd.of_below (a := w4) (by repeat (first | exact Below.refl _ _ | with_reducible refine Below.drew ?_ | with_reducible refine Below.alloc ?_ (by first | omega | (simp; done) | (simp; omega)) _))).trans hw5); have Q5 := Lib.hid (Q4.out.rd W5.out (by omega)); obtain ⟨qa, qb⟩ := Q5.out.c2; have f0 := Q5.out.frozen 0; have f1 := Q5.out.frozen 1; clear hr5 hw5 hk21)))
    all_goals (
      have K5 := Lib.hid (T4.out.rd W5.out GE.out)
      have B5 := Lib.hid (B4.out.trans ((W5.out.below (by omega)).mono (by omega)))
      go_wp2_with (fail)
      refine bodyPost_ret (v := .tuple #[.agg #[.int .i64 s, .slice (some ⟨b, off, none⟩) n c], .int .i64 k2]) (by simp [results, Try.results24, go_sem, qa, qb]) rfl ?_
      refine ⟨s, xs, (some ⟨b, off, none⟩), n, c, k2, rfl, hn2, ?_, ?_⟩
      · repeat' (first | with_reducible exact K5.out | refine TS.setCell ?_ ?_ _ | exact D2.out)
      · repeat' (first | with_reducible exact B5.out | refine Below.setCell ?_ ?_ _ | exact Nat.le_refl _))
end Go.Proofs.Ytleoncjdhlomaaa
