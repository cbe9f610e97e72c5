/-
  What draws a queue and an entry. (Its words were written by a program of my own.)
-/
import Derived.Test.YtmlnaijpbfddaaaDrawQ
namespace Go.Proofs.Ytmlnaijpbfddaaa
open Go.RowKit

theorem TS.setCellP {w : World} {A : Option Addr} {n c : Nat} {xs : List Tr} (h : TS w A n c xs) {p : Addr} (hd : 0 < n → Disj (some ⟨p.block, 0, none⟩) A) (u : Value) : TS (w.setCell p u) A n c xs := by
  rcases Nat.eq_zero_or_pos n with e | e
  · subst e
    exact ⟨h.1, h.2.1, h.2.2.1, fun h0 => absurd h0 (by omega), h.2.2.2.2⟩
  · exact h.setCell (hd e) u
theorem IS.setCellP {w : World} {A : Option Addr} {n c : Nat} {xs : List Int} (h : IS w A n c xs) {p : Addr} (hd : 0 < n → Disj (some ⟨p.block, 0, none⟩) A) (u : Value) : IS (w.setCell p u) A n c xs := by
  rcases Nat.eq_zero_or_pos n with e | e
  · subst e
    exact ⟨h.1, h.2.1, h.2.2.1, fun h0 => absurd h0 (by omega), h.2.2.2.2⟩
  · exact h.setCell (hd e) u
theorem TS.ltP {w : World} {A : Option Addr} {n c : Nat} {xs : List Tr} (h : TS w A n c xs) (h0 : 0 < n) : Lt A w.heap.size := fun p hp => by
  obtain ⟨b, off, x, e, _, hc, _⟩ := h.at_ h0
  rw [e] at hp
  cases hp
  exact World.block_lt_of_cell? w _ hc
theorem IS.ltP {w : World} {A : Option Addr} {n c : Nat} {xs : List Int} (h : IS w A n c xs) (h0 : 0 < n) : Lt A w.heap.size := fun p hp => by
  obtain ⟨b, off, x, e, _, hc⟩ := h.at_ h0
  rw [e] at hp
  cases hp
  exact World.block_lt_of_cell? w _ hc
/-- A drawn queue and entry. -/
def DrewQE (w : World) (e : Ending) (w' : World) : Prop :=
  ∃ xs sh db t A n c A2 n2 c2 A3 n3 c3, ∃ x : Tr, e = .returned (.tuple #[.agg #[.slice A n c, .slice A2 n2 c2, .slice A3 n3 c3, .int .i64 t], .agg #[.int .i64 x.a, .int .i64 x.b, .int .i64 x.c]]) ∧ n ≤ 11 ∧ n2 ≤ 4 ∧ n3 ≤ 4 ∧ (-1 ≤ t ∧ t ≤ 3) ∧ TS w' A n c xs ∧ IS w' A2 n2 c2 sh ∧ IS w' A3 n3 c3 db ∧ Below w.heap.size w w'
set_option maxHeartbeats 2000000 in
theorem spec_DrawPushEntry_any {A : Option Addr} {n c : Nat} {zs : List Int} (w : World) (h : BS w A n c zs) (hn : n ≤ 1048576) :
    Calls Try.prog 5 #[.slice A n c] w (DrewQE w) := by
  have H := Lib.hid h
  clear h
  go_enter Try.func5, Try.ntmps5
  go_wp2_with (fail)
  refine (newReader_any _ ((H.out.alloc _).alloc _) hn).mono ?_
  rintro e w1 ⟨rfl, hr1, hb1⟩
  have R1 : Hid (RD w1 48 (w.heap.size + 1 + 1) 0) := Lib.hid (by simpa using hr1)
  have b0 : Below w.heap.size w ((w.alloc (.cells #[.slice none 0 0, .slice none 0 0, .slice none 0 0, .int .i64 0] 26)).alloc (.cells #[.int .i64 0, .int .i64 0, .int .i64 0] 28)) := ((Below.refl _ _).alloc (Nat.le_refl _) _).alloc (by simp) _
  have B1 := Lib.hid (below_then b0 hb1)
  have Q1 := Lib.hid (((Blk.new w 26 #[.slice none 0 0, .slice none 0 0, .slice none 0 0, .int .i64 0]).alloc (.cells #[.int .i64 0, .int .i64 0, .int .i64 0] 28)).on hb1)
  have E1 : Hid (Blk w1 (w.heap.size + 1) 28 #[.int .i64 0, .int .i64 0, .int .i64 0]) := Lib.hid (Blk.on (by simpa using Blk.new (w.alloc (.cells #[.slice none 0 0, .slice none 0 0, .slice none 0 0, .int .i64 0] 26)) 28 #[.int .i64 0, .int .i64 0, .int .i64 0]) hb1)
  have hz1 := R1.out.lt
  clear hr1 hb1 b0
  go_wp2_with (fail)
  refine (anyQueue_any (w.heap.size + 1 + 1) 0 w1 R1.out (by omega)).mono ?_
  rintro e w2 ⟨xs, sh, db, t, A1, n1, c1, A2, n2, c2, A3, n3, c3, rfl, hn1, hn2, hn3, ⟨ht0, ht1⟩, i1, i2, i3, g1, g2, g3, hr2, hw2⟩
  have hsz2 := hw2.size
  have HL1 := Lib.hid (i1.ltP)
  have HL2 := Lib.hid (i2.ltP)
  have HL3 := Lib.hid (i3.ltP)
  have G1 := Lib.hid g1
  have G2 := Lib.hid g2
  have G3 := Lib.hid g3
  have I1 := Lib.hid (i1.alloc (.cells #[.slice A1 n1 c1, .slice A2 n2 c2, .slice A3 n3 c3, .int .i64 t] 26))
  have I2 := Lib.hid (i2.alloc (.cells #[.slice A1 n1 c1, .slice A2 n2 c2, .slice A3 n3 c3, .int .i64 t] 26))
  have I3 := Lib.hid (i3.alloc (.cells #[.slice A1 n1 c1, .slice A2 n2 c2, .slice A3 n3 c3, .int .i64 t] 26))
  have W2 := Lib.hid (hw2.alloc (.cells #[.slice A1 n1 c1, .slice A2 n2 c2, .slice A3 n3 c3, .int .i64 t] 26))
  have Q2 := Lib.hid ((Q1.out.rd hw2 (by omega)).alloc (.cells #[.slice A1 n1 c1, .slice A2 n2 c2, .slice A3 n3 c3, .int .i64 t] 26))
  have E2 := Lib.hid ((E1.out.rd hw2 (by omega)).alloc (.cells #[.slice A1 n1 c1, .slice A2 n2 c2, .slice A3 n3 c3, .int .i64 t] 26))
  have R2 := Lib.hid (hr2.below ((below_new w2 (.cells #[.slice A1 n1 c1, .slice A2 n2 c2, .slice A3 n3 c3, .int .i64 t] 26)).mono hr2.lt))
  have X2 := Lib.hid (Blk.new w2 26 #[.slice A1 n1 c1, .slice A2 n2 c2, .slice A3 n3 c3, .int .i64 t])
  clear i1 i2 i3 g1 g2 g3 hr2 hw2
  go_wp2_with (fail)
  refine (pick_any (w.heap.size + 1 + 1) _ 10 _ R2.out (by omega) (by omega)).mono ?_
  rintro e w3 ⟨ya, rfl, hya0, hya1, hr3, hw3⟩
  have hya2 := hya1 (by omega)
  have R3 := Lib.hid hr3
  have hs3 := hw3.size
  have U3 := Lib.hid hw3
  clear hya1 hr3 hw3
  go_wp2_with (fail)
  refine (pick_any (w.heap.size + 1 + 1) _ 3 _ R3.out (by omega) (by omega)).mono ?_
  rintro e w4 ⟨yb, rfl, hyb0, hyb1, hr4, hw4⟩
  have hyb2 := hyb1 (by omega)
  have R4 := Lib.hid hr4
  have hs4 := hw4.size
  have U4 := Lib.hid (U3.out.trans hw4)
  clear hyb1 hr4 hw4
  go_wp2_with (fail)
  refine (pick_any (w.heap.size + 1 + 1) _ 20 _ R4.out (by omega) (by omega)).mono ?_
  rintro e w5 ⟨yc, rfl, hyc0, hyc1, hr5, hw5⟩
  have hyc2 := hyc1 (by omega)
  have R5 := Lib.hid hr5
  have hs5 := hw5.size
  have U5 := Lib.hid (U4.out.trans hw5)
  clear hyc1 hr5 hw5
  go_wp2_with (fail)
  refine (pick_any (w.heap.size + 1 + 1) _ 10 _ (R5.out.below ((below_new w5 (.cells #[.int .i64 ya, .int .i64 yb, .int .i64 (1 + yc)] 28)).mono R5.out.lt)) (by omega) (by omega)).mono ?_
  rintro e w6 ⟨k, rfl, hk0, hk1, hr6, hw6⟩
  have V6 := Lib.hid ((U5.out.alloc (.cells #[.int .i64 ya, .int .i64 yb, .int .i64 (1 + yc)] 28)).trans hw6)
  have R6 := Lib.hid hr6
  have Y6 := Lib.hid ((Blk.new w5 28 #[.int .i64 ya, .int .i64 yb, .int .i64 (1 + yc)]).rd hw6 (by have := U5.out.size; simp at this; omega))
  have hs6 := hw6.size
  simp at hs6
  simp at hs3
  clear hr6 hw6 hk1
  have W6 := Lib.hid (W2.out.trans V6.out)
  have X6 := Lib.hid (X2.out.rd V6.out (by omega))
  have Q6 := Lib.hid (Q2.out.rd V6.out (by omega))
  have E6 := Lib.hid (E2.out.rd V6.out (by omega))
  have J1 := Lib.hid (I1.out.rd V6.out (G1.out.mono (by omega)))
  have J2 := Lib.hid (I2.out.rd V6.out (G2.out.mono (by omega)))
  have J3 := Lib.hid (I3.out.rd V6.out (G3.out.mono (by omega)))
  have D1 : Hid (Disj (some ⟨w.heap.size, 0, none⟩) A1) := Lib.hid (qfar (show w.heap.size < w1.heap.size by omega) G1.out)
  have D2 : Hid (Disj (some ⟨w.heap.size, 0, none⟩) A2) := Lib.hid (qfar (show w.heap.size < w1.heap.size by omega) G2.out)
  have D3 : Hid (Disj (some ⟨w.heap.size, 0, none⟩) A3) := Lib.hid (qfar (show w.heap.size < w1.heap.size by omega) G3.out)
  have F1 : Hid (Disj (some ⟨w.heap.size + 1, 0, none⟩) A1) := Lib.hid (qfar (show w.heap.size + 1 < w1.heap.size by omega) G1.out)
  have F2 : Hid (Disj (some ⟨w.heap.size + 1, 0, none⟩) A2) := Lib.hid (qfar (show w.heap.size + 1 < w1.heap.size by omega) G2.out)
  have F3 : Hid (Disj (some ⟨w.heap.size + 1, 0, none⟩) A3) := Lib.hid (qfar (show w.heap.size + 1 < w1.heap.size by omega) G3.out)
  have BB := Lib.hid (B1.out.trans ((W6.out.below (by omega)).mono (by omega)))
  have hq1 : w.heap.size ≠ w2.heap.size := by omega
  have hq2 : w.heap.size + 1 ≠ w2.heap.size := by omega
  have hq3 : w.heap.size ≠ w5.heap.size := by omega
  have hq4 : w.heap.size + 1 ≠ w5.heap.size := by omega
  have hq5 : w2.heap.size ≠ w5.heap.size := by omega
  clear I1 I2 I3 Q1 E1 Q2 E2 X2 B1 R1 R2 R3 R4 R5 W2 U3 U4 U5 V6
  by_cases kk : k = 0
  · subst kk
    have hk : ((0 : Int) == 0) = true := by simp
    go_wp2_with (fail)
    refine (one_any (xs := [100, 5]) (fun _ => True) (w.heap.size + 1 + 1) _ _ (R6.out.below ((below_new w6 _).mono (R6.out.lt))) (by omega) (by simpa using OW.lit w6 3 (w.heap.size + 1 + 1 + 1) [100, 5] (R6.out.lt) (by simp)) (by omega) (by omega) (by simp)).mono ?_
    rintro e w7 ⟨va, rfl, _, hr7, hw7⟩
    have R7 := Lib.hid hr7
    have U7 := Lib.hid ((Rd.of_below (below_new w6 (.cells #[.int .i64 100, .int .i64 5] 3))).trans hw7)
    clear hr7 hw7
    go_wp2_with (fail)
    refine (one_any (xs := [3, 0]) (fun _ => True) (w.heap.size + 1 + 1) _ _ (R7.out.below ((below_new w7 _).mono (R7.out.lt))) (by omega) (by simpa using OW.lit w7 3 (w.heap.size + 1 + 1 + 1) [3, 0] (R7.out.lt) (by simp)) (by omega) (by omega) (by simp)).mono ?_
    rintro e w8 ⟨vb, rfl, _, hr8, hw8⟩
    have R8 := Lib.hid hr8
    have U8 := Lib.hid ((Rd.of_below (below_new w7 (.cells #[.int .i64 3, .int .i64 0] 3))).trans hw8)
    clear hr8 hw8
    go_wp2_with (fail)
    refine (one_any (xs := [0, 21, 5]) (fun _ => True) (w.heap.size + 1 + 1) _ _ (R8.out.below ((below_new w8 _).mono (R8.out.lt))) (by omega) (by simpa using OW.lit w8 3 (w.heap.size + 1 + 1 + 1) [0, 21, 5] (R8.out.lt) (by simp)) (by omega) (by omega) (by simp)).mono ?_
    rintro e w9 ⟨vc, rfl, _, hr9, hw9⟩
    have R9 := Lib.hid hr9
    have U9 := Lib.hid ((Rd.of_below (below_new w8 (.cells #[.int .i64 0, .int .i64 21, .int .i64 5] 3))).trans hw9)
    clear hr9 hw9
    have V9 := Lib.hid (U7.out.trans (U8.out.trans U9.out))
    have X9 := Lib.hid (X6.out.rd V9.out (by omega))
    have Y9 := Lib.hid (Y6.out.rd V9.out (by omega))
    have Q9 := Lib.hid (Q6.out.rd V9.out (by omega))
    have E9 := Lib.hid (E6.out.rd V9.out (by omega))
    have L1 := Lib.hid (J1.out.rd V9.out (G1.out.mono (by omega)))
    have L2 := Lib.hid (J2.out.rd V9.out (G2.out.mono (by omega)))
    have L3 := Lib.hid (J3.out.rd V9.out (G3.out.mono (by omega)))
    have B9 := Lib.hid (BB.out.trans ((V9.out.below (by have := Q6.out.lt; omega)).mono (by omega)))
    clear U7 U8 U9 V9 X6 Y6 Q6 E6 J1 J2 J3 BB R6 R7 R8 R9
    obtain ⟨xa, xb, xc, xd⟩ := X9.out.c4
    obtain ⟨za, zb, zc⟩ := Y9.out.c3
    have z0 := Y9.out.frozen 0
    have z1 := Y9.out.frozen 1
    have z2 := Y9.out.frozen 2
    obtain ⟨qa, qb, qc, qd⟩ := Q9.out.c4
    obtain ⟨ea, eb, ec⟩ := E9.out.c3
    have f0 := Q9.out.frozen 0
    have f1 := Q9.out.frozen 1
    have f2 := Q9.out.frozen 2
    have f3 := Q9.out.frozen 3
    have u0 := E9.out.frozen 0
    have u1 := E9.out.frozen 1
    have u2 := E9.out.frozen 2
    have F4 : Hid (0 < n1 → Disj (some ⟨w5.heap.size, 0, none⟩) A1) := Lib.hid (fun h0 => qup (by omega) (HL1.out h0))
    have F5 : Hid (0 < n2 → Disj (some ⟨w5.heap.size, 0, none⟩) A2) := Lib.hid (fun h0 => qup (by omega) (HL2.out h0))
    have F6 : Hid (0 < n3 → Disj (some ⟨w5.heap.size, 0, none⟩) A3) := Lib.hid (fun h0 => qup (by omega) (HL3.out h0))
    go_wp2_with (fail)
    go_region
    go_wp2_with (fail)
    refine bodyPost_ret (v := .tuple #[.agg #[.slice A1 n1 c1, .slice A2 n2 c2, .slice A3 n3 c3, .int .i64 t], .agg #[.int .i64 va, .int .i64 vb, .int .i64 vc]]) (by simp [results, Try.results5, go_sem, qa, qb, qc, qd, ea, eb, ec]) rfl ?_
    refine ⟨xs, sh, db, t, A1, n1, c1, A2, n2, c2, A3, n3, c3, ⟨va, vb, vc⟩, rfl, hn1, hn2, hn3, ⟨ht0, ht1⟩, TS.drew ?_, IS.drew ?_, IS.drew ?_, Below.drew ?_⟩
    · repeat' (first | with_reducible exact L1.out | refine TS.setCellP ?_ ?_ _ | exact D1.out | exact fun _ => D1.out | exact fun _ => F1.out | exact F4.out)
    · repeat' (first | with_reducible exact L2.out | refine IS.setCellP ?_ ?_ _ | exact D2.out | exact fun _ => D2.out | exact fun _ => F2.out | exact F5.out)
    · repeat' (first | with_reducible exact L3.out | refine IS.setCellP ?_ ?_ _ | exact D3.out | exact fun _ => D3.out | exact fun _ => F3.out | exact F6.out)
    · repeat' (first | with_reducible exact B9.out | refine Below.setCell ?_ ?_ _ | exact Nat.le_refl _ | exact Nat.le_succ _ | (show w.heap.size ≤ w5.heap.size; omega))
  · have hk : (k == 0) = false := by simpa using kk
    obtain ⟨xa, xb, xc, xd⟩ := X6.out.c4
    obtain ⟨za, zb, zc⟩ := Y6.out.c3
    obtain ⟨qa, qb, qc, qd⟩ := Q6.out.c4
    obtain ⟨ea, eb, ec⟩ := E6.out.c3
    have f0 := Q6.out.frozen 0
    have f1 := Q6.out.frozen 1
    have f2 := Q6.out.frozen 2
    have f3 := Q6.out.frozen 3
    have u0 := E6.out.frozen 0
    have u1 := E6.out.frozen 1
    have u2 := E6.out.frozen 2
    go_wp2_with (fail)
    go_region
    go_wp2_with (fail)
    refine bodyPost_ret (v := .tuple #[.agg #[.slice A1 n1 c1, .slice A2 n2 c2, .slice A3 n3 c3, .int .i64 t], .agg #[.int .i64 ya, .int .i64 yb, .int .i64 (1 + yc)]]) (by simp [results, Try.results5, go_sem, qa, qb, qc, qd, ea, eb, ec]) rfl ?_
    refine ⟨xs, sh, db, t, A1, n1, c1, A2, n2, c2, A3, n3, c3, ⟨ya, yb, (1 + yc)⟩, rfl, hn1, hn2, hn3, ⟨ht0, ht1⟩, TS.drew ?_, IS.drew ?_, IS.drew ?_, Below.drew ?_⟩
    · repeat' (first | with_reducible exact J1.out | refine TS.setCell ?_ ?_ _ | exact D1.out | exact F1.out)
    · repeat' (first | with_reducible exact J2.out | refine IS.setCell ?_ ?_ _ | exact D2.out | exact F2.out)
    · repeat' (first | with_reducible exact J3.out | refine IS.setCell ?_ ?_ _ | exact D3.out | exact F3.out)
    · repeat' (first | with_reducible exact BB.out | refine Below.setCell ?_ ?_ _ | exact Nat.le_refl _ | exact Nat.le_succ _)
end Go.Proofs.Ytmlnaijpbfddaaa
