/-
  Contracts of the laws' functions on queues: size, copy, comparison, marks.
-/
import Derived.Test.YtccgfeenjffnpaaEnW
import Derived.Test.YtccgfeenjffnpaaQuV
namespace Go.Proofs.Ytccgfeenjffnpaa
open Go.RowKit
/-- A call has handed back a queue with new memory. -/
def GaveQu (T TI : Nat) (w : World) (xs : List Tr) (sh db : List Int) (t : Int) (e : Ending) (w' : World) : Prop :=
  ∃ A1 n1 c1 A2 n2 c2 A3 n3 c3, e = .returned (.agg #[.slice A1 n1 c1, .slice A2 n2 c2, .slice A3 n3 c3, .int .i64 t]) ∧ OT w' T w.heap.size A1 n1 c1 xs ∧ OW w' TI w.heap.size A2 n2 c2 sh ∧ OW w' TI w.heap.size A3 n3 c3 db ∧ Disj A1 A2 ∧ Disj A1 A3 ∧ Disj A2 A3 ∧ Below w.heap.size w w'
set_option maxHeartbeats 1000000 in
theorem laws_szQueue_any {A A2 A3 : Option Addr} {n c n2 c2 n3 c3 : Nat} (t left : Int) (w : World) (h1 : n ≤ 9223372036854775807) (h1' : n2 ≤ 9223372036854775807) (h1'' : n3 ≤ 9223372036854775807) (h2 : 0 ≤ left) (h3 : left ≤ 1048576) :
    Calls Try.prog 13 #[.agg #[.slice A n c, .slice A2 n2 c2, .slice A3 n3 c3, .int .i64 t], .int .i64 left] w fun e w' => e = .returned (.int .i64 (szL left (n + n2 + n3))) ∧ Below w.heap.size w w' := by
  rcases Int.lt_or_le left (n : Int) with h | h
  · have he := Lib.hid (szL_lo h)
    have hr : Hid (szL left (n + n2 + n3) = -1) := Lib.hid (szL_lo (by omega))
    go_enter Try.func13, Try.ntmps13
    go_wp2_with (go_at_call 36; refine (laws_szEntryS_any _ _ h1 h2 h3).mono ?_; rintro e w' ⟨rfl, rfl⟩; rw [he.out])
    go_ret
    exact ⟨ret_int hr.out.symm, below_new _ _⟩
  have he := Lib.hid (szL_hi h)
  have hx : 0 ≤ left - (n : Int) := by omega
  have hx1 : left - (n : Int) ≤ 1048576 := by omega
  rcases Int.lt_or_le (left - (n : Int)) (n2 : Int) with h' | h'
  · have he' := Lib.hid (szL_lo h')
    have hr : Hid (szL left (n + n2 + n3) = -1) := Lib.hid (szL_lo (by omega))
    go_enter Try.func13, Try.ntmps13
    go_wp2_with (first | (go_at_call 36; refine (laws_szEntryS_any _ _ h1 h2 h3).mono ?_; rintro e w' ⟨rfl, rfl⟩; rw [he.out]) | (go_at_call 48; with_reducible refine (laws_szIntS_any (left - (n : Int)) _ h1' hx hx1).mono ?_; rintro e w' ⟨rfl, rfl⟩; rw [he'.out]))
    go_ret
    exact ⟨ret_int hr.out.symm, below_new _ _⟩
  have he' := Lib.hid (szL_hi h')
  have hx2 : 0 ≤ left - (n : Int) - (n2 : Int) := by omega
  have hx3 : left - (n : Int) - (n2 : Int) ≤ 1048576 := by omega
  rcases Int.lt_or_le (left - (n : Int) - (n2 : Int)) (n3 : Int) with h'' | h''
  · have he'' := Lib.hid (szL_lo h'')
    have hr : Hid (szL left (n + n2 + n3) = -1) := Lib.hid (szL_lo (by omega))
    go_enter Try.func13, Try.ntmps13
    go_wp2_with (first | (go_at_call 36; refine (laws_szEntryS_any _ _ h1 h2 h3).mono ?_; rintro e w' ⟨rfl, rfl⟩; rw [he.out]) | (go_at_call 48; with_reducible refine (laws_szIntS_any (left - (n : Int)) _ h1' hx hx1).mono ?_; rintro e w' ⟨rfl, rfl⟩; rw [he'.out]) | (go_at_call 48; with_reducible refine (laws_szIntS_any (left - (n : Int) - (n2 : Int)) _ h1'' hx2 hx3).mono ?_; rintro e w' ⟨rfl, rfl⟩; rw [he''.out]))
    go_ret
    exact ⟨ret_int hr.out.symm, below_new _ _⟩
  · have he'' := Lib.hid (szL_hi h'')
    have hr : Hid (szL left (n + n2 + n3) = left - (n : Int) - (n2 : Int) - (n3 : Int)) := Lib.hid (by rw [szL_hi (by omega)]; omega)
    have hx4 : 0 ≤ left - (n : Int) - (n2 : Int) - (n3 : Int) := by omega
    go_enter Try.func13, Try.ntmps13
    go_wp2_with (first | (go_at_call 36; refine (laws_szEntryS_any _ _ h1 h2 h3).mono ?_; rintro e w' ⟨rfl, rfl⟩; rw [he.out]) | (go_at_call 48; with_reducible refine (laws_szIntS_any (left - (n : Int)) _ h1' hx hx1).mono ?_; rintro e w' ⟨rfl, rfl⟩; rw [he'.out]) | (go_at_call 48; with_reducible refine (laws_szIntS_any (left - (n : Int) - (n2 : Int)) _ h1'' hx2 hx3).mono ?_; rintro e w' ⟨rfl, rfl⟩; rw [he''.out]))
    go_ret
    exact ⟨ret_int hr.out.symm, below_new _ _⟩
set_option maxHeartbeats 2000000 in
theorem laws_toQueue_any {A A2 A3 : Option Addr} {n c n2 c2 n3 c3 : Nat} {xs : List Tr} {sh db : List Int} (t : Int) (w : World) (h : TS w A n c xs) (h2 : IS w A2 n2 c2 sh) (h3 : IS w A3 n3 c3 db) (hn : n ≤ 1048576) (hn2 : n2 ≤ 1073741824) (hn3 : n3 ≤ 1073741824) :
    Calls Try.prog 15 #[.agg #[.slice A n c, .slice A2 n2 c2, .slice A3 n3 c3, .int .i64 t]] w (GaveQu 38 3 w xs sh db t) := by
  have H := Lib.hid h
  have H2 := Lib.hid h2
  have H3 := Lib.hid h3
  clear h h2 h3
  go_enter Try.func15, Try.ntmps15
  go_wp2_with (fail)
  refine (laws_toEntryS_any _ (H.out.below ((((Below.refl _ _).alloc (by simp) _).alloc (by simp; try omega) _).alloc (by simp; try omega) _) (Nat.le_refl _)) hn).mono ?_
  rintro e w1 ⟨D1, m1, d1, rfl, ho1, hb1⟩
  have hz := hb1.size
  simp at hz
  have O1 := Lib.hid ho1
  have B1 : Hid (Below w.heap.size w w1) := Lib.hid (Below.trans ((((Below.refl _ _).alloc (by simp) _).alloc (by simp; try omega) _).alloc (by simp; try omega) _) (hb1.mono (by simp; try omega)))
  have P1 : Hid (Blk w1 w.heap.size 25 #[.slice A n c, .slice A2 n2 c2, .slice A3 n3 c3, .int .i64 t]) := Lib.hid ((((Blk.new w _ _).alloc _).alloc _).on hb1)
  have Q1 : Hid (Blk w1 (w.heap.size + 1) 30 #[.slice none 0 0, .slice none 0 0, .slice none 0 0, .int .i64 0]) := Lib.hid (((by simpa using Blk.new (w.alloc (.cells #[.slice A n c, .slice A2 n2 c2, .slice A3 n3 c3, .int .i64 t] 25)) 30 #[.slice none 0 0, .slice none 0 0, .slice none 0 0, .int .i64 0] : Blk _ (w.heap.size + 1) _ _).alloc _).on hb1)
  have X1 : Hid (Blk w1 (w.heap.size + 1 + 1) 30 #[.slice none 0 0, .slice none 0 0, .slice none 0 0, .int .i64 0]) := Lib.hid ((by simpa using Blk.new ((w.alloc (.cells #[.slice A n c, .slice A2 n2 c2, .slice A3 n3 c3, .int .i64 t] 25)).alloc (.cells #[.slice none 0 0, .slice none 0 0, .slice none 0 0, .int .i64 0] 30)) 30 #[.slice none 0 0, .slice none 0 0, .slice none 0 0, .int .i64 0] : Blk _ (w.heap.size + 1 + 1) _ _).on hb1)
  clear ho1 hb1
  obtain ⟨p0, p1, p2, p3⟩ := P1.out.c4
  obtain ⟨x0, x1, x2, x3⟩ := X1.out.c4
  have f1 := X1.out.frozen 0
  go_wp2_with (fail)
  refine (laws_toIntS_any _ (H2.out.below (B1.out.setCell (by simp; try omega) _) (Nat.le_refl _)) hn2).mono ?_
  rintro e w2 ⟨D2, m2, d2, rfl, ho2, hb2⟩
  have hz2 := hb2.size
  simp at hz2
  have O2 := Lib.hid ho2
  have B2 := Lib.hid ((B1.out.setCell (p := ⟨w.heap.size + 1 + 1, 0, none⟩) (by simp; try omega) (.slice D1 m1 d1)).trans (hb2.mono (by simp; omega)))
  have X2 : Hid (Blk w2 (w.heap.size + 1 + 1) 30 #[.slice D1 m1 d1, .slice none 0 0, .slice none 0 0, .int .i64 0]) := Lib.hid ((X1.out.set_ 0 (.slice D1 m1 d1)).on hb2)
  have P2 := Lib.hid ((P1.out.far (p := ⟨w.heap.size + 1 + 1, 0, none⟩) (by simp; try omega) (.slice D1 m1 d1)).on hb2)
  have Q2 := Lib.hid ((Q1.out.far (p := ⟨w.heap.size + 1 + 1, 0, none⟩) (by simp; try omega) (.slice D1 m1 d1)).on hb2)
  have O1b := Lib.hid ((O1.out.setCell (p := ⟨w.heap.size + 1 + 1, 0, none⟩) (by simp; try omega) (.slice D1 m1 d1)).below hb2 (Nat.le_refl _))
  have J12 : Hid (Disj D1 D2) := Lib.hid (Disj.mk (O1.out.lt) (O2.out.ge.mono (by simp)))
  clear ho2 hb2 p0 p1 p2 p3 x0 x1 x2 x3 f1 O1 P1 Q1 X1
  obtain ⟨p0, p1, p2, p3⟩ := P2.out.c4
  obtain ⟨x0, x1, x2, x3⟩ := X2.out.c4
  have f1 := X2.out.frozen 1
  go_wp2_with (fail)
  refine (laws_toIntS_any _ (H3.out.below (B2.out.setCell (by simp; try omega) _) (Nat.le_refl _)) hn3).mono ?_
  rintro e w3 ⟨D3, m3, d3, rfl, ho3, hb3⟩
  have hz3 := hb3.size
  simp at hz3
  have O3 := Lib.hid ho3
  have B3 := Lib.hid ((B2.out.setCell (p := ⟨w.heap.size + 1 + 1, 1, none⟩) (by simp; try omega) (.slice D2 m2 d2)).trans (hb3.mono (by simp; omega)))
  have X3 : Hid (Blk w3 (w.heap.size + 1 + 1) 30 #[.slice D1 m1 d1, .slice D2 m2 d2, .slice none 0 0, .int .i64 0]) := Lib.hid ((X2.out.set_ 1 (.slice D2 m2 d2)).on hb3)
  have P3 := Lib.hid ((P2.out.far (p := ⟨w.heap.size + 1 + 1, 1, none⟩) (by simp; try omega) (.slice D2 m2 d2)).on hb3)
  have Q3 := Lib.hid ((Q2.out.far (p := ⟨w.heap.size + 1 + 1, 1, none⟩) (by simp; try omega) (.slice D2 m2 d2)).on hb3)
  have O1c := Lib.hid ((O1b.out.setCell (p := ⟨w.heap.size + 1 + 1, 1, none⟩) (by simp; try omega) (.slice D2 m2 d2)).below hb3 (Nat.le_refl _))
  have O2c := Lib.hid ((O2.out.setCell (p := ⟨w.heap.size + 1 + 1, 1, none⟩) (by simp; try omega) (.slice D2 m2 d2)).below hb3 (Nat.le_refl _))
  have J13 : Hid (Disj D1 D3) := Lib.hid (Disj.mk (O1b.out.lt) (O3.out.ge.mono (by simp)))
  have J23 : Hid (Disj D2 D3) := Lib.hid (Disj.mk (O2.out.lt) (O3.out.ge.mono (by simp)))
  clear ho3 hb3 p0 p1 p2 p3 x0 x1 x2 x3 f1 O2 P2 Q2 X2 O1b
  obtain ⟨p0, p1, p2, p3⟩ := P3.out.c4
  obtain ⟨x0, x1, x2, x3⟩ := X3.out.c4
  obtain ⟨q0, q1, q2, q3⟩ := Q3.out.c4
  have f0 := Q3.out.frozen 0
  have f1 := Q3.out.frozen 1
  have f2 := Q3.out.frozen 2
  have f3 := Q3.out.frozen 3
  have g2 := X3.out.frozen 2
  have g3 := X3.out.frozen 3
  go_wp2_with (fail)
  refine bodyPost_ret (v := .agg #[.slice D1 m1 d1, .slice D2 m2 d2, .slice D3 m3 d3, .int .i64 t]) (by simp [results, Try.results15, go_sem, q0, q1, q2, q3]) rfl ?_
  refine ⟨_, _, _, _, _, _, _, _, _, rfl, ?_, ?_, ?_, J12.out, J13.out, J23.out, ?_⟩
  · refine OT.base_le (base := w.heap.size + 1 + 1 + 1) ?_ (by omega)
    repeat (refine OT.setCell ?_ (by simp; try omega) _)
    simpa using O1c.out
  · refine OW.base_le (base := w.heap.size + 1 + 1 + 1) ?_ (by omega)
    repeat (refine OW.setCell ?_ (by simp; try omega) _)
    exact O2c.out.base_le (by simp; omega)
  · refine OW.base_le (base := w.heap.size + 1 + 1 + 1) ?_ (by omega)
    repeat (refine OW.setCell ?_ (by simp; try omega) _)
    exact O3.out.base_le (by simp; omega)
  · repeat (refine Below.setCell ?_ (by simp; try omega) _)
    exact B3.out
set_option maxHeartbeats 2000000 in
theorem laws_eqQueue_same {A A2 A3 E1 E2 E3 : Option Addr} {n c n2 c2 n3 c3 m1 d1 m2 d2 m3 d3 : Nat} {xs : List Tr} {sh db : List Int} (t : Int) (w : World) (h1 : TS w A n c xs) (h2 : IS w A2 n2 c2 sh) (h3 : IS w A3 n3 c3 db) (h4 : TS w E1 m1 d1 xs) (h5 : IS w E2 m2 d2 sh) (h6 : IS w E3 m3 d3 db) :
    Calls Try.prog 17 #[.agg #[.slice A n c, .slice A2 n2 c2, .slice A3 n3 c3, .int .i64 t], .agg #[.slice E1 m1 d1, .slice E2 m2 d2, .slice E3 m3 d3, .int .i64 t]] w fun e w' => e = .returned (.bool true) ∧ Below w.heap.size w w' := by
  have H1 := Lib.hid ((h1.alloc (.cells #[.slice A n c, .slice A2 n2 c2, .slice A3 n3 c3, .int .i64 t] 30)).alloc (.cells #[.slice E1 m1 d1, .slice E2 m2 d2, .slice E3 m3 d3, .int .i64 t] 30))
  have H2 := Lib.hid ((h2.alloc (.cells #[.slice A n c, .slice A2 n2 c2, .slice A3 n3 c3, .int .i64 t] 30)).alloc (.cells #[.slice E1 m1 d1, .slice E2 m2 d2, .slice E3 m3 d3, .int .i64 t] 30))
  have H3 := Lib.hid ((h3.alloc (.cells #[.slice A n c, .slice A2 n2 c2, .slice A3 n3 c3, .int .i64 t] 30)).alloc (.cells #[.slice E1 m1 d1, .slice E2 m2 d2, .slice E3 m3 d3, .int .i64 t] 30))
  have H4 := Lib.hid ((h4.alloc (.cells #[.slice A n c, .slice A2 n2 c2, .slice A3 n3 c3, .int .i64 t] 30)).alloc (.cells #[.slice E1 m1 d1, .slice E2 m2 d2, .slice E3 m3 d3, .int .i64 t] 30))
  have H5 := Lib.hid ((h5.alloc (.cells #[.slice A n c, .slice A2 n2 c2, .slice A3 n3 c3, .int .i64 t] 30)).alloc (.cells #[.slice E1 m1 d1, .slice E2 m2 d2, .slice E3 m3 d3, .int .i64 t] 30))
  have H6 := Lib.hid ((h6.alloc (.cells #[.slice A n c, .slice A2 n2 c2, .slice A3 n3 c3, .int .i64 t] 30)).alloc (.cells #[.slice E1 m1 d1, .slice E2 m2 d2, .slice E3 m3 d3, .int .i64 t] 30))
  clear h1 h2 h3 h4 h5 h6
  have e1 : (t != t) = false := by simp
  have P0 := Lib.hid ((Blk.new w 30 #[.slice A n c, .slice A2 n2 c2, .slice A3 n3 c3, .int .i64 t]).alloc (.cells #[.slice E1 m1 d1, .slice E2 m2 d2, .slice E3 m3 d3, .int .i64 t] 30))
  have Q0 : Hid (Blk _ (w.heap.size + 1) 30 #[.slice E1 m1 d1, .slice E2 m2 d2, .slice E3 m3 d3, .int .i64 t]) := Lib.hid (by simpa using Blk.new (w.alloc (.cells #[.slice A n c, .slice A2 n2 c2, .slice A3 n3 c3, .int .i64 t] 30)) 30 #[.slice E1 m1 d1, .slice E2 m2 d2, .slice E3 m3 d3, .int .i64 t])
  have HB := Lib.hid (((Below.refl w.heap.size w).alloc (Nat.le_refl _) (.cells #[.slice A n c, .slice A2 n2 c2, .slice A3 n3 c3, .int .i64 t] 30)).alloc (by simp) (.cells #[.slice E1 m1 d1, .slice E2 m2 d2, .slice E3 m3 d3, .int .i64 t] 30))
  go_enter Try.func17, Try.ntmps17
  go_wp2_with (fail)
  refine (laws_eqEntryS_same _ H1.out H4.out).mono ?_
  rintro e w1 ⟨rfl, hb⟩
  have BB := Lib.hid (HB.out.trans (hb.mono HB.out.size))
  have P1 := Lib.hid (P0.out.on hb)
  have Q1 := Lib.hid (Q0.out.on hb)
  have I2 := Lib.hid (H2.out.below hb (Nat.le_refl _))
  have I3 := Lib.hid (H3.out.below hb (Nat.le_refl _))
  have I5 := Lib.hid (H5.out.below hb (Nat.le_refl _))
  have I6 := Lib.hid (H6.out.below hb (Nat.le_refl _))
  clear hb
  obtain ⟨p0, p1, p2, p3⟩ := P1.out.c4
  obtain ⟨q0, q1, q2, q3⟩ := Q1.out.c4
  have pl := P1.out.lt
  have ql := Q1.out.lt
  go_wp2_with (fail)
  refine (call_b (laws_eqIntS_any _ I2.out I5.out) (decide_eq_true rfl)).mono ?_
  rintro e w' ⟨rfl, k1, rfl⟩
  go_wp2_with (fail)
  refine (call_b (laws_eqIntS_any _ (I3.out.drewN k1) (I6.out.drewN k1)) (decide_eq_true rfl)).mono ?_
  rintro e w' ⟨rfl, k2, rfl⟩
  go_wp2_with (fail)
  go_ret
  exact ⟨rfl, by first | exact below_drewN BB.out _ | exact below_drewN (below_drewN BB.out _) _⟩
set_option maxHeartbeats 1000000 in
theorem laws_markQueue_any {base : Nat} {A A2 A3 : Option Addr} {n c n2 c2 n3 c3 : Nat} {xs : List Tr} {sh db : List Int} (t k : Int) (w : World) (h : OT w 38 base A n c xs) (h2 : OW w 3 base A2 n2 c2 sh) (h3 : OW w 3 base A3 n3 c3 db) (j12 : Disj A A2) (j13 : Disj A A3) (j23 : Disj A2 A3) (hn : n ≤ 1048576) (hn2 : n2 ≤ 1048576) (hn3 : n3 ≤ 1048576) (hk0 : 0 ≤ k) (hk1 : k ≤ 1099511627) :
    Calls Try.prog 21 #[.agg #[.slice A n c, .slice A2 n2 c2, .slice A3 n3 c3, .int .i64 t], .int .i64 k] w fun e w' => e = .returned (.int .i64 (k + 3 * (n : Int) + n2 + n3)) ∧ OT w' 38 base A n c (marks3 k n) ∧ OW w' 3 base A2 n2 c2 (marks (k + 3 * (n : Int)) n2) ∧ OW w' 3 base A3 n3 c3 (marks (k + 3 * (n : Int) + n2) n3) ∧ ∃ wm wn, Row w wm A ∧ Row wm wn A2 ∧ Row wn w' A3 := by
  have H := Lib.hid h
  have H2 := Lib.hid h2
  have H3 := Lib.hid h3
  have J12 := Lib.hid j12
  have J13 := Lib.hid j13
  have J23 := Lib.hid j23
  clear h h2 h3 j12 j13 j23
  go_enter Try.func21, Try.ntmps21
  go_wp2_with (fail)
  refine (laws_markEntryS_any _ _ (H.out.alloc _) (by omega) hk0 (by omega)).mono ?_
  rintro e w1 ⟨rfl, ho, hr⟩
  have O1 := Lib.hid ho
  have R1 := Lib.hid hr
  have K := Lib.hid ((Blk.new w 30 #[.slice A n c, .slice A2 n2 c2, .slice A3 n3 c3, .int .i64 t]).away hr (Disj.mk (B := w.heap.size) H.out.lt (fun p hp => by cases hp; exact Nat.le_refl _)).symm)
  have O2 := Lib.hid ((H2.out.alloc _).away hr J12.out.symm)
  have O3 := Lib.hid ((H3.out.alloc _).away hr J13.out.symm)
  have L2 := Lib.hid H2.out.lt
  clear ho hr
  obtain ⟨k0, k1, k2, k3⟩ := K.out.c4
  go_wp2_with (fail)
  refine (laws_markIntS_any _ _ O2.out (by omega) (by omega) (by omega)).mono ?_
  rintro e w2 ⟨rfl, ho, hr⟩
  have P2 := Lib.hid ho
  have R2 := Lib.hid hr
  have K2 := Lib.hid (K.out.away hr (Disj.mk (B := w.heap.size) L2.out (fun p hp => by cases hp; exact Nat.le_refl _)).symm)
  have P1 := Lib.hid (O1.out.away hr J12.out)
  have P3 := Lib.hid (O3.out.away hr J23.out.symm)
  clear ho hr k0 k1 k2 k3
  obtain ⟨k0, k1, k2, k3⟩ := K2.out.c4
  go_wp2_with (fail)
  refine (laws_markIntS_any _ _ P3.out (by omega) (by omega) (by omega)).mono ?_
  rintro e w3 ⟨rfl, ho, hr⟩
  have Q3 := Lib.hid ho
  have R3 := Lib.hid hr
  have Q1 := Lib.hid (P1.out.away hr J13.out)
  have Q2 := Lib.hid (P2.out.away hr J23.out)
  clear ho hr k0 k1 k2 k3
  go_wp2_with (fail)
  go_ret
  exact ⟨rfl, Q1.out, Q2.out, Q3.out, w1, w2, (World.grownBy_alloc _ _ _).trans R1.out, R2.out, R3.out⟩
set_option maxHeartbeats 1000000 in
theorem laws_heldQueue_any {A A2 A3 : Option Addr} {n c n2 c2 n3 c3 : Nat} (t k : Int) (w : World) (h : TS w A n c (marks3 k n)) (h2 : IS w A2 n2 c2 (marks (k + 3 * (n : Int)) n2)) (h3 : IS w A3 n3 c3 (marks (k + 3 * (n : Int) + n2) n3)) (hn : n ≤ 1048576) (hn2 : n2 ≤ 1048576) (hn3 : n3 ≤ 1048576) (hk0 : 0 ≤ k) (hk1 : k ≤ 1099511627) :
    Calls Try.prog 22 #[.agg #[.slice A n c, .slice A2 n2 c2, .slice A3 n3 c3, .int .i64 t], .int .i64 k] w fun e w' => e = .returned (.int .i64 (k + 3 * (n : Int) + n2 + n3)) ∧ Below w.heap.size w w' := by
  have H := Lib.hid h
  have H2 := Lib.hid h2
  have H3 := Lib.hid h3
  clear h h2 h3
  go_enter Try.func22, Try.ntmps22
  go_wp2_with (fail)
  refine (laws_heldEntryS_any _ _ (H.out.alloc _) (by omega) hk0 (by omega)).mono ?_
  rintro e w1 ⟨rfl, rfl⟩
  go_wp2_with (fail)
  refine (laws_heldIntS_any _ _ (H2.out.alloc _) (by omega) (by omega) (by omega)).mono ?_
  rintro e w1 ⟨rfl, rfl⟩
  go_wp2_with (fail)
  refine (laws_heldIntS_any _ _ (H3.out.alloc _) (by omega) (by omega) (by omega)).mono ?_
  rintro e w1 ⟨rfl, rfl⟩
  go_wp2_with (fail)
  go_ret
  exact ⟨rfl, below_new _ _⟩
end Go.Proofs.Ytccgfeenjffnpaa
