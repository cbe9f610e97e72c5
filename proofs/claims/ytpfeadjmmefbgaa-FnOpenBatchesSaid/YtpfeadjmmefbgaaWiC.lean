/-
  Contracts of the program's functions that make windows: SendNext, AckBatch, LostBatches.
-/
import Derived.Test.YtpfeadjmmefbgaaWiB
import Derived.Deep.RegionHeld3
import Derived.Deep.RegionLaw
namespace Go.Proofs.Ytpfeadjmmefbgaa
open Go.RowKit

/-- A call has handed back a window, a number, and whether there is one. -/
def GaveSn (T : Nat) (w : World) (b nx : Int) (xs : List Int) (i : Int) (ok : Bool) (e : Ending) (w' : World) : Prop :=
  ∃ A n c, e = .returned (.tuple #[.agg #[.int .i64 b, .int .i64 nx, .slice A n c], .int .i64 i, .bool ok]) ∧ OW w' T w.heap.size A n c xs ∧ Below w.heap.size w w'
/-- A call has handed back a window, and whether there is one. -/
def GaveWB (T : Nat) (w : World) (b nx : Int) (xs : List Int) (ok : Bool) (e : Ending) (w' : World) : Prop :=
  ∃ A n c, e = .returned (.tuple #[.agg #[.int .i64 b, .int .i64 nx, .slice A n c], .bool ok]) ∧ OW w' T w.heap.size A n c xs ∧ Below w.heap.size w w'
def snOK (b nx : Int) (xs : List Int) : Bool := winV b nx xs && decide (nx < b + 8)
def snB (b nx : Int) (xs : List Int) : Int := if snOK b nx xs then b else 0
def snN (b nx : Int) (xs : List Int) : Int := if snOK b nx xs then nx + 1 else 0
def snI (b nx : Int) (xs : List Int) : Int := if snOK b nx xs then nx else -1
def snX (b nx : Int) (xs : List Int) : List Int := if snOK b nx xs then xs else []
theorem win_len {b nx : Int} {xs : List Int} (h : winV b nx xs = true) : xs.length ≤ 8 := by
  obtain ⟨_, _, h1, h2, h3⟩ := winV_facts h
  have e := selL_win (k := (nx - b).toNat) h3 (by omega)
  have := selL_len (fun n => xs.contains n) b (nx - b).toNat
  rw [e] at this
  omega
theorem snX_le (b nx : Int) (xs : List Int) : (snX b nx xs).length ≤ 8 := by
  unfold snX
  split
  · rename_i h
    simp only [snOK, Bool.and_eq_true] at h
    exact win_len h.1
  · simp
theorem selL_bits {b nx : Int} {xs : List Int} (h : winV b nx xs = true) {k : Nat} (hk : nx ≤ b + (k : Int)) : selL (bitP (bitsL b xs) b) b k = xs := by
  refine Eq.trans (selL_congr (Q := fun n => xs.contains n) fun n h1 _ => ?_) (selL_win (k := k) (winV_facts h).2.2.2.2 hk)
  obtain ⟨j, rfl⟩ : ∃ j : Nat, n = b + (j : Int) := ⟨(n - b).toNat, by omega⟩
  exact (bitP_at _ _ _).trans (win_bit h j)
def ackP (xs : List Int) (m : Int) : Int → Bool := fun n => decide (n = m) || xs.contains n
def akK (b nx : Int) : Nat := (nx - b).toNat
def akOK (b nx : Int) (xs : List Int) (m : Int) : Bool := winV b nx xs && (inR m 0 (nx - 1) && decide (upR (ackP xs m) b (akK b nx) ≤ 1000))
def akB (b nx : Int) (xs : List Int) (m : Int) : Int := if akOK b nx xs m then upR (ackP xs m) b (akK b nx) else 0
def akN (b nx : Int) (xs : List Int) (m : Int) : Int := if akOK b nx xs m then nx else 0
def akX (b nx : Int) (xs : List Int) (m : Int) : List Int := if akOK b nx xs m then (ackR (ackP xs m) b (akK b nx)).2 else []
theorem akX_le (b nx : Int) (xs : List Int) (m : Int) : (akX b nx xs m).length ≤ 8 := by
  unfold akX
  split
  · rename_i h
    simp only [akOK, Bool.and_eq_true] at h
    obtain ⟨_, _, h1, h2, _⟩ := winV_facts h.1
    rw [ackR_snd]
    have h3 := selL_len (ackP xs m) (upR (ackP xs m) b (akK b nx)) (b + (akK b nx : Int) - upR (ackP xs m) b (akK b nx)).toNat
    have h4 := upR_bd (ackP xs m) b (akK b nx)
    unfold akK at *
    omega
  · simp
set_option maxHeartbeats 4000000 in
theorem impl_SendNext_any {A : Option Addr} {n c : Nat} {xs : List Int} (b nx : Int) (w : World) (h : IS w A n c xs) :
    Calls Try.prog 7 #[.agg #[.int .i64 b, .int .i64 nx, .slice A n c]] w (GaveSn 3 w (snB b nx xs) (snN b nx xs) (snX b nx xs) (snI b nx xs) (snOK b nx xs)) := by
  have H := Lib.hid ((h.alloc (.cells #[.int .i64 b, .int .i64 nx, .slice A n c] 25)).alloc (.cells #[.int .i64 0, .int .i64 0, .slice none 0 0] 25))
  clear h
  have P0 := Lib.hid ((Blk.new w 25 #[.int .i64 b, .int .i64 nx, .slice A n c]).alloc (.cells #[.int .i64 0, .int .i64 0, .slice none 0 0] 25))
  have Q0 : Hid (Blk _ (w.heap.size + 1) 25 #[.int .i64 0, .int .i64 0, .slice none 0 0]) := Lib.hid (by simpa using Blk.new (w.alloc (.cells #[.int .i64 b, .int .i64 nx, .slice A n c] 25)) 25 #[.int .i64 0, .int .i64 0, .slice none 0 0])
  have B0 := Lib.hid ((below_new w (.cells #[.int .i64 b, .int .i64 nx, .slice A n c] 25)).alloc (by simp) (.cells #[.int .i64 0, .int .i64 0, .slice none 0 0] 25))
  have BAD : Hid (∀ W : World, Below w.heap.size w W → snOK b nx xs = false → GaveSn 3 w (snB b nx xs) (snN b nx xs) (snX b nx xs) (snI b nx xs) (snOK b nx xs) (.returned (.tuple #[.agg #[.int .i64 0, .int .i64 0, .slice none 0 0], .int .i64 (-1), .bool false])) W) := Lib.hid fun W hB hk =>
    ⟨none, 0, 0, by simp [snB, snN, snI, hk], by simp only [snX, hk]; exact OW.nil _ _ _, hB⟩
  rcases hv : winV b nx xs with _ | _
  · have HV := Lib.hid hv
    clear hv
    go_enter Try.func7, Try.ntmps7
    go_wp2_with (fail)
    refine (call_bool (impl_ValidWindow_any b nx _ H.out) HV.out).mono ?_
    rintro e w1 ⟨rfl, hb⟩
    have B1 := Lib.hid (B0.out.trans (hb.mono B0.out.size))
    have Q1 := Lib.hid (Q0.out.on hb)
    clear hb
    obtain ⟨q0, q1, q2⟩ := Q1.out.c3
    have f0 := Q1.out.frozen 0
    have f1 := Q1.out.frozen 1
    have f2 := Q1.out.frozen 2
    go_wp2_with (fail)
    refine bodyPost_ret (v := .tuple #[.agg #[.int .i64 0, .int .i64 0, .slice none 0 0], .int .i64 (-1), .bool false]) (by simp [results, Try.results7, go_sem, q0, q1, q2]) rfl ?_
    refine BAD.out _ ?_ (by simp [snOK, HV.out])
    repeat' (first | with_reducible exact B1.out | refine Below.setCell ?_ ?_ _ | (show w.heap.size ≤ _; first | omega | (simp; done) | (simp; omega)))
  obtain ⟨hb0, hb1, hx0, hx1, _⟩ := winV_facts hv
  have hw8 : IntKind.i64.wrap (b + 8) = b + 8 := by rw [IntKind.wrap_i64]; omega
  have hwn : IntKind.i64.wrap (nx + 1) = nx + 1 := by rw [IntKind.wrap_i64]; omega
  have HV := Lib.hid hv
  clear hv
  by_cases h8 : nx < b + 8
  · have hne : (nx == b + 8) = false := by simp; omega
    have HK : Hid (snOK b nx xs = true) := Lib.hid (by simp [snOK, HV.out, h8])
    obtain ⟨K, hK⟩ : ∃ K : Nat, nx + 1 = b + (K : Int) := ⟨(nx + 1 - b).toNat, by omega⟩
    have HKK := Lib.hid hK
    have hK8 : K ≤ 8 := by omega
    clear hK
    go_enter Try.func7, Try.ntmps7
    go_wp2_with (fail)
    refine (call_bool (impl_ValidWindow_any b nx _ H.out) HV.out).mono ?_
    rintro e w1 ⟨rfl, hb⟩
    have B1 := Lib.hid (B0.out.trans (hb.mono B0.out.size))
    have P1 := Lib.hid (P0.out.on hb)
    have Q1 := Lib.hid (Q0.out.on hb)
    have H1 := Lib.hid (H.out.below hb (Nat.le_refl _))
    have hz1 : w.heap.size + 1 < w1.heap.size := Q1.out.lt
    clear hb
    obtain ⟨p0, p1, p2⟩ := P1.out.c3
    go_wp2_with (fail)
    go_region_held3 (fun w' => w'.cell? ⟨w.heap.size, 0, none⟩ = some (.int .i64 b) ∧ w'.cell? ⟨w.heap.size, 1, none⟩ = some (.int .i64 nx) ∧ w'.cell? ⟨w.heap.size, 2, none⟩ = some (.slice A n c))
      (refine And.intro ?_ (And.intro ?_ ?_) <;> ((repeat (with_reducible refine cell_set ?_ (by show w.heap.size ≠ w.heap.size + 1; omega) _)); (first | with_reducible refine cell_up (w := w1) ?_ p0 | with_reducible refine cell_up (w := w1) ?_ p1 | with_reducible refine cell_up (w := w1) ?_ p2); (repeat' (first | with_reducible exact W3.out | with_reducible exact W2.out | with_reducible exact Below.refl _ _ | with_reducible refine Below.drew ?_ | with_reducible refine Below.alloc ?_ ?_ _ | omega | (simp; done) | (simp; omega)))))
      (first
       | (go_at_call 20; go_must (refine (impl_acksOf_any b nx _ H1.out.drew HV.out).mono ?_; rintro e w2 ⟨rfl, hb⟩; have W2 : Hid (Below w1.heap.size w1 w2) := Lib.hid ((Below.refl w1.heap.size w1).drew.trans hb); have z2 := W2.out.size; clear hb))
       | (go_at_call 19; go_must (refine (impl_windowOf_any b (nx + 1) (bitsL b xs) K _ (win_lt HV.out) (by omega) (by omega) hK8 HKK.out).mono ?_; rintro e w3 ⟨E1, m1, d1, rfl, ho, hb⟩; have W3 := Lib.hid (W2.out.trans (hb.mono z2)); have z3 := W3.out.size; have O1 := Lib.hid (ho.base_le (base' := w1.heap.size) z2); have Q3 := Lib.hid (Q1.out.on W3.out); obtain ⟨q0, q1, q2⟩ := Q3.out.c3; have f0 := Q3.out.frozen 0; have f1 := Q3.out.frozen 1; have f2 := Q3.out.frozen 2; clear ho hb)))
    all_goals (
      go_wp2_with (fail)
      refine bodyPost_ret (v := .tuple #[.agg #[.int .i64 b, .int .i64 (nx + 1), .slice E1 m1 d1], .int .i64 nx, .bool true]) (by simp [results, Try.results7, go_sem, q0, q1, q2]) rfl ?_
      refine ⟨E1, m1, d1, by simp [snB, snN, snI, HK.out], ?_, ?_⟩
      · simp only [snX, HK.out, if_true]
        rw [← selL_bits HV.out (k := K) (by have := HKK.out; omega)]
        refine OW.base_le (base := w1.heap.size) ?_ (by omega)
        repeat (refine OW.setCell ?_ (by show w.heap.size + 1 < w1.heap.size; exact hz1) _)
        exact O1.out
      · repeat (refine Below.setCell ?_ (by show w.heap.size ≤ w.heap.size + 1; omega) _)
        exact B1.out.trans (W3.out.mono B1.out.size))
  · have hne : (nx == b + 8) = true := by simp; omega
    have HK : Hid (snOK b nx xs = false) := Lib.hid (by simp [snOK, HV.out]; omega)
    go_enter Try.func7, Try.ntmps7
    go_wp2_with (fail)
    refine (call_bool (impl_ValidWindow_any b nx _ H.out) HV.out).mono ?_
    rintro e w1 ⟨rfl, hb⟩
    have B1 := Lib.hid (B0.out.trans (hb.mono B0.out.size))
    have P1 := Lib.hid (P0.out.on hb)
    have Q1 := Lib.hid (Q0.out.on hb)
    clear hb
    obtain ⟨p0, p1, p2⟩ := P1.out.c3
    obtain ⟨q0, q1, q2⟩ := Q1.out.c3
    have f0 := Q1.out.frozen 0
    have f1 := Q1.out.frozen 1
    have f2 := Q1.out.frozen 2
    go_wp2_with (fail)
    refine bodyPost_ret (v := .tuple #[.agg #[.int .i64 0, .int .i64 0, .slice none 0 0], .int .i64 (-1), .bool false]) (by simp [results, Try.results7, go_sem, q0, q1, q2]) rfl ?_
    refine BAD.out _ ?_ HK.out
    repeat' (first | with_reducible exact B1.out | refine Below.setCell ?_ ?_ _ | (show w.heap.size ≤ _; first | omega | (simp; done) | (simp; omega)))
theorem ackR_step {P : Int → Bool} {b : Int} {k : Nat} (h : P b = true) (hk : 0 < k) : ackR P b k = ackR P (b + 1) (k - 1) := by
  obtain ⟨m, rfl⟩ : ∃ m, k = m + 1 := ⟨k - 1, by omega⟩
  simp only [ackR, h, if_true, Nat.add_sub_cancel]
theorem ackR_stop {P : Int → Bool} {b : Int} {k : Nat} (h : P b = false) : ackR P b k = (b, selL P b k) := by
  cases k with
  | zero => rfl
  | succ k => simp [ackR, h]
theorem shr_bit (s j : Nat) : (s >>> j).testBit 0 = s.testBit j := by rw [Nat.testBit_shiftRight, Nat.add_zero]
theorem shr_lt {s : Nat} (j : Nat) (h : s < 256) : s >>> j < 256 := Nat.lt_of_le_of_lt (Nat.shiftRight_le s j) h
theorem bitP_shr (s j : Nat) (b : Int) (k : Nat) : selL (bitP (s >>> j) (b + (j : Int))) (b + (j : Int)) k = selL (bitP s b) (b + (j : Int)) k := by
  apply selL_congr
  intro n h1 _
  obtain ⟨i, rfl⟩ : ∃ i : Nat, n = b + (j : Int) + (i : Int) := ⟨(n - b - j).toNat, by omega⟩
  rw [bitP_at, Nat.testBit_shiftRight]
  have e : b + (j : Int) + (i : Int) = b + ((j + i : Nat) : Int) := by omega
  rw [e, bitP_at]
theorem ack_bit1 {b nx m : Int} {xs : List Int} (h : winV b nx xs = true) {p : Nat} (hm : m = b + (p : Int)) (j : Nat) : (bitsL b xs ||| 2 ^ p).testBit j = ackP xs m (b + (j : Int)) := by
  rw [Nat.testBit_or, win_bit h, Nat.testBit_two_pow, Bool.or_comm]
  unfold ackP
  congr 1
  apply decide_eq_decide.2
  omega
theorem ack_bit0 {b nx m : Int} {xs : List Int} (h : winV b nx xs = true) (hm : m < b) (j : Nat) : (bitsL b xs).testBit j = ackP xs m (b + (j : Int)) := by
  rw [win_bit h]
  unfold ackP
  rw [decide_eq_false (by omega), Bool.false_or]
theorem ackP_far {b nx m : Int} {xs : List Int} (h : winV b nx xs = true) (hm : m < nx) {n : Int} (hn : nx ≤ n) : ackP xs m n = false := by
  have h1 : ¬ n ∈ xs := fun hx => by have := okA_mem (winV_facts h).2.2.2.2 n hx; omega
  have h2 : ¬ n = m := by omega
  simp [ackP, h1, h2]
set_option maxHeartbeats 4000000 in
theorem impl_AckBatch_any {A : Option Addr} {n c : Nat} {xs : List Int} (b nx m : Int) (w : World) (h : IS w A n c xs) :
    Calls Try.prog 16 #[.agg #[.int .i64 b, .int .i64 nx, .slice A n c], .int .i64 m] w (GaveWB 3 w (akB b nx xs m) (akN b nx xs m) (akX b nx xs m) (akOK b nx xs m)) := by
  have H := Lib.hid ((h.alloc (.cells #[.int .i64 b, .int .i64 nx, .slice A n c] 25)).alloc (.cells #[.int .i64 0, .int .i64 0, .slice none 0 0] 25))
  clear h
  have P0 := Lib.hid ((Blk.new w 25 #[.int .i64 b, .int .i64 nx, .slice A n c]).alloc (.cells #[.int .i64 0, .int .i64 0, .slice none 0 0] 25))
  have Q0 : Hid (Blk _ (w.heap.size + 1) 25 #[.int .i64 0, .int .i64 0, .slice none 0 0]) := Lib.hid (by simpa using Blk.new (w.alloc (.cells #[.int .i64 b, .int .i64 nx, .slice A n c] 25)) 25 #[.int .i64 0, .int .i64 0, .slice none 0 0])
  have B0 := Lib.hid ((below_new w (.cells #[.int .i64 b, .int .i64 nx, .slice A n c] 25)).alloc (by simp) (.cells #[.int .i64 0, .int .i64 0, .slice none 0 0] 25))
  have BAD : Hid (∀ W : World, Below w.heap.size w W → akOK b nx xs m = false → GaveWB 3 w (akB b nx xs m) (akN b nx xs m) (akX b nx xs m) (akOK b nx xs m) (.returned (.tuple #[.agg #[.int .i64 0, .int .i64 0, .slice none 0 0], .bool false])) W) := Lib.hid fun W hB hk =>
    ⟨none, 0, 0, by simp [akB, akN, hk], by simp only [akX, hk]; exact OW.nil _ _ _, hB⟩
  rcases hv : winV b nx xs with _ | _
  · have HV := Lib.hid hv
    clear hv
    go_enter Try.func16, Try.ntmps16
    go_wp2_with (fail)
    refine (call_bool (impl_ValidWindow_any b nx _ H.out) HV.out).mono ?_
    rintro e w1 ⟨rfl, hb⟩
    have B1 := Lib.hid (B0.out.trans (hb.mono B0.out.size))
    have Q1 := Lib.hid (Q0.out.on hb)
    clear hb
    obtain ⟨q0, q1, q2⟩ := Q1.out.c3
    have f0 := Q1.out.frozen 0
    have f1 := Q1.out.frozen 1
    have f2 := Q1.out.frozen 2
    go_wp2_with (fail)
    refine bodyPost_ret (v := .tuple #[.agg #[.int .i64 0, .int .i64 0, .slice none 0 0], .bool false]) (by simp [results, Try.results16, go_sem, q0, q1, q2]) rfl ?_
    refine BAD.out _ ?_ (by simp [akOK, HV.out])
    repeat' (first | with_reducible exact B1.out | refine Below.setCell ?_ ?_ _ | (show w.heap.size ≤ _; first | omega | (simp; done) | (simp; omega)))
  obtain ⟨hb0, hb1, hx0, hx1, _⟩ := winV_facts hv
  have hwn : IntKind.i64.wrap (nx - 1) = nx - 1 := by rw [IntKind.wrap_i64]; omega
  have HV := Lib.hid hv
  clear hv
  rcases hm : inR m 0 (nx - 1) with _ | _
  · have HM := Lib.hid hm
    go_enter Try.func16, Try.ntmps16
    go_wp2_with (fail)
    refine (call_bool (impl_ValidWindow_any b nx _ H.out) HV.out).mono ?_
    rintro e w1 ⟨rfl, hb⟩
    have B1 := Lib.hid (B0.out.trans (hb.mono B0.out.size))
    have P1 := Lib.hid (P0.out.on hb)
    have Q1 := Lib.hid (Q0.out.on hb)
    clear hb
    obtain ⟨p0, p1, p2⟩ := P1.out.c3
    obtain ⟨q0, q1, q2⟩ := Q1.out.c3
    have f0 := Q1.out.frozen 0
    have f1 := Q1.out.frozen 1
    have f2 := Q1.out.frozen 2
    go_wp2_with (go_at_call 24; refine (call_bool (impl_within_any _ _ _ _) HM.out).mono ?_; rintro e w' ⟨rfl, rfl⟩)
    refine bodyPost_ret (v := .tuple #[.agg #[.int .i64 0, .int .i64 0, .slice none 0 0], .bool false]) (by simp [results, Try.results16, go_sem, q0, q1, q2]) rfl ?_
    refine BAD.out _ ?_ (by simp [akOK, HM.out])
    repeat' (first | with_reducible exact B1.out | refine Below.setCell ?_ ?_ _ | (show w.heap.size ≤ _; first | omega | (simp; done) | (simp; omega)))
  obtain ⟨hm0, hm2⟩ := inR_iff.1 hm
  have hm1 : m < nx := by omega
  have HM := Lib.hid hm
  clear hm hm2
  obtain ⟨K, hK⟩ : ∃ K : Nat, nx = b + (K : Int) := ⟨(nx - b).toNat, by omega⟩
  have HKK := Lib.hid hK
  have hK8 : K ≤ 8 := by omega
  clear hK
  go_enter Try.func16, Try.ntmps16
  go_wp2_with (fail)
  refine (call_bool (impl_ValidWindow_any b nx _ H.out) HV.out).mono ?_
  rintro e w1 ⟨rfl, hb⟩
  have B1 := Lib.hid (B0.out.trans (hb.mono B0.out.size))
  have P1 := Lib.hid (P0.out.on hb)
  have Q1 := Lib.hid (Q0.out.on hb)
  have H1 := Lib.hid (H.out.below hb (Nat.le_refl _))
  have hz1 : w.heap.size + 1 < w1.heap.size := Q1.out.lt
  clear hb
  obtain ⟨p0, p1, p2⟩ := P1.out.c3
  go_wp2_with (go_at_call 24; refine (call_bool (impl_within_any _ _ _ _) HM.out).mono ?_; rintro e w' ⟨rfl, rfl⟩)
  go_region_held3 (fun w' => w'.cell? ⟨w.heap.size, 0, none⟩ = some (.int .i64 b) ∧ w'.cell? ⟨w.heap.size, 1, none⟩ = some (.int .i64 nx) ∧ w'.cell? ⟨w.heap.size, 2, none⟩ = some (.slice A n c))
      (refine And.intro ?_ (And.intro ?_ ?_) <;> ((first | with_reducible refine cell_up (w := w1) ?_ p0 | with_reducible refine cell_up (w := w1) ?_ p1 | with_reducible refine cell_up (w := w1) ?_ p2); (repeat' (first | with_reducible exact W2.out | with_reducible exact Below.refl _ _ | with_reducible refine Below.drew ?_ | with_reducible refine Below.alloc ?_ ?_ _ | omega | (simp; done) | (simp; omega)))))
      (first | (go_at_call 20; go_must (refine (impl_acksOf_any b nx _ H1.out.drew HV.out).mono ?_; rintro e w2 ⟨rfl, hb⟩; have W2 : Hid (Below w1.heap.size w1 w2) := Lib.hid ((Below.refl w1.heap.size w1).drew.trans hb); have z2 := W2.out.size; have P2 := Lib.hid (P1.out.on W2.out); have Q2 := Lib.hid (Q1.out.on W2.out); have B2 := Lib.hid (B1.out.trans (W2.out.mono B1.out.size)); clear hb)))
  all_goals (
    clear p0 p1 p2
    have hs := win_lt HV.out
    have hz2 : w.heap.size + 1 < w2.heap.size := by omega
    obtain ⟨s, es⟩ : ∃ s, bitsL b xs = s := ⟨_, rfl⟩
    have HS := Lib.hid es
    rw [es] at hs ⊢
    clear es
    rcases Int.lt_or_le m b with hmb | hmb
    · have hmb' : ¬ b ≤ m := by omega
      obtain ⟨s1, es⟩ : ∃ s1, s = s1 := ⟨_, rfl⟩
      have HBIT : Hid (∀ j : Nat, s1.testBit j = ackP xs m (b + (j : Int))) := Lib.hid fun j => by rw [← es, ← HS.out]; exact ack_bit0 HV.out hmb j
      have hs1 : s1 < 256 := by rw [← es]; exact hs
      rw [es]
      clear es hs HS
      go_wp2_with (fail)
      go_loopw [6, 7] (fun q r wr => ∃ j : Nat, j ≤ K ∧ q = .int .i64 (b + (j : Int)) ∧ r = .int .u8 ((s1 >>> j : Nat) : Int) ∧ wr = w2 ∧ Hid (ackR (ackP xs m) b K = ackR (ackP xs m) (b + (j : Int)) (K - j))) (fun q _ _ => (b + (K : Int) - intOf q).toNat)
      case atStart => exact ⟨0, Nat.zero_le _, by simp, by simp, rfl, Lib.hid (by simp)⟩
      case round =>
        obtain ⟨j, hj, rfl, rfl, rfl, hR⟩ := hrel
        have hw2 : IntKind.i64.wrap (b + (j : Int) + 1) = b + ((j + 1 : Nat) : Int) := by rw [IntKind.wrap_i64]; omega
        rcases hbit : s1.testBit j with _ | _
        · have HB : Hid (ackP xs m (b + (j : Int)) = false) := Lib.hid (by rw [← HBIT.out]; exact hbit)
          have HE : Hid (ackR (ackP xs m) b K = (b + (j : Int), selL (ackP xs m) (b + (j : Int)) (K - j))) := Lib.hid (by rw [hR.out, ackR_stop HB.out])
          have HU : Hid (upR (ackP xs m) b K = b + (j : Int)) := Lib.hid (by rw [← ackR_fst, HE.out])
          have hbit2 : (s1 >>> j).testBit 0 = false := by rw [shr_bit]; exact hbit
          by_cases hbig : 1000 < b + (j : Int)
          · have HK : Hid (akOK b nx xs m = false) := Lib.hid (by
              have e : akK b nx = K := by have := HKK.out; unfold akK; omega
              simp only [akOK, HV.out, HM.out, e, HU.out, Bool.true_and, decide_eq_false_iff_not]
              omega)
            obtain ⟨q0, q1, q2⟩ := Q2.out.c3
            have f0 := Q2.out.frozen 0
            have f1 := Q2.out.frozen 1
            have f2 := Q2.out.frozen 2
            clear hbit
            go_wp2_with (go_at_call 23; refine (call_bool (has_any (s1 >>> j) 0 _ (shr_lt j hs1) (by omega)) hbit2).mono ?_; rintro e w' ⟨rfl, rfl⟩)
            refine bodyPost_ret (v := .tuple #[.agg #[.int .i64 0, .int .i64 0, .slice none 0 0], .bool false]) (by simp [results, Try.results16, go_sem, q0, q1, q2]) rfl ?_
            refine BAD.out _ ?_ HK.out
            repeat' (first | with_reducible exact B2.out | refine Below.setCell ?_ ?_ _ | (show w.heap.size ≤ _; first | omega | (simp; done) | (simp; omega)))
          · have HK : Hid (akOK b nx xs m = true) := Lib.hid (by
              have e : akK b nx = K := by have := HKK.out; unfold akK; omega
              simp only [akOK, HV.out, HM.out, e, HU.out, Bool.true_and, decide_eq_true_eq]
              omega)
            obtain ⟨p0, p1, p2⟩ := P2.out.c3
            have hnx : nx = b + (j : Int) + ((K - j : Nat) : Int) := by have := HKK.out; omega
            have HNX := Lib.hid hnx
            clear hbit hnx
            go_wp2_with (first
              | (go_at_call 23; refine (call_bool (has_any (s1 >>> j) 0 _ (shr_lt j hs1) (by omega)) hbit2).mono ?_; rintro e w' ⟨rfl, rfl⟩)
              | (go_at_call 19; go_must (refine (impl_windowOf_any (b + (j : Int)) nx (s1 >>> j) (K - j) _ (shr_lt j hs1) (by omega) (by omega) (by omega) HNX.out).mono ?_; rintro e w3 ⟨E1, m1, d1, rfl, ho, hb⟩; have W3 := Lib.hid hb; have z3 := hb.size; have O1 := Lib.hid ho; have Q3 := Lib.hid (Q2.out.on hb); obtain ⟨q0, q1, q2⟩ := Q3.out.c3; have f0 := Q3.out.frozen 0; have f1 := Q3.out.frozen 1; have f2 := Q3.out.frozen 2; clear ho hb)))
            refine bodyPost_ret (v := .tuple #[.agg #[.int .i64 (b + (j : Int)), .int .i64 nx, .slice E1 m1 d1], .bool true]) (by simp [results, Try.results16, go_sem, q0, q1, q2]) rfl ?_
            have e : akK b nx = K := by have := HKK.out; unfold akK; omega
            refine ⟨E1, m1, d1, by simp [akB, akN, HK.out, e, HU.out], ?_, ?_⟩
            · simp only [akX, HK.out, if_true, e, HE.out]
              have h3 := O1.out
              rw [bitP_shr] at h3
              rw [selL_congr (Q := bitP s1 b) fun n h1 _ => by
                obtain ⟨i, rfl⟩ : ∃ i : Nat, n = b + (i : Int) := ⟨(n - b).toNat, by omega⟩
                rw [bitP_at, HBIT.out]]
              refine OW.base_le (base := wr.heap.size) ?_ (by omega)
              repeat (refine OW.setCell ?_ (by show w.heap.size + 1 < wr.heap.size; omega) _)
              exact h3
            · repeat (refine Below.setCell ?_ (by show w.heap.size ≤ w.heap.size + 1; omega) _)
              exact B2.out.trans (W3.out.mono B2.out.size)
        · have HB : Hid (ackP xs m (b + (j : Int)) = true) := Lib.hid (by rw [← HBIT.out]; exact hbit)
          have hjK : j < K := by
            rcases Nat.lt_or_ge j K with h1 | h1
            · exact h1
            · have h2 := ackP_far HV.out hm1 (n := b + (j : Int)) (by have := HKK.out; omega)
              rw [HB.out] at h2
              cases h2
          have hbit2 : (s1 >>> j).testBit 0 = true := by rw [shr_bit]; exact hbit
          clear hbit
          go_wp2_with (first
              | (go_at_call 23; refine (call_bool (has_any (s1 >>> j) 0 _ (shr_lt j hs1) (by omega)) hbit2).mono ?_; rintro e w' ⟨rfl, rfl⟩)
              | (go_at_call 27; refine (behind_any (s1 >>> j) 0 _ (shr_lt j hs1) (by omega)).mono ?_; rintro e w' ⟨rfl, rfl⟩))
          go_roundw
          case rel => exact ⟨j + 1, by omega, by first | rfl | go_num, by first | rfl | (rw [Nat.shiftRight_add]), by first | trivial | rfl, Lib.hid (by
            rw [hR.out, ackR_step HB.out (by omega)]
            have e1 : b + (j : Int) + 1 = b + ((j + 1 : Nat) : Int) := by omega
            have e2 : K - j - 1 = K - (j + 1) := by omega
            rw [e1, e2])⟩
          case measure => simp [intOf]; omega
    · obtain ⟨p, hp⟩ : ∃ p : Nat, m = b + (p : Int) := ⟨(m - b).toNat, by omega⟩
      have hwp : IntKind.i64.wrap (m - b) = (p : Int) := by rw [IntKind.wrap_i64]; omega
      have hp8 : p < 8 := by omega
      obtain ⟨s1, es⟩ : ∃ s1, s ||| 2 ^ p = s1 := ⟨_, rfl⟩
      have HBIT : Hid (∀ j : Nat, s1.testBit j = ackP xs m (b + (j : Int))) := Lib.hid fun j => by rw [← es, ← HS.out]; exact ack_bit1 HV.out hp j
      have hs1 : s1 < 256 := by rw [← es]; exact Nat.or_lt_two_pow (n := 8) hs (Nat.pow_lt_pow_right (by omega) (by omega))
      have ES := Lib.hid es
      clear es hp HS
      go_wp2_with (go_at_call 26; refine (with_any s p _ hs hp8).mono ?_; rintro e w' ⟨rfl, rfl⟩; rw [ES.out])
      go_loopw [6, 7] (fun q r wr => ∃ j : Nat, j ≤ K ∧ q = .int .i64 (b + (j : Int)) ∧ r = .int .u8 ((s1 >>> j : Nat) : Int) ∧ wr = w2 ∧ Hid (ackR (ackP xs m) b K = ackR (ackP xs m) (b + (j : Int)) (K - j))) (fun q _ _ => (b + (K : Int) - intOf q).toNat)
      case atStart => exact ⟨0, Nat.zero_le _, by simp, by simp, rfl, Lib.hid (by simp)⟩
      case round =>
        obtain ⟨j, hj, rfl, rfl, rfl, hR⟩ := hrel
        have hw2 : IntKind.i64.wrap (b + (j : Int) + 1) = b + ((j + 1 : Nat) : Int) := by rw [IntKind.wrap_i64]; omega
        rcases hbit : s1.testBit j with _ | _
        · have HB : Hid (ackP xs m (b + (j : Int)) = false) := Lib.hid (by rw [← HBIT.out]; exact hbit)
          have HE : Hid (ackR (ackP xs m) b K = (b + (j : Int), selL (ackP xs m) (b + (j : Int)) (K - j))) := Lib.hid (by rw [hR.out, ackR_stop HB.out])
          have HU : Hid (upR (ackP xs m) b K = b + (j : Int)) := Lib.hid (by rw [← ackR_fst, HE.out])
          have hbit2 : (s1 >>> j).testBit 0 = false := by rw [shr_bit]; exact hbit
          by_cases hbig : 1000 < b + (j : Int)
          · have HK : Hid (akOK b nx xs m = false) := Lib.hid (by
              have e : akK b nx = K := by have := HKK.out; unfold akK; omega
              simp only [akOK, HV.out, HM.out, e, HU.out, Bool.true_and, decide_eq_false_iff_not]
              omega)
            obtain ⟨q0, q1, q2⟩ := Q2.out.c3
            have f0 := Q2.out.frozen 0
            have f1 := Q2.out.frozen 1
            have f2 := Q2.out.frozen 2
            clear hbit
            go_wp2_with (go_at_call 23; refine (call_bool (has_any (s1 >>> j) 0 _ (shr_lt j hs1) (by omega)) hbit2).mono ?_; rintro e w' ⟨rfl, rfl⟩)
            refine bodyPost_ret (v := .tuple #[.agg #[.int .i64 0, .int .i64 0, .slice none 0 0], .bool false]) (by simp [results, Try.results16, go_sem, q0, q1, q2]) rfl ?_
            refine BAD.out _ ?_ HK.out
            repeat' (first | with_reducible exact B2.out | refine Below.setCell ?_ ?_ _ | (show w.heap.size ≤ _; first | omega | (simp; done) | (simp; omega)))
          · have HK : Hid (akOK b nx xs m = true) := Lib.hid (by
              have e : akK b nx = K := by have := HKK.out; unfold akK; omega
              simp only [akOK, HV.out, HM.out, e, HU.out, Bool.true_and, decide_eq_true_eq]
              omega)
            obtain ⟨p0, p1, p2⟩ := P2.out.c3
            have hnx : nx = b + (j : Int) + ((K - j : Nat) : Int) := by have := HKK.out; omega
            have HNX := Lib.hid hnx
            clear hbit hnx
            go_wp2_with (first
              | (go_at_call 23; refine (call_bool (has_any (s1 >>> j) 0 _ (shr_lt j hs1) (by omega)) hbit2).mono ?_; rintro e w' ⟨rfl, rfl⟩)
              | (go_at_call 19; go_must (refine (impl_windowOf_any (b + (j : Int)) nx (s1 >>> j) (K - j) _ (shr_lt j hs1) (by omega) (by omega) (by omega) HNX.out).mono ?_; rintro e w3 ⟨E1, m1, d1, rfl, ho, hb⟩; have W3 := Lib.hid hb; have z3 := hb.size; have O1 := Lib.hid ho; have Q3 := Lib.hid (Q2.out.on hb); obtain ⟨q0, q1, q2⟩ := Q3.out.c3; have f0 := Q3.out.frozen 0; have f1 := Q3.out.frozen 1; have f2 := Q3.out.frozen 2; clear ho hb)))
            refine bodyPost_ret (v := .tuple #[.agg #[.int .i64 (b + (j : Int)), .int .i64 nx, .slice E1 m1 d1], .bool true]) (by simp [results, Try.results16, go_sem, q0, q1, q2]) rfl ?_
            have e : akK b nx = K := by have := HKK.out; unfold akK; omega
            refine ⟨E1, m1, d1, by simp [akB, akN, HK.out, e, HU.out], ?_, ?_⟩
            · simp only [akX, HK.out, if_true, e, HE.out]
              have h3 := O1.out
              rw [bitP_shr] at h3
              rw [selL_congr (Q := bitP s1 b) fun n h1 _ => by
                obtain ⟨i, rfl⟩ : ∃ i : Nat, n = b + (i : Int) := ⟨(n - b).toNat, by omega⟩
                rw [bitP_at, HBIT.out]]
              refine OW.base_le (base := wr.heap.size) ?_ (by omega)
              repeat (refine OW.setCell ?_ (by show w.heap.size + 1 < wr.heap.size; omega) _)
              exact h3
            · repeat (refine Below.setCell ?_ (by show w.heap.size ≤ w.heap.size + 1; omega) _)
              exact B2.out.trans (W3.out.mono B2.out.size)
        · have HB : Hid (ackP xs m (b + (j : Int)) = true) := Lib.hid (by rw [← HBIT.out]; exact hbit)
          have hjK : j < K := by
            rcases Nat.lt_or_ge j K with h1 | h1
            · exact h1
            · have h2 := ackP_far HV.out hm1 (n := b + (j : Int)) (by have := HKK.out; omega)
              rw [HB.out] at h2
              cases h2
          have hbit2 : (s1 >>> j).testBit 0 = true := by rw [shr_bit]; exact hbit
          clear hbit
          go_wp2_with (first
              | (go_at_call 23; refine (call_bool (has_any (s1 >>> j) 0 _ (shr_lt j hs1) (by omega)) hbit2).mono ?_; rintro e w' ⟨rfl, rfl⟩)
              | (go_at_call 27; refine (behind_any (s1 >>> j) 0 _ (shr_lt j hs1) (by omega)).mono ?_; rintro e w' ⟨rfl, rfl⟩))
          go_roundw
          case rel => exact ⟨j + 1, by omega, by first | rfl | go_num, by first | rfl | (rw [Nat.shiftRight_add]), by first | trivial | rfl, Lib.hid (by
            rw [hR.out, ackR_step HB.out (by omega)]
            have e1 : b + (j : Int) + 1 = b + ((j + 1 : Nat) : Int) := by omega
            have e2 : K - j - 1 = K - (j + 1) := by omega
            rw [e1, e2])⟩
          case measure => simp [intOf]; omega)
end Go.Proofs.Ytpfeadjmmefbgaa
