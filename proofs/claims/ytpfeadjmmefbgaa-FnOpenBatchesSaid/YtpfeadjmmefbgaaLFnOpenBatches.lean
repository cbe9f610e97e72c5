/-
  The walk of FnOpenBatches. (Its words were written by a program of my own.)
-/
import Derived.Deep.DrawnRows
import Derived.Test.YtpfeadjmmefbgaaWiN
import Derived.Lib.QuietBelow
import Derived.Deep.DeepMust
import Derived.Deep.QuietTactic
import Derived.BigQuiet
import Derived.Deep.RegionHeld3
namespace Go.Proofs.Ytpfeadjmmefbgaa
open Go.RowKit
attribute [local go_sem ↓] Go.wp_at_zero Go.wp_at_succ
-- CALL: W s0
set_option maxHeartbeats 4000000 in
theorem walk_FnOpenBatches {A : Option Addr} {n c : Nat} {zs : List Int} (w : World) (h : BS w A n c zs) :
    Calls Try.prog 4 #[.slice A n c] w fun e w' => e = .returned (.bool true) ∧ Below w.heap.size w w' := by
  have H := Lib.hid h
  clear h
  rcases Nat.lt_or_ge 1048576 n with h1 | h1
  · have h1' : (1048576 : Int) < (n : Int) := by omega
    go_enter Try.func4, Try.ntmps4
    go_wp2_with (fail)
    go_ret
    exact ⟨rfl, Below.refl _ _⟩
  have h1' : ¬ (1048576 : Int) < (n : Int) := by omega
  go_enter Try.func4, Try.ntmps4
  go_wp2_with (fail)
  refine (spec_DrawOpenBatches_any w H.out h1).mono ?_
  rintro e w1 ⟨b, nx, xs, A1, n1, c1, rfl, ⟨hb0, hb1⟩, ⟨hx0, hx1⟩, hn1, hI1, hb⟩
  have B := Lib.hid hb
  have I1 := Lib.hid hI1
  clear hb hI1
  replace I1 := Lib.hid (I1.out.alloc (.cells #[.int .i64 b, .int .i64 nx, .slice A1 n1 c1] 25))
  replace B := Lib.hid (B.out.alloc B.out.size (.cells #[.int .i64 b, .int .i64 nx, .slice A1 n1 c1] 25))
  have Q := Lib.hid (Blk.new w1 25 #[.int .i64 b, .int .i64 nx, .slice A1 n1 c1])
  obtain ⟨os, eo⟩ : ∃ v, openL b nx xs = v := ⟨_, rfl⟩
  have HO := Lib.hid eo
  have hle := openL_le b nx xs
  rw [eo] at hle
  clear eo
  go_wp2_with (fail)
  refine (ints_at (impl_OpenBatches_any b nx _ I1.out) HO.out).mono ?_
  rintro e w2 ⟨A2, n2, c2, rfl, ho, hb⟩
  replace I1 := Lib.hid (I1.out.below hb (Nat.le_refl _))
  replace Q := Lib.hid (Q.out.on hb)
  replace B := Lib.hid (B.out.trans (hb.mono B.out.size))
  have I2 := Lib.hid ho.is
  clear hb
  have hn2 : n2 ≤ 8 := by have := I2.out.len; omega
  clear hle
  rcases Nat.eq_zero_or_pos n2 with h0 | h0
  · skip
    have hz : ((n2 : Int) == 0) = true := by simp [h0]
    clear h0
    obtain ⟨q0, q1, q2⟩ := Q.out.c3
    have ql := Q.out.lt
    go_wp2_with (fail)
    refine (ints_at (spec_OpenBatches_any b nx _ I1.out) HO.out).mono ?_
    clear q0 q1 q2 ql
    rintro e w3 ⟨A3, n3, c3, rfl, ho, hb⟩
    replace I1 := Lib.hid (I1.out.below hb (Nat.le_refl _))
    replace I2 := Lib.hid (I2.out.below hb (Nat.le_refl _))
    replace Q := Lib.hid (Q.out.on hb)
    replace B := Lib.hid (B.out.trans (hb.mono B.out.size))
    have I3 := Lib.hid ho.is
    clear hb
    go_wp2_with (fail)
    refine (equalInts_same _ I2.out I3.out).mono ?_
    rintro e w4 ⟨rfl, hb⟩
    replace I1 := Lib.hid (I1.out.below hb (Nat.le_refl _))
    replace I2 := Lib.hid (I2.out.below hb (Nat.le_refl _))
    replace I3 := Lib.hid (I3.out.below hb (Nat.le_refl _))
    replace Q := Lib.hid (Q.out.on hb)
    replace B := Lib.hid (B.out.trans (hb.mono B.out.size))
    clear hb
    obtain ⟨q0, q1, q2⟩ := Q.out.c3
    have ql := Q.out.lt
    go_wp2_with (fail)
    refine (ints_at (spec_OpenBatches_any b nx _ I1.out) HO.out).mono ?_
    clear q0 q1 q2 ql
    rintro e w5 ⟨A4, n4, c4, rfl, ho, hb⟩
    replace I1 := Lib.hid (I1.out.below hb (Nat.le_refl _))
    replace I2 := Lib.hid (I2.out.below hb (Nat.le_refl _))
    replace I3 := Lib.hid (I3.out.below hb (Nat.le_refl _))
    replace Q := Lib.hid (Q.out.on hb)
    replace B := Lib.hid (B.out.trans (hb.mono B.out.size))
    have I4 := Lib.hid ho.is
    clear hb
    go_wp2_with (fail)
    refine (equalInts_same _ I2.out I4.out).mono ?_
    rintro e w6 ⟨rfl, hb⟩
    replace I1 := Lib.hid (I1.out.below hb (Nat.le_refl _))
    replace I2 := Lib.hid (I2.out.below hb (Nat.le_refl _))
    replace I3 := Lib.hid (I3.out.below hb (Nat.le_refl _))
    replace I4 := Lib.hid (I4.out.below hb (Nat.le_refl _))
    replace Q := Lib.hid (Q.out.on hb)
    replace B := Lib.hid (B.out.trans (hb.mono B.out.size))
    clear hb
    go_wp2_with (fail)
    go_ret
    exact ⟨ret_bool (rfl), B.out⟩
  have hz : ((n2 : Int) == 0) = false := by simp; omega
  have hv : winV b nx xs = true := by
    rcases h : winV b nx xs with _ | _
    · have h1 := HO.out
      rw [openL_f h] at h1
      have := I2.out.len
      rw [← h1] at this
      simp at this
      omega
    · rfl
  obtain ⟨hv0, hv1, hv2, hv3, _⟩ := winV_facts hv
  have hlen := open_len hv
  have hasc := open_asc b nx xs
  have hbn : b < nx := by
    rcases Int.lt_or_le b nx with h9 | h9
    · exact h9
    · have h1 := HO.out
      rw [openL_t hv, show (nx - b).toNat = 0 by omega] at h1
      have := I2.out.len
      rw [← h1] at this
      simp [selL] at this
      omega
  obtain ⟨r, hr, _⟩ := open_head hv hbn
  rw [HO.out] at hlen hasc hr
  rw [I2.out.len, I1.out.len] at hlen
  have hwl : IntKind.i64.wrap ((n2 : Int) + (n1 : Int)) = nx - b := by rw [IntKind.wrap_i64]; omega
  have hwb : IntKind.i64.wrap (nx - b) = nx - b := by rw [IntKind.wrap_i64]; omega
  have HA := Lib.hid hasc
  have HR := Lib.hid hr
  clear hlen hasc hr hv
  obtain ⟨q0, q1, q2⟩ := Q.out.c3
  have ql := Q.out.lt
  go_wp2_with (fail)
  refine (ints_at (spec_OpenBatches_any b nx _ I1.out) HO.out).mono ?_
  clear q0 q1 q2 ql
  rintro e w3 ⟨A3, n3, c3, rfl, ho, hb⟩
  replace I1 := Lib.hid (I1.out.below hb (Nat.le_refl _))
  replace I2 := Lib.hid (I2.out.below hb (Nat.le_refl _))
  replace Q := Lib.hid (Q.out.on hb)
  replace B := Lib.hid (B.out.trans (hb.mono B.out.size))
  have I3 := Lib.hid ho.is
  clear hb
  go_wp2_with (fail)
  refine (equalInts_same _ I2.out I3.out).mono ?_
  rintro e w4 ⟨rfl, hb⟩
  replace I1 := Lib.hid (I1.out.below hb (Nat.le_refl _))
  replace I2 := Lib.hid (I2.out.below hb (Nat.le_refl _))
  replace I3 := Lib.hid (I3.out.below hb (Nat.le_refl _))
  replace Q := Lib.hid (Q.out.on hb)
  replace B := Lib.hid (B.out.trans (hb.mono B.out.size))
  clear hb
  obtain ⟨q0, q1, q2⟩ := Q.out.c3
  have HL := Lib.hid I2.out.len
  obtain ⟨g, off, v0, rfl, hx0', hc0⟩ := I2.out.at_ (k := 0) h0
  have ev0 : v0 = b := by rw [HR.out] at hx0'; simpa using hx0'.symm
  rw [ev0] at hc0
  have CELL : Hid (∀ k : Nat, k < n2 → w4.cell? ⟨g, off + k, none⟩ = some (.int .i64 (os.getD k 0)) ∧ os[k]? = some (os.getD k 0)) := Lib.hid fun k hk => by
    obtain ⟨g', off', v, e, hv, hc⟩ := I2.out.at_ hk
    simp only [Option.some.injEq, Addr.mk.injEq, and_true] at e
    obtain ⟨rfl, rfl⟩ := e
    have e2 : os.getD k 0 = v := by rw [List.getD_eq_getElem?_getD, hv]; rfl
    rw [e2]
    exact ⟨hc, hv⟩
  clear ev0 hx0'
  go_wp2_with (fail)
  go_loopw [5] (fun i wr => ∃ j mm : Nat, j ≤ n2 ∧ i = .int .i64 (j : Int) ∧ wr = w4.drewN mm) (fun i _ => n2 - (intOf i).toNat)
  case atStart => exact ⟨0, 0, Nat.zero_le _, rfl, rfl⟩
  case round =>
    obtain ⟨j, mm, hj, rfl, rfl⟩ := hrel
    have r0 : w4.cell? ⟨w1.heap.size, 0, none⟩ = some (.int .i64 b) := q0
    have r1 : w4.cell? ⟨w1.heap.size, 1, none⟩ = some (.int .i64 nx) := q1
    have r2 : w4.cell? ⟨w1.heap.size, 2, none⟩ = some (.slice A1 n1 c1) := q2
    by_cases hlt : j < n2
    · have hlt' : (j : Int) < (n2 : Int) := by omega
      have zj : (0 : Int) ≤ (j : Int) := by omega
      obtain ⟨hc, hx⟩ := CELL.out j hlt
      obtain ⟨v, ev⟩ : ∃ v, os.getD j 0 = v := ⟨_, rfl⟩
      rw [ev] at hc hx
      obtain ⟨l1, l2, l3⟩ := open_lt (b := b) (nx := nx) (xs := xs) (n := v) (by rw [HO.out]; exact List.mem_of_getElem? hx)
      have l1' : ¬ v < b := by omega
      have l2' : ¬ nx ≤ v := by omega
      have l1d : decide (v < b) = false := by simp; omega
      have l2d : decide (nx ≤ v) = false := by simp; omega
      have II := Lib.hid (I1.out.drewN mm)
      rcases Nat.eq_zero_or_pos j with hj0 | hj0
      · subst hj0
        have rj : w4.cell? ⟨g, off, none⟩ = some (.int .i64 v) := hc
        clear hx ev hc
        go_wp2_with (fail)
        go_quiet ((go_at_call 15; refine (call_bool (laws_isIn_any _ _ (I1.out.drewN _)) l3).mono ?_; rintro e w' ⟨rfl, rfl⟩; exact ⟨rfl, _, rfl⟩))
        go_wp2_with (fail)
        go_roundw
        case rel => exact ⟨0 + 1, _, by omega, by first | rfl | go_num, rfl⟩
        case measure => simp [intOf]; omega
      · obtain ⟨q, hq⟩ : ∃ q, j = q + 1 := ⟨j - 1, by omega⟩
        obtain ⟨hcu, hxu⟩ := CELL.out q (by omega)
        obtain ⟨u, eu⟩ : ∃ u, os.getD q 0 = u := ⟨_, rfl⟩
        rw [eu] at hcu hxu
        have huv : ¬ v ≤ u := by
          have h5 := List.pairwise_iff_getElem.1 HA.out q j (by have := HL.out; omega) (by have := HL.out; omega) (by omega)
          rw [(List.getElem?_eq_some_iff.1 hxu).2, (List.getElem?_eq_some_iff.1 hx).2] at h5
          omega
        have hud : decide (v ≤ u) = false := by simp; omega
        have z1 : 0 < j := hj0
        have z1' : (0 : Int) < (j : Int) := by omega
        have z1d : decide (0 < j) = true := by simp; omega
        have zq0 : (0 : Int) ≤ (q : Int) := by omega
        have zq1 : (q : Int) < (n2 : Int) := by omega
        have w1' : IntKind.i64.wrap ((j : Int) - 1) = (q : Int) := by rw [IntKind.wrap_i64]; omega
        have rj : w4.cell? ⟨g, off + j, none⟩ = some (.int .i64 v) := hc
        have ru : w4.cell? ⟨g, off + q, none⟩ = some (.int .i64 u) := hcu
        clear hq hx hxu ev eu hc hcu
        go_wp2_with (fail)
        go_quiet ((go_at_call 15; refine (call_bool (laws_isIn_any _ _ (I1.out.drewN _)) l3).mono ?_; rintro e w' ⟨rfl, rfl⟩; exact ⟨rfl, _, rfl⟩))
        go_wp2_with (fail)
        go_roundw
        case rel => exact ⟨j + 1, _, by omega, by first | rfl | go_num, rfl⟩
        case measure => simp [intOf]; omega
    · have zz : (0 : Int) < (n2 : Int) := by omega
      have r3 : w4.cell? ⟨g, off + 0, none⟩ = some (.int .i64 b) := hc0
      have r4 : w4.cell? ⟨g, off, none⟩ = some (.int .i64 b) := hc0
      have hbb : (b == b) = true := by simp
      go_wp2_with (fail)
      go_quiet (fail)
      go_wp2_with (fail)
      go_ret
      exact ⟨ret_bool (by first | rfl | simp), below_drewN (below_drewN B.out _) _⟩
end Go.Proofs.Ytpfeadjmmefbgaa
