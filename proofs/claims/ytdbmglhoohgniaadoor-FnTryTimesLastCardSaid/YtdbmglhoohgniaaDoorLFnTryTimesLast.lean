/-
  The walk of FnTryTimesLast. (Its words were written by a program of my own.)
-/
import Derived.Test.YtdbmglhoohgniaaDoorDrawY
import Derived.Deep.RegionHeld3
import Derived.Deep.DeepMust
import Derived.Deep.DeepCutAuto
namespace Go.Proofs.YtdbmglhoohgniaaDoor
open Go.RowKit
/-- The last of the times lies between half and all of the waits. -/
theorem tm_bd (b n : Int) : ∀ k : Nat, k ≤ 6 → tmN b n k - n ≤ lwN k ∧ lwN k ≤ 2 * (tmN b n k - n) ∧ n ≤ tmN b n k
  | 0, _ => by simp [tmN, lwN]
  | k + 1, h => by
    obtain ⟨h1, h2, h3⟩ := tm_bd b n k (by omega)
    have hin : inR ((k : Int) + 1) 1 6 = true := inR_t (by omega) (by omega)
    have s := sw_bd (b := b) hin
    have e : boV ((k : Int) + 1) = boN k := boV_nat (k := k) (by omega)
    rw [e] at s
    simp only [tmN, lwN]
    omega
theorem tsV_yes {b t m : Int} (h : 0 < (tsV b t m).length) : ∃ T : Nat, t = (T : Int) ∧ T ≤ 6 ∧ tsV b t m = ttL b m T ∧ tsOK b t m = true := by
  rcases hok : tsOK b t m with _ | _
  · rw [tsV_no hok] at h
    simp at h
  · have h2 := hok
    simp [tsOK] at h2
    obtain ⟨h0, h6⟩ := inR_iff.1 h2.1.2
    exact ⟨t.toNat, by omega, by omega, by simp [tsV, hok], rfl⟩
theorem ttL_at {b m : Int} {T k : Nat} (h : k ≤ T) : (ttL b m T)[k]? = some (tmN b m k) := by
  simp [ttL, List.getElem?_map, List.getElem?_range (show k < T + 1 by omega)]

-- CALL: W s0 wa0
set_option maxHeartbeats 4000000 in
theorem walk_FnTryTimesLast {A : Option Addr} {n c : Nat} {zs : List Int} (w : World) (h : BS w A n c zs) (h800 : WA w) :
    Calls Tryd.prog 12 #[.slice A n c] w fun e w' => e = .returned (.bool true) ∧ Below w.heap.size w w' := by
  have H := Lib.hid h
  clear h
  rcases Nat.lt_or_ge 1048576 n with h1 | h1
  · have h1' : (1048576 : Int) < (n : Int) := by omega
    go_enter Tryd.func12, Tryd.ntmps12
    go_wp2_with (fail)
    go_ret
    exact ⟨rfl, Below.refl _ _⟩
  have h1' : ¬ (1048576 : Int) < (n : Int) := by omega
  go_enter Tryd.func12, Tryd.ntmps12
  go_wp2_with (fail)
  refine (spec_DrawTryTimes_any w H.out h1).mono ?_
  rintro e w1 ⟨b, t, m, rfl, ⟨hb0, hb1⟩, ⟨ht0, ht1⟩, ⟨hm0, hm1⟩, hbl⟩
  have B1 := Lib.hid hbl
  have W1 := Lib.hid (h800.below hbl (Nat.le_refl _))
  clear hbl h800
  obtain ⟨xs, hxs⟩ : ∃ xs, tsV b t m = xs := ⟨_, rfl⟩
  have HXS := Lib.hid hxs
  clear hxs
  go_wp2_with (fail)
  refine (impl_TryTimes_any b t m w1 W1.out).mono ?_
  rintro e w2 ⟨A1, n1, c1, rfl, ho, hb⟩
  rw [HXS.out] at ho
  have hn7 : n1 ≤ 7 := by
    have h1 := ho.len
    have h2 := tsV_le b t m
    rw [HXS.out] at h2
    omega
  have HL := Lib.hid ho.len
  have I1 := Lib.hid ho.is
  have B2 := Lib.hid (B1.out.trans (hb.mono B1.out.size))
  have W2 := Lib.hid (W1.out.below hb (Nat.le_refl _))
  clear ho hb
  rcases Nat.lt_or_ge n1 1 with hs | hs
  · skip
    have hg : ((n1 : Int) == 0) = true := by simp; omega
    go_wp2_with (fail)
    refine (spec_TryTimes_any b t m w2).mono ?_
    rintro e w3 ⟨A2, n2, c2, rfl, ho, hb⟩
    rw [HXS.out] at ho
    have I2 := Lib.hid ho.is
    have J2 := Lib.hid (I1.out.below hb (Nat.le_refl _))
    have B3 := Lib.hid (B2.out.trans (hb.mono B2.out.size))
    have W3 := Lib.hid (W2.out.below hb (Nat.le_refl _))
    clear ho hb
    go_wp2_with (fail)
    refine (call_b (laws_equalInts_any w3 J2.out I2.out) (decide_eq_true rfl)).mono ?_
    rintro e w4 ⟨rfl, mm, h4⟩
    have B4 := Lib.hid (show Below w.heap.size w w4 by rw [h4]; exact below_drewN B3.out mm)
    have W4 := Lib.hid (show WA w4 by rw [h4]; exact W3.out)
    replace I1 := Lib.hid (show IS w4 A1 n1 c1 xs by rw [h4]; exact J2.out.drewN mm)
    clear h4 J2 I2
    go_wp2_with (fail)
    refine (spec_TryTimes_any b t m w4).mono ?_
    rintro e w5 ⟨A4, n4, c4, rfl, ho, hb⟩
    rw [HXS.out] at ho
    have I4 := Lib.hid ho.is
    have J4 := Lib.hid (I1.out.below hb (Nat.le_refl _))
    have B5 := Lib.hid (B4.out.trans (hb.mono B4.out.size))
    have W5 := Lib.hid (W4.out.below hb (Nat.le_refl _))
    clear ho hb
    go_wp2_with (fail)
    refine (call_b (laws_equalInts_any w5 J4.out I4.out) (decide_eq_true rfl)).mono ?_
    rintro e w6 ⟨rfl, mm, h4⟩
    have B6 := Lib.hid (show Below w.heap.size w w6 by rw [h4]; exact below_drewN B5.out mm)
    have W6 := Lib.hid (show WA w6 by rw [h4]; exact W5.out)
    replace I1 := Lib.hid (show IS w6 A1 n1 c1 xs by rw [h4]; exact J4.out.drewN mm)
    clear h4 J4 I4
    go_wp2_with (fail)
    go_ret
    exact ⟨rfl, B6.out⟩
  have hg : ((n1 : Int) == 0) = false := by simp; omega
  have hgt : 0 < (n1 : Int) := by omega
  go_wp2_with (fail)
  refine (spec_TryTimes_any b t m w2).mono ?_
  rintro e w3 ⟨A2, n2, c2, rfl, ho, hb⟩
  rw [HXS.out] at ho
  have I2 := Lib.hid ho.is
  have J2 := Lib.hid (I1.out.below hb (Nat.le_refl _))
  have B3 := Lib.hid (B2.out.trans (hb.mono B2.out.size))
  have W3 := Lib.hid (W2.out.below hb (Nat.le_refl _))
  clear ho hb
  go_wp2_with (fail)
  refine (call_b (laws_equalInts_any w3 J2.out I2.out) (decide_eq_true rfl)).mono ?_
  rintro e w4 ⟨rfl, mm, h4⟩
  have B4 := Lib.hid (show Below w.heap.size w w4 by rw [h4]; exact below_drewN B3.out mm)
  have W4 := Lib.hid (show WA w4 by rw [h4]; exact W3.out)
  replace I1 := Lib.hid (show IS w4 A1 n1 c1 xs by rw [h4]; exact J2.out.drewN mm)
  clear h4 J2 I2
  obtain ⟨T, rfl, hT, hx, hok⟩ := tsV_yes (b := b) (t := t) (m := m) (by rw [HXS.out, HL.out]; omega)
  have hX : xs = ttL b m T := by rw [← HXS.out]; exact hx
  have hnT : n1 = T + 1 := by have h := HL.out; rw [hX, ttL_len] at h; exact h.symm
  obtain ⟨k1, k3⟩ : inR b 0 1000 = true ∧ inR m 0 1000 = true := by simp [tsOK] at hok; exact ⟨hok.1.1, hok.2⟩
  obtain ⟨m0, m1⟩ := inR_iff.1 k3
  obtain ⟨g, off, _, rfl, _, _⟩ := I1.out.at_ (k := 0) (by omega)
  have CELL : ∀ k : Nat, k < n1 → w4.cell? ⟨g, off + k, none⟩ = some (.int .i64 (tmN b m k)) := fun k hk => by
    obtain ⟨g', off', v, e, hv, hc⟩ := I1.out.at_ hk
    simp only [Option.some.injEq, Addr.mk.injEq, and_true] at e
    obtain ⟨rfl, rfl⟩ := e
    rw [hX, ttL_at (by omega)] at hv
    rw [hc]
    simpa using hv.symm
  obtain ⟨L, hL⟩ : ∃ L, lwN T = L := ⟨_, rfl⟩
  obtain ⟨z, hz⟩ : ∃ z, tmN b m T = z := ⟨_, rfl⟩
  obtain ⟨p1, p2, p3⟩ := tm_bd b m T hT
  have p4 := lwN_bd T
  rw [hL] at p1 p2 p4
  rw [hz] at p1 p2 p3
  have hc := CELL T (by omega)
  rw [hz] at hc
  have hi : ((n1 : Int) - 1).toNat = T := by omega
  have HLW : Hid (lwV (T : Int) = L) := Lib.hid (by
    have e : inR (T : Int) 0 6 = true := inR_t (by omega) (by omega)
    simp only [lwV, e, if_true]
    exact hL)
  have p5 : L ≤ 360 := by omega
  have p6 : z ≤ 2000 := by omega
  have p7 : 0 ≤ z - m := by omega
  clear CELL hX hx hok hnT k1 k3 hL hz p4 HXS HL
  go_wp2_with (fail)
  refine (call_int (impl_LastWait_any _ w4 W4.out) HLW.out).mono ?_
  rintro e w' ⟨rfl, rfl⟩
  go_wp2_with (fail)
  go_ret
  exact ⟨ret_bool (by first | rfl | (simp; done) | (simp; omega)), B4.out⟩
end Go.Proofs.YtdbmglhoohgniaaDoor
