/-
  The walk of FnTryTimes. (Its words were written by a program of my own.)
-/
import Derived.Test.YtdbmglhoohgniaaDoorDrawY
import Derived.Deep.RegionHeld3
import Derived.Deep.DeepMust
import Derived.Deep.DeepCutAuto
namespace Go.Proofs.YtdbmglhoohgniaaDoor
open Go.RowKit
/-- The last of the times lies between half and all of the waits. -/
theorem tm_bd (b n : Int) : ∀ k : Nat, k ≤ 6 → tmN b n k - n ≤ lwN k ∧ lwN k ≤ 2 * (tmN b n k - n) ∧ n ≤ tmN b n k
  | 0, _ => by simp [tmN, lwN]
  | k + 1, h => by
    obtain ⟨h1, h2, h3⟩ := tm_bd b n k (by omega)
    have hin : inR ((k : Int) + 1) 1 6 = true := inR_t (by omega) (by omega)
    have s := sw_bd (b := b) hin
    have e : boV ((k : Int) + 1) = boN k := boV_nat (k := k) (by omega)
    rw [e] at s
    simp only [tmN, lwN]
    omega
theorem tsV_yes {b t m : Int} (h : 0 < (tsV b t m).length) : ∃ T : Nat, t = (T : Int) ∧ T ≤ 6 ∧ tsV b t m = ttL b m T ∧ tsOK b t m = true := by
  rcases hok : tsOK b t m with _ | _
  · rw [tsV_no hok] at h
    simp at h
  · have h2 := hok
    simp [tsOK] at h2
    obtain ⟨h0, h6⟩ := inR_iff.1 h2.1.2
    exact ⟨t.toNat, by omega, by omega, by simp [tsV, hok], rfl⟩
theorem ttL_at {b m : Int} {T k : Nat} (h : k ≤ T) : (ttL b m T)[k]? = some (tmN b m k) := by
  simp [ttL, List.getElem?_map, List.getElem?_range (show k < T + 1 by omega)]

-- CALL: W s0 wa0
set_option maxHeartbeats 4000000 in
theorem walk_FnTryTimes {A : Option Addr} {n c : Nat} {zs : List Int} (w : World) (h : BS w A n c zs) (h800 : WA w) :
    Calls Tryd.prog 11 #[.slice A n c] w fun e w' => e = .returned (.bool true) ∧ Below w.heap.size w w' := by
  have H := Lib.hid h
  clear h
  rcases Nat.lt_or_ge 1048576 n with h1 | h1
  · have h1' : (1048576 : Int) < (n : Int) := by omega
    go_enter Tryd.func11, Tryd.ntmps11
    go_wp2_with (fail)
    go_ret
    exact ⟨rfl, Below.refl _ _⟩
  have h1' : ¬ (1048576 : Int) < (n : Int) := by omega
  go_enter Tryd.func11, Tryd.ntmps11
  go_wp2_with (fail)
  refine (spec_DrawTryTimes_any w H.out h1).mono ?_
  rintro e w1 ⟨b, t, m, rfl, ⟨hb0, hb1⟩, ⟨ht0, ht1⟩, ⟨hm0, hm1⟩, hbl⟩
  have B1 := Lib.hid hbl
  have W1 := Lib.hid (h800.below hbl (Nat.le_refl _))
  clear hbl h800
  obtain ⟨xs, hxs⟩ : ∃ xs, tsV b t m = xs := ⟨_, rfl⟩
  have HXS := Lib.hid hxs
  clear hxs
  go_wp2_with (fail)
  refine (impl_TryTimes_any b t m w1 W1.out).mono ?_
  rintro e w2 ⟨A1, n1, c1, rfl, ho, hb⟩
  rw [HXS.out] at ho
  have hn7 : n1 ≤ 7 := by
    have h1 := ho.len
    have h2 := tsV_le b t m
    rw [HXS.out] at h2
    omega
  have HL := Lib.hid ho.len
  have I1 := Lib.hid ho.is
  have B2 := Lib.hid (B1.out.trans (hb.mono B1.out.size))
  have W2 := Lib.hid (W1.out.below hb (Nat.le_refl _))
  clear ho hb
  rcases Nat.lt_or_ge n1 1 with hs | hs
  · skip
    have hg : ((n1 : Int) == 0) = true := by simp; omega
    go_wp2_with (fail)
    refine (spec_TryTimes_any b t m w2).mono ?_
    rintro e w3 ⟨A2, n2, c2, rfl, ho, hb⟩
    rw [HXS.out] at ho
    have I2 := Lib.hid ho.is
    have J2 := Lib.hid (I1.out.below hb (Nat.le_refl _))
    have B3 := Lib.hid (B2.out.trans (hb.mono B2.out.size))
    have W3 := Lib.hid (W2.out.below hb (Nat.le_refl _))
    clear ho hb
    go_wp2_with (fail)
    refine (call_b (laws_equalInts_any w3 J2.out I2.out) (decide_eq_true rfl)).mono ?_
    rintro e w4 ⟨rfl, mm, h4⟩
    have B4 := Lib.hid (show Below w.heap.size w w4 by rw [h4]; exact below_drewN B3.out mm)
    have W4 := Lib.hid (show WA w4 by rw [h4]; exact W3.out)
    replace I1 := Lib.hid (show IS w4 A1 n1 c1 xs by rw [h4]; exact J2.out.drewN mm)
    clear h4 J2 I2
    go_wp2_with (fail)
    refine (spec_TryTimes_any b t m w4).mono ?_
    rintro e w5 ⟨A4, n4, c4, rfl, ho, hb⟩
    rw [HXS.out] at ho
    have I4 := Lib.hid ho.is
    have J4 := Lib.hid (I1.out.below hb (Nat.le_refl _))
    have B5 := Lib.hid (B4.out.trans (hb.mono B4.out.size))
    have W5 := Lib.hid (W4.out.below hb (Nat.le_refl _))
    clear ho hb
    go_wp2_with (fail)
    refine (call_b (laws_equalInts_any w5 J4.out I4.out) (decide_eq_true rfl)).mono ?_
    rintro e w6 ⟨rfl, mm, h4⟩
    have B6 := Lib.hid (show Below w.heap.size w w6 by rw [h4]; exact below_drewN B5.out mm)
    have W6 := Lib.hid (show WA w6 by rw [h4]; exact W5.out)
    replace I1 := Lib.hid (show IS w6 A1 n1 c1 xs by rw [h4]; exact J4.out.drewN mm)
    clear h4 J4 I4
    go_wp2_with (fail)
    go_ret
    exact ⟨rfl, B6.out⟩
  have hg : ((n1 : Int) == 0) = false := by simp; omega
  have hgt : 0 < (n1 : Int) := by omega
  go_wp2_with (fail)
  refine (spec_TryTimes_any b t m w2).mono ?_
  rintro e w3 ⟨A2, n2, c2, rfl, ho, hb⟩
  rw [HXS.out] at ho
  have I2 := Lib.hid ho.is
  have J2 := Lib.hid (I1.out.below hb (Nat.le_refl _))
  have B3 := Lib.hid (B2.out.trans (hb.mono B2.out.size))
  have W3 := Lib.hid (W2.out.below hb (Nat.le_refl _))
  clear ho hb
  go_wp2_with (fail)
  refine (call_b (laws_equalInts_any w3 J2.out I2.out) (decide_eq_true rfl)).mono ?_
  rintro e w4 ⟨rfl, mm, h4⟩
  have B4 := Lib.hid (show Below w.heap.size w w4 by rw [h4]; exact below_drewN B3.out mm)
  have W4 := Lib.hid (show WA w4 by rw [h4]; exact W3.out)
  replace I1 := Lib.hid (show IS w4 A1 n1 c1 xs by rw [h4]; exact J2.out.drewN mm)
  clear h4 J2 I2
  obtain ⟨T, rfl, hT, hx, hok⟩ := tsV_yes (b := b) (t := t) (m := m) (by rw [HXS.out, HL.out]; omega)
  have hX : xs = ttL b m T := by rw [← HXS.out]; exact hx
  have hnT : n1 = T + 1 := by have h := HL.out; rw [hX, ttL_len] at h; exact h.symm
  obtain ⟨k1, k3⟩ : inR b 0 1000 = true ∧ inR m 0 1000 = true := by simp [tsOK] at hok; exact ⟨hok.1.1, hok.2⟩
  obtain ⟨m0, m1⟩ := inR_iff.1 k3
  obtain ⟨g, off, _, rfl, _, _⟩ := I1.out.at_ (k := 0) (by omega)
  have CELL : ∀ k : Nat, k < n1 → w4.cell? ⟨g, off + k, none⟩ = some (.int .i64 (tmN b m k)) := fun k hk => by
    obtain ⟨g', off', v, e, hv, hc⟩ := I1.out.at_ hk
    simp only [Option.some.injEq, Addr.mk.injEq, and_true] at e
    obtain ⟨rfl, rfl⟩ := e
    rw [hX, ttL_at (by omega)] at hv
    rw [hc]
    simpa using hv.symm
  have hc0 : w4.cell? ⟨g, off, none⟩ = some (.int .i64 m) := by simpa [tmN] using CELL 0 (by omega)
  have HC := Lib.hid CELL
  have HN := Lib.hid hnT
  clear CELL hX hx hok hnT k1 k3 HXS HL
  go_wp2_with (fail)
  go_loopw [7] (fun i wr => ∃ k p mm : Nat, k ≤ n1 ∧ i = .int .i64 (k : Int) ∧ wr = w4.drewN mm ∧ Hid (k = p + 1)) (fun i _ => n1 - (intOf i).toNat)
  case atStart => exact ⟨1, 0, 0, by omega, rfl, rfl, Lib.hid rfl⟩
  case round =>
    obtain ⟨k, p, mm, hk, rfl, rfl, hkp⟩ := hrel
    by_cases hlt : k < n1
    · have hlt' : (k : Int) < (n1 : Int) := by omega
      have hT2 : k ≤ 6 := by have := HN.out; omega
      obtain ⟨x, hx⟩ : ∃ x, boV (k : Int) = x := ⟨_, rfl⟩
      obtain ⟨s1, s2, s3, s4⟩ := sw_bd (b := b) (inR_t (show (1 : Int) ≤ (k : Int) by have := hkp.out; omega) (show (k : Int) ≤ 6 by omega))
      have q1 := tm_bd b m p (by have := hkp.out; omega)
      have q2 := lwN_bd p
      have e2 : tmN b m k = tmN b m p + swV b (k : Int) := by rw [hkp.out]; rfl
      obtain ⟨u, hu⟩ : ∃ u, tmN b m p = u := ⟨_, rfl⟩
      obtain ⟨v, hv⟩ : ∃ v, tmN b m k = v := ⟨_, rfl⟩
      rw [hx] at s1 s2 s4
      have c1 : w4.cell? ⟨g, off + p, none⟩ = some (.int .i64 u) := by rw [← hu]; exact HC.out p (by have := hkp.out; omega)
      have c2 : w4.cell? ⟨g, off + k, none⟩ = some (.int .i64 v) := by rw [← hv]; exact HC.out k (by omega)
      rw [hu] at q1 e2
      rw [hv] at e2
      have hp6 : p ≤ 5 := by have := hkp.out; omega
      have r1 : v - u ≤ x := by omega
      have r2 : x ≤ 2 * (v - u) := by omega
      have r3 : 0 ≤ v - u := by omega
      have r4 : 0 ≤ u ∧ u ≤ 2000 ∧ 0 ≤ v ∧ v ≤ 2000 := by omega
      obtain ⟨r40, r41, r42, r43⟩ := r4
      have z1 : (0 : Int) ≤ (k : Int) := by omega
      have z2 : (0 : Int) ≤ (p : Int) := by omega
      have z3 : (p : Int) < (n1 : Int) := by have := hkp.out; omega
      have w1' : IntKind.i64.wrap ((k : Int) - 1) = (p : Int) := by rw [IntKind.wrap_i64]; have := hkp.out; omega
      have w3' : IntKind.i64.wrap (v - u) = v - u := by rw [IntKind.wrap_i64]; omega
      have HX := Lib.hid hx
      clear q1 q2 e2 hu hv hx s1 s2 s3 s4
      go_wp2_with (go_at_call 17; refine (call_int (impl_BackoffOf_any _ _ (W4.out.drewN mm)) HX.out).mono ?_; rintro e w' ⟨rfl, rfl⟩)
      go_quiet (fail)
      go_wp2_with (fail)
      go_roundw
      case rel => exact ⟨k + 1, k, _, by omega, by go_num, rfl, Lib.hid rfl⟩
      case measure => simp [intOf]; omega
    · have hlt' : ¬ (k : Int) < (n1 : Int) := by omega
      have hc1 : w4.cell? ⟨g, off, none⟩ = some (.int .i64 m) := hc0
      have hc2 : w4.cell? ⟨g, off + 0, none⟩ = some (.int .i64 m) := hc0
      go_wp2_with (fail)
      go_ret
      have e := HN.out
      exact ⟨ret_bool (by simp; omega), below_drewN B4.out mm⟩
end Go.Proofs.YtdbmglhoohgniaaDoor
