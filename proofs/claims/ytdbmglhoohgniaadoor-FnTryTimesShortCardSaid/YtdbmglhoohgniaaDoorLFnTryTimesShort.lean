/-
  The walk of FnTryTimesShort. (Its words were written by a program of my own.)
-/
import Derived.Test.YtdbmglhoohgniaaDoorDrawY
import Derived.Deep.RegionHeld3
import Derived.Deep.DeepMust
import Derived.Deep.DeepCutAuto
namespace Go.Proofs.YtdbmglhoohgniaaDoor
open Go.RowKit
/-- The last of the times lies between half and all of the waits. -/
theorem tm_bd (b n : Int) : ∀ k : Nat, k ≤ 6 → tmN b n k - n ≤ lwN k ∧ lwN k ≤ 2 * (tmN b n k - n) ∧ n ≤ tmN b n k
  | 0, _ => by simp [tmN, lwN]
  | k + 1, h => by
    obtain ⟨h1, h2, h3⟩ := tm_bd b n k (by omega)
    have hin : inR ((k : Int) + 1) 1 6 = true := inR_t (by omega) (by omega)
    have s := sw_bd (b := b) hin
    have e : boV ((k : Int) + 1) = boN k := boV_nat (k := k) (by omega)
    rw [e] at s
    simp only [tmN, lwN]
    omega
theorem tsV_yes {b t m : Int} (h : 0 < (tsV b t m).length) : ∃ T : Nat, t = (T : Int) ∧ T ≤ 6 ∧ tsV b t m = ttL b m T ∧ tsOK b t m = true := by
  rcases hok : tsOK b t m with _ | _
  · rw [tsV_no hok] at h
    simp at h
  · have h2 := hok
    simp [tsOK] at h2
    obtain ⟨h0, h6⟩ := inR_iff.1 h2.1.2
    exact ⟨t.toNat, by omega, by omega, by simp [tsV, hok], rfl⟩
theorem ttL_at {b m : Int} {T k : Nat} (h : k ≤ T) : (ttL b m T)[k]? = some (tmN b m k) := by
  simp [ttL, List.getElem?_map, List.getElem?_range (show k < T + 1 by omega)]

-- CALL: W s0 wa0
set_option maxHeartbeats 4000000 in
theorem walk_FnTryTimesShort {A : Option Addr} {n c : Nat} {zs : List Int} (w : World) (h : BS w A n c zs) (h800 : WA w) :
    Calls Tryd.prog 15 #[.slice A n c] w fun e w' => e = .returned (.bool true) ∧ Below w.heap.size w w' := by
  have H := Lib.hid h
  clear h
  rcases Nat.lt_or_ge 1048576 n with h1 | h1
  · have h1' : (1048576 : Int) < (n : Int) := by omega
    go_enter Tryd.func15, Tryd.ntmps15
    go_wp2_with (fail)
    go_ret
    exact ⟨rfl, Below.refl _ _⟩
  have h1' : ¬ (1048576 : Int) < (n : Int) := by omega
  go_enter Tryd.func15, Tryd.ntmps15
  go_wp2_with (fail)
  refine (spec_DrawTryTimes_any w H.out h1).mono ?_
  rintro e w1 ⟨b, t, m, rfl, ⟨hb0, hb1⟩, ⟨ht0, ht1⟩, ⟨hm0, hm1⟩, hbl⟩
  have B1 := Lib.hid hbl
  have W1 := Lib.hid (h800.below hbl (Nat.le_refl _))
  clear hbl h800
  obtain ⟨xs, hxs⟩ : ∃ xs, tsV b t m = xs := ⟨_, rfl⟩
  have HXS := Lib.hid hxs
  clear hxs
  go_wp2_with (fail)
  refine (impl_TryTimes_any b t m w1 W1.out).mono ?_
  rintro e w2 ⟨A1, n1, c1, rfl, ho, hb⟩
  rw [HXS.out] at ho
  have hn7 : n1 ≤ 7 := by
    have h1 := ho.len
    have h2 := tsV_le b t m
    rw [HXS.out] at h2
    omega
  have HL := Lib.hid ho.len
  have I1 := Lib.hid ho.is
  have B2 := Lib.hid (B1.out.trans (hb.mono B1.out.size))
  have W2 := Lib.hid (W1.out.below hb (Nat.le_refl _))
  clear ho hb
  rcases Nat.lt_or_ge n1 2 with hs | hs
  · skip
    have hg : (n1 : Int) < 2 := by omega
    go_wp2_with (fail)
    refine (spec_TryTimes_any b t m w2).mono ?_
    rintro e w3 ⟨A2, n2, c2, rfl, ho, hb⟩
    rw [HXS.out] at ho
    have I2 := Lib.hid ho.is
    have J2 := Lib.hid (I1.out.below hb (Nat.le_refl _))
    have B3 := Lib.hid (B2.out.trans (hb.mono B2.out.size))
    have W3 := Lib.hid (W2.out.below hb (Nat.le_refl _))
    clear ho hb
    go_wp2_with (fail)
    refine (call_b (laws_equalInts_any w3 J2.out I2.out) (decide_eq_true rfl)).mono ?_
    rintro e w4 ⟨rfl, mm, h4⟩
    have B4 := Lib.hid (show Below w.heap.size w w4 by rw [h4]; exact below_drewN B3.out mm)
    have W4 := Lib.hid (show WA w4 by rw [h4]; exact W3.out)
    replace I1 := Lib.hid (show IS w4 A1 n1 c1 xs by rw [h4]; exact J2.out.drewN mm)
    clear h4 J2 I2
    go_wp2_with (fail)
    refine (spec_TryTimes_any b t m w4).mono ?_
    rintro e w5 ⟨A4, n4, c4, rfl, ho, hb⟩
    rw [HXS.out] at ho
    have I4 := Lib.hid ho.is
    have J4 := Lib.hid (I1.out.below hb (Nat.le_refl _))
    have B5 := Lib.hid (B4.out.trans (hb.mono B4.out.size))
    have W5 := Lib.hid (W4.out.below hb (Nat.le_refl _))
    clear ho hb
    go_wp2_with (fail)
    refine (call_b (laws_equalInts_any w5 J4.out I4.out) (decide_eq_true rfl)).mono ?_
    rintro e w6 ⟨rfl, mm, h4⟩
    have B6 := Lib.hid (show Below w.heap.size w w6 by rw [h4]; exact below_drewN B5.out mm)
    have W6 := Lib.hid (show WA w6 by rw [h4]; exact W5.out)
    replace I1 := Lib.hid (show IS w6 A1 n1 c1 xs by rw [h4]; exact J4.out.drewN mm)
    clear h4 J4 I4
    go_wp2_with (fail)
    go_ret
    exact ⟨rfl, B6.out⟩
  have hg : ¬ (n1 : Int) < 2 := by omega
  go_wp2_with (fail)
  refine (spec_TryTimes_any b t m w2).mono ?_
  rintro e w3 ⟨A2, n2, c2, rfl, ho, hb⟩
  rw [HXS.out] at ho
  have I2 := Lib.hid ho.is
  have J2 := Lib.hid (I1.out.below hb (Nat.le_refl _))
  have B3 := Lib.hid (B2.out.trans (hb.mono B2.out.size))
  have W3 := Lib.hid (W2.out.below hb (Nat.le_refl _))
  clear ho hb
  go_wp2_with (fail)
  refine (call_b (laws_equalInts_any w3 J2.out I2.out) (decide_eq_true rfl)).mono ?_
  rintro e w4 ⟨rfl, mm, h4⟩
  have B4 := Lib.hid (show Below w.heap.size w w4 by rw [h4]; exact below_drewN B3.out mm)
  have W4 := Lib.hid (show WA w4 by rw [h4]; exact W3.out)
  replace I1 := Lib.hid (show IS w4 A1 n1 c1 xs by rw [h4]; exact J2.out.drewN mm)
  clear h4 J2 I2
  obtain ⟨T, rfl, hT, hx, hok⟩ := tsV_yes (b := b) (t := t) (m := m) (by rw [HXS.out, HL.out]; omega)
  have hX : xs = ttL b m T := by rw [← HXS.out]; exact hx
  have hnT : n1 = T + 1 := by have h := HL.out; rw [hX, ttL_len] at h; exact h.symm
  obtain ⟨k1, k3⟩ : inR b 0 1000 = true ∧ inR m 0 1000 = true := by simp [tsOK] at hok; exact ⟨hok.1.1, hok.2⟩
  have hN : tsV b ((T : Int) - 1) m = xs.take (n1 - 1) := by
    obtain ⟨k, rfl⟩ : ∃ k, T = k + 1 := ⟨T - 1, by omega⟩
    have e : ((k + 1 : Nat) : Int) - 1 = (k : Int) := by omega
    have h2 : tsOK b (k : Int) m = true := by simp only [tsOK, k1, k3, inR_t (show (0 : Int) ≤ (k : Int) by omega) (show (k : Int) ≤ 6 by omega), Bool.and_self]
    rw [e, hX, ttL_next, hnT]
    simp only [tsV, h2, if_true]
    rw [Nat.add_sub_cancel, List.take_append_of_le_length (by rw [ttL_len]; omega), List.take_of_length_le (by rw [ttL_len]; omega)]
    rfl
  obtain ⟨p, hp⟩ : ∃ p, n1 = p + 1 := ⟨n1 - 1, by omega⟩
  have hp1 : n1 - 1 = p := by omega
  rw [hp1] at hN
  have w1' : IntKind.i64.wrap ((T : Int) - 1) = (T : Int) - 1 := by rw [IntKind.wrap_i64]; omega
  have w2' : IntKind.i64.wrap ((n1 : Int) - 1) = (p : Int) := by rw [IntKind.wrap_i64]; omega
  have hcap := I1.out.2.1
  have hp0 : (0 : Int) ≤ (p : Int) := by omega
  have hle : (p : Int) ≤ (c1 : Int) := by omega
  have HN := Lib.hid hN
  obtain ⟨g, off, _, rfl, _, _⟩ := I1.out.at_ (k := 0) (by omega)
  have I7 : Hid (IS w4 (some ⟨g, off, none⟩) p c1 (xs.take p)) := Lib.hid (by simpa using I1.out.cut (lo := 0) (hi := p) (by omega) (by omega))
  clear hX hx hok hnT k1 k3 hN HXS HL hp hp1 hcap
  go_wp2_with (fail)
  go_region_held3 (fun w' => True) (first | exact True.intro | go_keep) (first
    | (go_at_call 21; go_must (refine (impl_TryTimes_any b _ m _ W4.out.drew).mono ?_; rintro e w5 ⟨A5, n5, c5, rfl, ho5, hb5⟩; rw [HN.out] at ho5; have I5 := Lib.hid ho5.is; have I8 := Lib.hid (I7.out.drew.below hb5 (Nat.le_refl _)); have B5 := Lib.hid (B4.out.drew.trans (hb5.mono B4.out.size)); clear ho5 hb5))
    | (go_at_call 30; go_must (refine (call_b (laws_equalInts_any _ I5.out I8.out) (decide_eq_true rfl)).mono ?_; rintro e w6 ⟨rfl, mm6, h6⟩; have B6 := Lib.hid (show Below w.heap.size w w6 by rw [h6]; exact below_drewN B5.out mm6); clear h6)))
  all_goals (go_wp2_with (fail); go_ret; exact ⟨rfl, B6.out⟩)
end Go.Proofs.YtdbmglhoohgniaaDoor
