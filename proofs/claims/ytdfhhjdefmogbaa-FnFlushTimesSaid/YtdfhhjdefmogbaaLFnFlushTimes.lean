/-
  The walk of FnFlushTimes. (Its words were written by a program of my own.)
-/
import Derived.Test.YtdfhhjdefmogbaaDrawF
import Derived.Test.YtdfhhjdefmogbaaFlC
import Derived.Test.YtdfhhjdefmogbaaFlN
import Derived.Deep.RegionHeld3
import Derived.Deep.DeepMust
import Derived.Deep.DeepCutAuto
namespace Go.Proofs.Ytdfhhjdefmogbaa
open Go.RowKit
-- CALL: W s0
set_option maxHeartbeats 8000000 in
theorem walk_FnFlushTimes {A : Option Addr} {n c : Nat} {zs : List Int} (w : World) (h : BS w A n c zs) :
    Calls Try.prog 4 #[.slice A n c] w fun e w' => e = .returned (.bool true) ∧ Below w.heap.size w w' := by
  have H := Lib.hid h
  clear h
  rcases Nat.lt_or_ge 1048576 n with h1 | h1
  · have h1' : (1048576 : Int) < (n : Int) := by omega
    go_enter Try.func4, Try.ntmps4
    go_wp2_with (fail)
    go_ret
    exact ⟨rfl, Below.refl _ _⟩
  have h1' : ¬ (1048576 : Int) < (n : Int) := by omega
  go_enter Try.func4, Try.ntmps4
  go_wp2_with (fail)
  refine (spec_DrawFlushTimes_any w H.out h1).mono ?_
  rintro e w1 ⟨xs, A1, n1, c1, a, m, rfl, hn14, ⟨a0, a1⟩, ⟨m0, m1⟩, i1, hbl⟩
  have T1 := Lib.hid i1
  have B1 := Lib.hid hbl
  have HXL := Lib.hid i1.len
  clear i1 hbl
  obtain ⟨os, hos⟩ : ∃ os, flV xs a m = os := ⟨_, rfl⟩
  have HOS := Lib.hid hos
  clear hos
  go_wp2_with (fail)
  refine (impl_FlushTimes_any a m w1 T1.out).mono ?_
  rintro e w2 ⟨A2, n2, c2, rfl, ho, hb⟩
  rw [HOS.out] at ho
  have hn7 : n2 ≤ 12 := by
    have h1 := ho.len
    have h2 := flV_le xs a m
    rw [HOS.out] at h2
    omega
  have HL := Lib.hid ho.len
  have I1 := Lib.hid ho.is
  have B2 := Lib.hid (B1.out.trans (hb.mono B1.out.size))
  replace T1 := Lib.hid (T1.out.below hb (Nat.le_refl _))
  clear ho hb
  rcases Nat.lt_or_ge n2 1 with hs | hs
  · skip
    have hg : ((n2 : Int) == 0) = true := by simp; omega
    go_wp2_with (fail)
    refine (spec_FlushTimes_any a m w2 T1.out).mono ?_
    rintro e w3 ⟨A2_, n2_, c2_, rfl, ho, hb⟩
    rw [HOS.out] at ho
    have K2 := Lib.hid ho.is
    have J2 := Lib.hid (I1.out.below hb (Nat.le_refl _))
    have TJ := Lib.hid (T1.out.below hb (Nat.le_refl _))
    have B3 := Lib.hid (B2.out.trans (hb.mono B2.out.size))
    clear ho hb
    go_wp2_with (fail)
    refine (call_b (laws_equalInts_any w3 J2.out K2.out) (decide_eq_true rfl)).mono ?_
    rintro e w4 ⟨rfl, mm, h4⟩
    have B4 := Lib.hid (show Below w.heap.size w w4 by rw [h4]; exact below_drewN B3.out mm)
    replace I1 := Lib.hid (show IS w4 A2 n2 c2 os by rw [h4]; exact J2.out.drewN mm)
    replace T1 := Lib.hid (show IS w4 A1 n1 c1 xs by rw [h4]; exact TJ.out.drewN mm)
    clear h4 J2 K2 TJ
    go_wp2_with (fail)
    refine (spec_FlushTimes_any a m w4 T1.out).mono ?_
    rintro e w5 ⟨A4_, n4_, c4_, rfl, ho, hb⟩
    rw [HOS.out] at ho
    have K4 := Lib.hid ho.is
    have J4 := Lib.hid (I1.out.below hb (Nat.le_refl _))
    have TJ := Lib.hid (T1.out.below hb (Nat.le_refl _))
    have B5 := Lib.hid (B4.out.trans (hb.mono B4.out.size))
    clear ho hb
    go_wp2_with (fail)
    refine (call_b (laws_equalInts_any w5 J4.out K4.out) (decide_eq_true rfl)).mono ?_
    rintro e w6 ⟨rfl, mm, h4⟩
    have B6 := Lib.hid (show Below w.heap.size w w6 by rw [h4]; exact below_drewN B5.out mm)
    replace I1 := Lib.hid (show IS w6 A2 n2 c2 os by rw [h4]; exact J4.out.drewN mm)
    replace T1 := Lib.hid (show IS w6 A1 n1 c1 xs by rw [h4]; exact TJ.out.drewN mm)
    clear h4 J4 K4 TJ
    go_wp2_with (fail)
    go_ret
    exact ⟨rfl, B6.out⟩
  have hg : ((n2 : Int) == 0) = false := by simp; omega
  have hgt : 0 < (n2 : Int) := by omega
  go_wp2_with (fail)
  refine (spec_FlushTimes_any a m w2 T1.out).mono ?_
  rintro e w3 ⟨A2_, n2_, c2_, rfl, ho, hb⟩
  rw [HOS.out] at ho
  have K2 := Lib.hid ho.is
  have J2 := Lib.hid (I1.out.below hb (Nat.le_refl _))
  have TJ := Lib.hid (T1.out.below hb (Nat.le_refl _))
  have B3 := Lib.hid (B2.out.trans (hb.mono B2.out.size))
  clear ho hb
  go_wp2_with (fail)
  refine (call_b (laws_equalInts_any w3 J2.out K2.out) (decide_eq_true rfl)).mono ?_
  rintro e w4 ⟨rfl, mm, h4⟩
  have B4 := Lib.hid (show Below w.heap.size w w4 by rw [h4]; exact below_drewN B3.out mm)
  replace I1 := Lib.hid (show IS w4 A2 n2 c2 os by rw [h4]; exact J2.out.drewN mm)
  replace T1 := Lib.hid (show IS w4 A1 n1 c1 xs by rw [h4]; exact TJ.out.drewN mm)
  clear h4 J2 K2 TJ
  have hok : flOK xs a m = true := by
    rcases h : flOK xs a m with _ | _
    · have e := HOS.out
      rw [flV_no h] at e
      have e2 := HL.out
      rw [← e] at e2
      simp at e2
      omega
    · rfl
  obtain ⟨h12, hr, hasc, ha, hm⟩ := fl_in hok
  obtain ⟨ha0, ha1⟩ := inR_iff.1 ha
  obtain ⟨hm0, hm1⟩ := inR_iff.1 hm
  obtain ⟨M, rfl⟩ := Int.eq_ofNat_of_zero_le (show 0 ≤ m by omega)
  have hM1 : 1 ≤ M := by omega
  have hO : os = FL a M xs := by rw [← HOS.out]; simp [flV, hok]
  have hne : xs ≠ [] := by
    rintro rfl
    rw [FL_nil] at hO
    have e2 := HL.out
    rw [hO] at e2
    simp at e2
    omega
  have hn1 : 1 ≤ n1 := by have := HXL.out; have := List.length_pos_iff.2 hne; omega
  obtain ⟨g, off, _, rfl, _, _⟩ := I1.out.at_ (k := 0) (by omega)
  have OC : ∀ k : Nat, k < n2 → w4.cell? ⟨g, off + k, none⟩ = some (.int .i64 (os.getD k 0)) := fun k hk => by
    obtain ⟨g', off', v, e, hv, hc⟩ := I1.out.at_ hk
    simp only [Option.some.injEq, Addr.mk.injEq, and_true] at e
    obtain ⟨rfl, rfl⟩ := e
    rw [hc, getD_of hv]
  obtain ⟨b, off2, _, rfl, _, _⟩ := T1.out.at_ (k := 0) (by omega)
  have TC : ∀ k : Nat, k < n1 → w4.cell? ⟨b, off2 + k, none⟩ = some (.int .i64 (xs.getD k 0)) := fun k hk => by
    obtain ⟨g', off', v, e, hv, hc⟩ := T1.out.at_ hk
    simp only [Option.some.injEq, Addr.mk.injEq, and_true] at e
    obtain ⟨rfl, rfl⟩ := e
    rw [hc, getD_of hv]
  obtain ⟨p1, p2, p3, p4, p5⟩ := FL_props (age := a) (M := M) ha0 hM1 _ xs (Nat.le_refl _) hne hasc
  obtain ⟨d1, d2⟩ := due_bd (age := a) (M := M) hne ha0 hM1 hasc
  have hlen := FL_len (age := a) (many := M) ha0 hM1 _ xs (Nat.le_refl _)
  rw [← p2] at d1 d2
  rw [← hO] at p3 p4 p5 d1 d2 hlen
  have eO := HL.out
  have eX := HXL.out
  rw [eO, eX] at p4 p5 hlen
  obtain ⟨y1, hy1⟩ : ∃ y1, n1 = y1 + 1 := ⟨n1 - 1, by omega⟩
  obtain ⟨y2, hy2⟩ : ∃ y2, n2 = y2 + 1 := ⟨n2 - 1, by omega⟩
  have ey1 : n1 - 1 = y1 := by omega
  have ey2 : n2 - 1 = y2 := by omega
  rw [ey1, ey2] at p4 p5
  have bx := allR_at (k := 0) (by rw [List.getElem?_eq_getElem (by omega), List.getD_eq_getElem?_getD, List.getElem?_eq_getElem (by omega)]; rfl : xs[0]? = some (xs.getD 0 0)) hr
  have bz := allR_at (k := y1) (by rw [List.getElem?_eq_getElem (by omega), List.getD_eq_getElem?_getD, List.getElem?_eq_getElem (by omega)]; rfl : xs[y1]? = some (xs.getD y1 0)) hr
  have c1' : w4.cell? ⟨g, off, none⟩ = some (.int .i64 (os.getD 0 0)) := OC 0 (by omega)
  have c2' : w4.cell? ⟨g, off + y2, none⟩ = some (.int .i64 (os.getD y2 0)) := OC y2 (by omega)
  have c3' : w4.cell? ⟨b, off2, none⟩ = some (.int .i64 (xs.getD 0 0)) := TC 0 (by omega)
  have c4' : w4.cell? ⟨b, off2 + y1, none⟩ = some (.int .i64 (xs.getD y1 0)) := TC y1 (by omega)
  obtain ⟨o0, ho0⟩ : ∃ v, os.getD 0 0 = v := ⟨_, rfl⟩
  obtain ⟨oz, hoz⟩ : ∃ v, os.getD y2 0 = v := ⟨_, rfl⟩
  obtain ⟨t0, ht0⟩ : ∃ v, xs.getD 0 0 = v := ⟨_, rfl⟩
  obtain ⟨tz, htz⟩ : ∃ v, xs.getD y1 0 = v := ⟨_, rfl⟩
  rw [ho0] at c1' d1 d2
  rw [hoz] at c2' p4 p5
  rw [ht0] at c3' bx d1 d2
  rw [htz] at c4' bz p4 p5
  obtain ⟨bx0, bx1⟩ := bx
  obtain ⟨bz0, bz1⟩ := bz
  have HASC := Lib.hid p3
  have HOC := Lib.hid OC
  have wy1 : IntKind.i64.wrap ((n1 : Int) - 1) = (y1 : Int) := by rw [IntKind.wrap_i64]; omega
  have wy2 : IntKind.i64.wrap ((n2 : Int) - 1) = (y2 : Int) := by rw [IntKind.wrap_i64]; omega
  have zy10 : (0 : Int) ≤ (y1 : Int) := by omega
  have zy11 : (y1 : Int) < (n1 : Int) := by omega
  have zy20 : (0 : Int) ≤ (y2 : Int) := by omega
  have zy21 : (y2 : Int) < (n2 : Int) := by omega
  have wt0 : IntKind.i64.wrap (t0 + a) = t0 + a := by rw [IntKind.wrap_i64]; omega
  have wtz : IntKind.i64.wrap (tz + a) = tz + a := by rw [IntKind.wrap_i64]; omega
  have ql : (n2 : Int) ≤ (n1 : Int) := by omega
  clear p1 p2 p3 OC TC ho0 hoz ht0 htz ey1 ey2 hy1 hy2 eO eX hO hne hok h12 hr hasc ha hm hlen
  go_wp2_with (fail)
  go_loopw [7] (fun i wr => ∃ k p mm : Nat, k ≤ n2 ∧ i = .int .i64 (k : Int) ∧ wr = w4.drewN mm ∧ Hid (k = p + 1)) (fun i _ => n2 - (intOf i).toNat)
  case atStart => exact ⟨1, 0, 0, by omega, rfl, rfl, Lib.hid rfl⟩
  case round =>
    obtain ⟨k, p, mm, hk, rfl, rfl, hkp⟩ := hrel
    by_cases hlt : k < n2
    · have hlt' : (k : Int) < (n2 : Int) := by omega
      obtain ⟨u, hu⟩ : ∃ u, os.getD p 0 = u := ⟨_, rfl⟩
      obtain ⟨v, hv⟩ : ∃ v, os.getD k 0 = v := ⟨_, rfl⟩
      have e1 : w4.cell? ⟨g, off + p, none⟩ = some (.int .i64 u) := by rw [← hu]; exact HOC.out p (by have := hkp.out; omega)
      have e2 : w4.cell? ⟨g, off + k, none⟩ = some (.int .i64 v) := by rw [← hv]; exact HOC.out k hlt
      have huv : ¬ v < u := by
        have h := asc_iff.1 HASC.out p (by have := hkp.out; have := HL.out; omega)
        rw [← hkp.out, hu, hv] at h
        omega
      have z1 : (0 : Int) ≤ (k : Int) := by omega
      have z2 : (0 : Int) ≤ (p : Int) := by omega
      have z3 : (p : Int) < (n2 : Int) := by have := hkp.out; omega
      have w1' : IntKind.i64.wrap ((k : Int) - 1) = (p : Int) := by rw [IntKind.wrap_i64]; have := hkp.out; omega
      clear hu hv c1' c2' c3' c4'
      go_wp2_with (fail)
      go_quiet (fail)
      go_wp2_with (fail)
      go_roundw
      case rel => exact ⟨k + 1, k, _, by omega, by go_num, rfl, Lib.hid rfl⟩
      case measure => simp [intOf]; omega
    · have hlt' : ¬ (k : Int) < (n2 : Int) := by omega
      have ql' : n2 ≤ n1 := by omega
      go_wp2_with (fail)
      go_quiet (fail)
      go_wp2_with (fail)
      go_ret
      exact ⟨ret_bool (by first | rfl | (simp; done) | (simp; omega)), below_drewN (below_drewN B4.out mm) nq⟩
end Go.Proofs.Ytdfhhjdefmogbaa
