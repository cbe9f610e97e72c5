/-
  The walk of FnCutBatchesFull. (Its words were written by a program of my own.)
-/
import Derived.Test.YtpodfjblojmkeaaDrawC
import Derived.Test.YtpodfjblojmkeaaCuP
import Derived.Deep.RegionHeld3
import Derived.Deep.DeepMust
import Derived.Deep.DeepCutAuto
namespace Go.Proofs.Ytpodfjblojmkeaa
open Go.RowKit
-- CALL: W s0
set_option maxHeartbeats 8000000 in
theorem walk_FnCutBatchesFull {A : Option Addr} {n c : Nat} {zs : List Int} (w : World) (h : BS w A n c zs) :
    Calls Try.prog 11 #[.slice A n c] w fun e w' => e = .returned (.bool true) ∧ Below w.heap.size w w' := by
  have H := Lib.hid h
  clear h
  rcases Nat.lt_or_ge 1048576 n with h1 | h1
  · have h1' : (1048576 : Int) < (n : Int) := by omega
    go_enter Try.func11, Try.ntmps11
    go_wp2_with (fail)
    go_ret
    exact ⟨rfl, Below.refl _ _⟩
  have h1' : ¬ (1048576 : Int) < (n : Int) := by omega
  go_enter Try.func11, Try.ntmps11
  go_wp2_with (fail)
  refine (spec_DrawCutBatches_any w H.out h1).mono ?_
  rintro e w1 ⟨xs, A1, n1, c1, a, m, rfl, hn14, ⟨a0, a1⟩, ⟨m0, m1⟩, i1, hbl⟩
  have T1 := Lib.hid i1
  have B1 := Lib.hid hbl
  have HXL := Lib.hid i1.len
  clear i1 hbl
  obtain ⟨os, hos⟩ : ∃ os, cbV xs a m = os := ⟨_, rfl⟩
  have HOS := Lib.hid hos
  clear hos
  go_wp2_with (fail)
  refine (impl_CutBatches_any a m w1 T1.out).mono ?_
  rintro e w2 ⟨A2, n2, c2, rfl, ho, hb⟩
  rw [HOS.out] at ho
  have hn7 : n2 ≤ 12 := by
    have h1 := ho.len
    have h2 := cbV_le xs a m
    rw [HOS.out] at h2
    omega
  have HL := Lib.hid ho.len
  have I1 := Lib.hid ho.is
  have B2 := Lib.hid (B1.out.trans (hb.mono B1.out.size))
  replace T1 := Lib.hid (T1.out.below hb (Nat.le_refl _))
  clear ho hb
  obtain ⟨ls, hls⟩ : ∃ ls, bsV xs a m = ls := ⟨_, rfl⟩
  have HLS := Lib.hid hls
  clear hls
  go_wp2_with (fail)
  refine (impl_BatchBytes_any a m w2 T1.out).mono ?_
  rintro e w3 ⟨A3, n3, c3, rfl, ho, hb⟩
  rw [HLS.out] at ho
  obtain rfl : n3 = n2 := by
    have h1 := ho.len
    have h2 := HL.out
    rw [← HLS.out] at h1
    rw [← HOS.out] at h2
    simp [cbV, bsV, cntL, sumL2] at h1 h2
    omega
  have HL3 := Lib.hid ho.len
  have L1 := Lib.hid ho.is
  have B3 := Lib.hid (B2.out.trans (hb.mono B2.out.size))
  replace T1 := Lib.hid (T1.out.below hb (Nat.le_refl _))
  replace I1 := Lib.hid (I1.out.below hb (Nat.le_refl _))
  clear ho hb
  have hnn : ((n3 : Int) != (n3 : Int)) = false := by simp
  rcases Nat.lt_or_ge n3 1 with hs | hs
  · skip
    have hg : ((n3 : Int) == 0) = true := by simp; omega
    go_wp2_with (fail)
    refine (spec_CutBatches_any a _ w3 T1.out).mono ?_
    rintro e w4 ⟨A3_, n3_, c3_, rfl, ho, hb⟩
    rw [HOS.out] at ho
    have K3 := Lib.hid ho.is
    have J3 := Lib.hid (I1.out.below hb (Nat.le_refl _))
    have TJ := Lib.hid (T1.out.below hb (Nat.le_refl _))
    have B4 := Lib.hid (B3.out.trans (hb.mono B3.out.size))
    have LJ := Lib.hid (L1.out.below hb (Nat.le_refl _))
    clear ho hb
    go_wp2_with (fail)
    refine (call_b (laws_equalInts_any w4 J3.out K3.out) (decide_eq_true rfl)).mono ?_
    rintro e w5 ⟨rfl, mm, h4⟩
    have B5 := Lib.hid (show Below w.heap.size w w5 by rw [h4]; exact below_drewN B4.out mm)
    replace I1 := Lib.hid (show IS w5 A2 n3 c2 os by rw [h4]; exact J3.out.drewN mm)
    replace T1 := Lib.hid (show IS w5 A1 n1 c1 xs by rw [h4]; exact TJ.out.drewN mm)
    replace L1 := Lib.hid (show IS w5 A3 n3 c3 ls by rw [h4]; exact LJ.out.drewN mm)
    clear h4 J3 K3 TJ LJ
    go_wp2_with (fail)
    refine (spec_CutBatches_any a _ w5 T1.out).mono ?_
    rintro e w6 ⟨A5_, n5_, c5_, rfl, ho, hb⟩
    rw [HOS.out] at ho
    have K5 := Lib.hid ho.is
    have J5 := Lib.hid (I1.out.below hb (Nat.le_refl _))
    have TJ := Lib.hid (T1.out.below hb (Nat.le_refl _))
    have B6 := Lib.hid (B5.out.trans (hb.mono B5.out.size))
    have LJ := Lib.hid (L1.out.below hb (Nat.le_refl _))
    clear ho hb
    go_wp2_with (fail)
    refine (call_b (laws_equalInts_any w6 J5.out K5.out) (decide_eq_true rfl)).mono ?_
    rintro e w7 ⟨rfl, mm, h4⟩
    have B7 := Lib.hid (show Below w.heap.size w w7 by rw [h4]; exact below_drewN B6.out mm)
    replace I1 := Lib.hid (show IS w7 A2 n3 c2 os by rw [h4]; exact J5.out.drewN mm)
    replace T1 := Lib.hid (show IS w7 A1 n1 c1 xs by rw [h4]; exact TJ.out.drewN mm)
    replace L1 := Lib.hid (show IS w7 A3 n3 c3 ls by rw [h4]; exact LJ.out.drewN mm)
    clear h4 J5 K5 TJ LJ
    go_wp2_with (fail)
    go_ret
    exact ⟨rfl, B7.out⟩
  have hg : ((n3 : Int) == 0) = false := by simp; omega
  have hgt : 0 < (n3 : Int) := by omega
  go_wp2_with (fail)
  refine (spec_CutBatches_any a _ w3 T1.out).mono ?_
  rintro e w4 ⟨A3_, n3_, c3_, rfl, ho, hb⟩
  rw [HOS.out] at ho
  have K3 := Lib.hid ho.is
  have J3 := Lib.hid (I1.out.below hb (Nat.le_refl _))
  have TJ := Lib.hid (T1.out.below hb (Nat.le_refl _))
  have B4 := Lib.hid (B3.out.trans (hb.mono B3.out.size))
  have LJ := Lib.hid (L1.out.below hb (Nat.le_refl _))
  clear ho hb
  go_wp2_with (fail)
  refine (call_b (laws_equalInts_any w4 J3.out K3.out) (decide_eq_true rfl)).mono ?_
  rintro e w5 ⟨rfl, mm, h4⟩
  have B5 := Lib.hid (show Below w.heap.size w w5 by rw [h4]; exact below_drewN B4.out mm)
  replace I1 := Lib.hid (show IS w5 A2 n3 c2 os by rw [h4]; exact J3.out.drewN mm)
  replace T1 := Lib.hid (show IS w5 A1 n1 c1 xs by rw [h4]; exact TJ.out.drewN mm)
  replace L1 := Lib.hid (show IS w5 A3 n3 c3 ls by rw [h4]; exact LJ.out.drewN mm)
  clear h4 J3 K3 TJ LJ
  have hok : cutOK xs a m = true := by
    rcases h : cutOK xs a m with _ | _
    · have e := HOS.out
      rw [cbV_no h] at e
      have e2 := HL.out
      rw [← e] at e2
      simp at e2
      omega
    · rfl
  obtain ⟨h12, hr, hbr, hmr⟩ := cut_in hok
  obtain ⟨hb0, hb1⟩ := inR_iff.1 hbr
  obtain ⟨hm0, hm1⟩ := inR_iff.1 hmr
  obtain ⟨M, rfl⟩ := Int.eq_ofNat_of_zero_le (show 0 ≤ m by omega)
  have hM1 : 1 ≤ M := by omega
  have hO : os = cntL (BB a M xs) := by rw [← HOS.out]; simp [cbV, bbV, hok]
  have hxl : xs.length = n1 := HXL.out
  have hn12 : n1 ≤ 12 := by omega
  have hLS : ls = sumL2 (BB a M xs) := by rw [← HLS.out]; simp [bsV, bbV, hok]
  have HK : Hid (∀ k, k + 1 < n3 → ∃ s N : Nat, s + N < n1 ∧ 1 ≤ N ∧ (os.take k).sum = (s : Int) ∧ os.getD k 0 = (N : Int) ∧ (N < M → a < ls.getD k 0 + xs.getD (s + N) 0)) := Lib.hid fun k hk => by
    obtain ⟨s, N, q1, q2, q3, q4, q5, q6, q7⟩ := bb_kth hb0 hM1 k xs hr (by
      have e := HL.out
      rw [hO] at e
      simp [cntL] at e
      omega)
    rw [← hO] at q3 q4
    rw [← hLS] at q5
    exact ⟨s, N, by omega, q2, q3, q4, q5⟩
  have HXB : Hid (∀ k, k < n1 → 1 ≤ xs.getD k 0 ∧ xs.getD k 0 ≤ 20) := Lib.hid fun k hk =>
    at_bd hr (by omega)
  have HLB : Hid (∀ k, k < n3 → 1 ≤ ls.getD k 0 ∧ ls.getD k 0 ≤ a) := Lib.hid fun k hk =>
    at_bd (by rw [hLS]; exact bs_all hb0 hM1 hr) (by have := HL3.out; omega)
  have hn1p : 1 ≤ n1 := by
    rcases Nat.eq_zero_or_pos n1 with h | h
    · have hx : xs = [] := List.eq_nil_of_length_eq_zero (by omega)
      have e := HL.out
      rw [hO, hx, BB_nil] at e
      simp [cntL] at e
      omega
    · exact h
  obtain ⟨g, off, _, rfl, _, _⟩ := I1.out.at_ (k := 0) (by omega)
  have OC : Hid (∀ k : Nat, k < n3 → w5.cell? ⟨g, off + k, none⟩ = some (.int .i64 (os.getD k 0))) := Lib.hid fun k hk => by
    obtain ⟨g', off', v, e, hv, hc⟩ := I1.out.at_ hk
    simp only [Option.some.injEq, Addr.mk.injEq, and_true] at e
    obtain ⟨rfl, rfl⟩ := e
    rw [hc, getD_of hv]
  obtain ⟨g3, off3, _, rfl, _, _⟩ := L1.out.at_ (k := 0) (by omega)
  have LC : Hid (∀ k : Nat, k < n3 → w5.cell? ⟨g3, off3 + k, none⟩ = some (.int .i64 (ls.getD k 0))) := Lib.hid fun k hk => by
    obtain ⟨g', off', v, e, hv, hc⟩ := L1.out.at_ hk
    simp only [Option.some.injEq, Addr.mk.injEq, and_true] at e
    obtain ⟨rfl, rfl⟩ := e
    rw [hc, getD_of hv]
  obtain ⟨b, off2, _, rfl, _, _⟩ := T1.out.at_ (k := 0) (by omega)
  have TC : Hid (∀ k : Nat, k < n1 → w5.cell? ⟨b, off2 + k, none⟩ = some (.int .i64 (xs.getD k 0))) := Lib.hid fun k hk => by
    obtain ⟨g', off', v, e, hv, hc⟩ := T1.out.at_ hk
    simp only [Option.some.injEq, Addr.mk.injEq, and_true] at e
    obtain ⟨rfl, rfl⟩ := e
    rw [hc, getD_of hv]
  clear hok h12 hr hbr hmr hO hLS hxl
  go_wp2_with (fail)
  go_loopw [8, 9] (fun av iv wr => ∃ k s mm : Nat, k + 1 ≤ n3 ∧ s ≤ n1 ∧ iv = .int .i64 (k : Int) ∧ av = .int .i64 (s : Int) ∧ wr = w5.drewN mm ∧ Hid ((os.take k).sum = (s : Int))) (fun _ i _ => n3 - (intOf i).toNat)
  case atStart => exact ⟨0, 0, 0, by omega, Nat.zero_le _, rfl, rfl, rfl, Lib.hid (by simp)⟩
  case round =>
    obtain ⟨k, s, mm, hk, hs1, rfl, rfl, rfl, hsum⟩ := hrel
    by_cases hlt : k + 1 < n3
    · have hlt' : (k : Int) + 1 < (n3 : Int) := by omega
      obtain ⟨s', N, q1, q2, q3, q4, q5⟩ := HK.out k hlt
      obtain rfl : s' = s := by have := hsum.out; rw [q3] at this; omega
      obtain ⟨e, he⟩ : ∃ e, s' + N = e := ⟨_, rfl⟩
      rw [he] at q1 q5
      have c1 := OC.out k (by omega)
      rw [q4] at c1
      have c2' := LC.out k (by omega)
      have c3' := TC.out e q1
      have l1 := HLB.out k (by omega)
      have x1 := HXB.out e q1
      obtain ⟨l, hl⟩ : ∃ l, ls.getD k 0 = l := ⟨_, rfl⟩
      obtain ⟨x, hx⟩ : ∃ x, xs.getD e 0 = x := ⟨_, rfl⟩
      rw [hl] at c2' l1 q5
      rw [hx] at c3' x1 q5
      obtain ⟨l10, l11⟩ := l1
      obtain ⟨x10, x11⟩ := x1
      have wse : IntKind.i64.wrap ((s' : Int) + (N : Int)) = (e : Int) := by rw [IntKind.wrap_i64]; omega
      have wse2 : (s' : Int) + (N : Int) = (e : Int) := by omega
      have wlx : IntKind.i64.wrap (l + x) = l + x := by rw [IntKind.wrap_i64]; omega
      have zk : (0 : Int) ≤ (k : Int) := by omega
      have zk2 : (k : Int) < (n3 : Int) := by omega
      have ze : (0 : Int) ≤ (e : Int) := by omega
      have ze2 : (e : Int) < (n1 : Int) := by omega
      have gge : ¬ n1 ≤ e := by omega
      have gge2 : decide (n1 ≤ e) = false := by simp; omega
      have HSN : Hid ((os.take (k + 1)).sum = (e : Int)) := Lib.hid (by
        have hkl : k < os.length := by rw [HL.out]; omega
        rw [List.take_succ_eq_append_getElem hkl, List.sum_append, q3]
        have e2 : os[k] = (N : Int) := by rw [← q4, List.getD_eq_getElem?_getD, List.getElem?_eq_getElem hkl]; rfl
        rw [e2]
        simp
        omega)
      rcases Nat.lt_or_ge N M with hNM | hNM
      · have gl : (N : Int) < (M : Int) := by omega
        have gs : ¬ l + x ≤ a := by have := q5 hNM; omega
        have gs2 : decide (l + x ≤ a) = false := by simp; omega
        clear q3 q4 q5 hl hx he hsum
        go_wp2_with (fail)
        go_quiet (fail)
        go_wp2_with (fail)
        go_roundw
        case rel => exact ⟨k + 1, e, _, by omega, by omega, by go_num, by first | rfl | go_num, rfl, HSN⟩
        case measure => simp [intOf]; omega
      · have gl : ¬ N < M := by omega
        have gl2 : decide (N < M) = false := by simp; omega
        clear q3 q4 q5 hl hx he hsum
        go_wp2_with (fail)
        go_quiet (fail)
        go_wp2_with (fail)
        go_roundw
        case rel => exact ⟨k + 1, e, _, by omega, by omega, by go_num, by first | rfl | go_num, rfl, HSN⟩
        case measure => simp [intOf]; omega
    · have hlt' : ¬ (k : Int) + 1 < (n3 : Int) := by omega
      go_wp2_with (fail)
      go_ret
      exact ⟨rfl, below_drewN B5.out mm⟩
end Go.Proofs.Ytpodfjblojmkeaa
