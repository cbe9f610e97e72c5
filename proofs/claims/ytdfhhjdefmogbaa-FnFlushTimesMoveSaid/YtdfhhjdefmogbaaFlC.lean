/-
  FlushTimes of the model.
-/
import Derived.Test.YtdfhhjdefmogbaaFlB
namespace Go.Proofs.Ytdfhhjdefmogbaa
open Go.RowKit

set_option maxHeartbeats 8000000 in
theorem spec_FlushTimes_any {A : Option Addr} {n c : Nat} {xs : List Int} (age many : Int) (w : World) (h : IS w A n c xs) :
    Calls Try.prog 7 #[.slice A n c, .int .i64 age, .int .i64 many] w (GaveInts 3 w (flV xs age many)) := by
  have hl := h.len
  have HL := Lib.hid hl
  clear hl
  have hcap := h.cap
  have H := Lib.hid h
  clear h
  have I0 := Lib.hid (H.out.alloc (.cells #[] 3))
  have B0 := Lib.hid (below_new w (.cells #[] 3))
  rcases hok : flOK xs age many with _ | _
  · go_enter Try.func7, Try.ntmps7
    go_wp2_with (go_at_call 15; refine (call_b (spec_validTimes_any _ _ _ I0.out) hok).mono ?_; rintro e w1 ⟨rfl, mm0, hw1⟩; have B1 := Lib.hid (show Below w.heap.size w w1 by rw [hw1]; exact below_drewN B0.out mm0); clear hw1)
    go_ret
    exact ⟨_, _, _, rfl, by rw [flV_no hok]; exact OW.none _ _ _, B1.out⟩
  obtain ⟨h12, hr, _, ha, hm⟩ := fl_in hok
  obtain ⟨a0, a1⟩ := inR_iff.1 ha
  obtain ⟨m0, m1⟩ := inR_iff.1 hm
  obtain ⟨M, rfl⟩ := Int.eq_ofNat_of_zero_le (show 0 ≤ many by omega)
  have hM1 : 1 ≤ M := by omega
  have hM12 : M ≤ 12 := by omega
  have HE : Hid (flV xs age (M : Int) = FL age M xs) := Lib.hid (by simp [flV, hok])
  have hn : n ≤ 12 := by have := HL.out; omega
  have HR := Lib.hid hr
  have HOK := Lib.hid hok
  have hO : OW (w.alloc (.cells #[] 3)) 3 w.heap.size (some ⟨w.heap.size, 0, none⟩) 0 0 [] := by simpa using OW.lit w 3 w.heap.size [] (Nat.le_refl _) (by simp)
  have O0 := Lib.hid hO
  clear hok h12 hr ha hm hO
  go_enter Try.func7, Try.ntmps7
  go_wp2_with (go_at_call 15; refine (call_b (spec_validTimes_any _ _ _ I0.out) HOK.out).mono ?_; rintro e w1 ⟨rfl, mm0, hw1⟩; have B1 := Lib.hid (show Below w.heap.size w w1 by rw [hw1]; exact below_drewN B0.out mm0); have O1 := Lib.hid (show OW w1 3 w.heap.size (some ⟨w.heap.size, 0, none⟩) 0 0 [] by rw [hw1]; exact O0.out.drewN mm0); clear hw1)
  go_loopw [7, 8] (fun l i wr => ∃ (k : Nat) (out : List Int) (A1 : Option Addr) (n1 c1 : Nat), n1 ≤ k ∧ k ≤ n ∧ l = .slice A1 n1 c1 ∧ i = .int .i64 (k : Int) ∧ Hid (out ++ FL age M (xs.drop k) = FL age M xs) ∧ Hid (OW wr 3 w.heap.size A1 n1 c1 out) ∧ Hid (Below w.heap.size w wr)) (fun _ i _ => n - (intOf i).toNat)
  case atStart => exact ⟨0, [], _, 0, 0, Nat.le_refl _, Nat.zero_le _, rfl, rfl, Lib.hid rfl, O1, B1⟩
  case round =>
    obtain ⟨k, out, A1, n1, c1, hk1, hk, rfl, rfl, hf, ho, hb⟩ := hrel
    clear B1 O1 B0 O0 I0
    by_cases h0 : k < n
    · have hlt' : (k : Int) < (n : Int) := by omega
      have IW := Lib.hid (H.out.below hb.out (Nat.le_refl _))
      have CELL : Hid (∀ j : Nat, j < n → ∃ b off, A = some ⟨b, off, none⟩ ∧ wr.cell? ⟨b, off + j, none⟩ = some (.int .i64 (xs.getD j 0))) := Lib.hid fun j hj => by
        obtain ⟨b', off', v, e, hv, hc⟩ := IW.out.at_ hj
        exact ⟨b', off', e, by rw [hc, getD_of hv]⟩
      obtain ⟨b, off, v, rfl, hx, hc⟩ := IW.out.at_ h0
      obtain ⟨v0, v1⟩ := allR_at hx HR.out
      have hd := drop_of hx
      have hne : xs.drop k ≠ [] := by rw [hd]; simp
      have hv0 : (xs.drop k).getD 0 0 = v := by rw [hd]; rfl
      have hN1 := nL_pos (age := age) (many := M) hne a0 hM1
      obtain ⟨N, hN⟩ : ∃ N, nL age M (xs.drop k) = N := ⟨_, rfl⟩
      have hNn := FL_next (age := age) (many := M) hne a0 hM1
      rw [hN] at hNn hN1
      have hU : upN (v + age) M (xs.drop k) = N := by rw [← hN, nL, hv0]
      rw [List.drop_drop] at hNn
      have HN := Lib.hid hN
      have HU := Lib.hid hU
      have HNN := Lib.hid hNn
      have HV0 := Lib.hid hv0
      have hwa : IntKind.i64.wrap (v + age) = v + age := by rw [IntKind.wrap_i64]; omega
      have zk : (0 : Int) ≤ (k : Int) := by omega
      clear hd hne hN hNn hU hv0 hx
      go_wp2_with (fail)
      go_loopw [9] (fun i wq => ∃ j mm : Nat, k ≤ j ∧ j ≤ n ∧ j - k ≤ M ∧ i = .int .i64 (j : Int) ∧ wq = wr.drewN mm ∧ Hid (N = (j - k) + upN (v + age) (M - (j - k)) (xs.drop j))) (fun i _ => n - (intOf i).toNat)
      case atStart => exact ⟨k, 0, Nat.le_refl _, hk, by omega, rfl, rfl, Lib.hid (by rw [Nat.sub_self, Nat.zero_add, Nat.sub_zero]; exact HU.out.symm)⟩
      case round =>
        obtain ⟨j, mm, hj1, hj2, hj3, rfl, rfl, hj⟩ := hrel
        have hw1 : IntKind.i64.wrap ((j : Int) - (k : Int)) = (j : Int) - (k : Int) := by rw [IntKind.wrap_i64]; omega
        by_cases hgo : j < n ∧ j - k < M ∧ xs.getD j 0 ≤ v + age
        · obtain ⟨g1, g2, g3⟩ := hgo
          have g1' : (j : Int) < (n : Int) := by omega
          have g2' : (j : Int) - (k : Int) < (M : Int) := by omega
          obtain ⟨_, _, e0, cj⟩ := CELL.out j g1
          simp only [Option.some.injEq, Addr.mk.injEq, and_true] at e0
          obtain ⟨rfl, rfl⟩ := e0
          have hxj : xs[j]? = some (xs.getD j 0) := by
            rw [List.getElem?_eq_getElem (by rw [HL.out]; exact g1), List.getD_eq_getElem?_getD, List.getElem?_eq_getElem (by rw [HL.out]; exact g1)]; rfl
          have HXJ := Lib.hid hxj
          obtain ⟨u, hu⟩ : ∃ u, xs.getD j 0 = u := ⟨_, rfl⟩
          rw [hu] at cj g3 hxj
          have HXU := Lib.hid hxj
          have zj : (0 : Int) ≤ (j : Int) := by omega
          clear hu hxj
          go_wp2_with (fail)
          go_quiet (fail)
          go_wp2_with (fail)
          go_roundw
          case rel => exact ⟨j + 1, _, by omega, by omega, by omega, by go_num, rfl, Lib.hid (by
            rw [hj.out, upN_yes HXU.out g3 (by omega)]
            have e1 : j + 1 - k = j - k + 1 := by omega
            have e2 : M - (j - k) - 1 = M - (j - k + 1) := by omega
            rw [e1, e2]
            omega)⟩
          case measure => simp [intOf]; omega
        · skip
          rcases Nat.lt_or_ge j n with g1 | g1
          · skip
            have g1' : (j : Int) < (n : Int) := by omega
            obtain ⟨_, _, e0, cj⟩ := CELL.out j g1
            simp only [Option.some.injEq, Addr.mk.injEq, and_true] at e0
            obtain ⟨rfl, rfl⟩ := e0
            have hxj : xs[j]? = some (xs.getD j 0) := by
              rw [List.getElem?_eq_getElem (by rw [HL.out]; exact g1), List.getD_eq_getElem?_getD, List.getElem?_eq_getElem (by rw [HL.out]; exact g1)]; rfl
            obtain ⟨u, hu⟩ : ∃ u, xs.getD j 0 = u := ⟨_, rfl⟩
            rw [hu] at cj hxj
            have HXU := Lib.hid hxj
            have zj : (0 : Int) ≤ (j : Int) := by omega
            rcases Nat.lt_or_ge (j - k) M with g2 | g2
            · skip
              have g2' : (j : Int) - (k : Int) < (M : Int) := by omega
              have g3 : ¬ u ≤ v + age := fun e => hgo ⟨g1, g2, by rw [hu]; exact e⟩
              have g3' : decide (u ≤ v + age) = false := by simp; omega
              have hjN : N = j - k := by rw [hj.out]; rw [upN_no HXU.out (by omega)]; omega
              have hq : ((j : Int) - (k : Int) == (M : Int)) = false := by simp; omega
              have HD : Hid (dueL age M (xs.drop k) = v + age) := Lib.hid (by
                simp only [dueL, HN.out]
                rw [if_neg (by omega), HV0.out])
              have CZ := hc
              have HF : Hid (out ++ [v + age] ++ FL age M (xs.drop j) = FL age M xs) := Lib.hid (by
                have e : k + N = j := by omega
                rw [← hf.out, HNN.out, HD.out, List.append_assoc, e]
                rfl)
              have hjk : n1 + 1 ≤ j := by omega
              clear HD hu hgo
              go_wp2_with (fail)
              go_quiet (fail)
              try rw [World.drewN_drewN]
              obtain ⟨wz, eW⟩ : ∃ z, z = wr.drewN (mm + nq) := ⟨_, rfl⟩
              rw [← eW]
              have hcz : wz.cell? ⟨b, off + k, none⟩ = some (.int .i64 v) := by rw [eW]; exact CZ
              have OZ := Lib.hid (show OW wz 3 w.heap.size A1 n1 c1 out by rw [eW]; exact ho.out.drewN _)
              have BZ := Lib.hid (show Below w.heap.size w wz by rw [eW]; exact below_drewN hb.out _)
              clear eW CZ
              have O7 := Lib.hid (show OW (wz.alloc (.cells #[.int .i64 (v + age)] 3)) 3 w.heap.size A1 n1 c1 out from OZ.out.alloc _)
              have SV : Hid (IS (wz.alloc (.cells #[.int .i64 (v + age)] 3)) (some ⟨wz.heap.size, 0, none⟩) 1 1 [v + age]) := Lib.hid (by simpa using (OW.lit wz 3 0 [v + age] (by simp) (by simp)).is)
              have B7 := Lib.hid (BZ.out.alloc BZ.out.size (.cells #[.int .i64 (v + age)] 3))
              have hsz := BZ.out.size
              go_wp2_with (at_builtin; go_must (refine wpList_append_is _ rfl (.tmp 60) (.tmp 67) _ rfl w.heap.size 3 infoInt Try.underlying22 _ _ _ _ rfl O7.out _ _ _ _ rfl SV.out (by omega) (by simp; omega) ?_); intro A8 c8 w8 hown8 hg8; have O8 := Lib.hid hown8; have B8 := Lib.hid (O7.out.below_grown hg8 B7.out (Nat.le_refl _) (by simp; omega)); clear hown8 hg8)
              go_roundw
              case rel => exact ⟨j, out ++ [v + age], A8, n1 + 1, c8, by omega, by omega, rfl, by first | rfl | go_num, HF, O8, B8⟩
              case measure => simp [intOf]; omega
            · skip
              have hjN : N = j - k := by
                rw [hj.out]
                have e : M - (j - k) = 0 := by omega
                rw [e]
                simp [upN]
              have g2' : ¬ (j : Int) - (k : Int) < (M : Int) := by omega
              have g2'' : decide ((j : Int) - (k : Int) < (M : Int)) = false := by simp; omega
              have hq : ((j : Int) - (k : Int) == (M : Int)) = true := by simp; omega
              obtain ⟨p, hp⟩ : ∃ p, j = p + 1 := ⟨j - 1, by omega⟩
              obtain ⟨_, _, e0, cp⟩ := CELL.out p (by omega)
              simp only [Option.some.injEq, Addr.mk.injEq, and_true] at e0
              obtain ⟨rfl, rfl⟩ := e0
              obtain ⟨d, hd⟩ : ∃ d, xs.getD p 0 = d := ⟨_, rfl⟩
              rw [hd] at cp
              have HD : Hid (dueL age M (xs.drop k) = d) := Lib.hid (by
                simp only [dueL, HN.out]
                rw [if_pos (by omega), List.getD_eq_getElem?_getD, List.getElem?_drop, ← hd, List.getD_eq_getElem?_getD]
                have e : k + (N - 1) = p := by omega
                rw [e])
              have y1 : (0 : Int) ≤ (p : Int) := by omega
              have y2 : (p : Int) < (n : Int) := by omega
              have w2' : IntKind.i64.wrap ((j : Int) - 1) = (p : Int) := by rw [IntKind.wrap_i64]; omega
              have CZ := cp
              have hjk : n1 + 1 ≤ j := by omega
              clear hd hp
              have HF : Hid (out ++ [d] ++ FL age M (xs.drop j) = FL age M xs) := Lib.hid (by
                have e : k + N = j := by omega
                rw [← hf.out, HNN.out, HD.out, List.append_assoc, e]
                rfl)
              have hjk : n1 + 1 ≤ j := by omega
              clear HD hu hgo
              go_wp2_with (fail)
              go_quiet (fail)
              try rw [World.drewN_drewN]
              obtain ⟨wz, eW⟩ : ∃ z, z = wr.drewN (mm + nq) := ⟨_, rfl⟩
              rw [← eW]
              have hcz : wz.cell? ⟨b, off + p, none⟩ = some (.int .i64 d) := by rw [eW]; exact CZ
              have OZ := Lib.hid (show OW wz 3 w.heap.size A1 n1 c1 out by rw [eW]; exact ho.out.drewN _)
              have BZ := Lib.hid (show Below w.heap.size w wz by rw [eW]; exact below_drewN hb.out _)
              clear eW CZ
              have O7 := Lib.hid (show OW (wz.alloc (.cells #[.int .i64 (d)] 3)) 3 w.heap.size A1 n1 c1 out from OZ.out.alloc _)
              have SV : Hid (IS (wz.alloc (.cells #[.int .i64 (d)] 3)) (some ⟨wz.heap.size, 0, none⟩) 1 1 [d]) := Lib.hid (by simpa using (OW.lit wz 3 0 [d] (by simp) (by simp)).is)
              have B7 := Lib.hid (BZ.out.alloc BZ.out.size (.cells #[.int .i64 (d)] 3))
              have hsz := BZ.out.size
              go_wp2_with (at_builtin; go_must (refine wpList_append_is _ rfl (.tmp 52) (.tmp 58) _ rfl w.heap.size 3 infoInt Try.underlying22 _ _ _ _ rfl O7.out _ _ _ _ rfl SV.out (by omega) (by simp; omega) ?_); intro A8 c8 w8 hown8 hg8; have O8 := Lib.hid hown8; have B8 := Lib.hid (O7.out.below_grown hg8 B7.out (Nat.le_refl _) (by simp; omega)); clear hown8 hg8)
              go_roundw
              case rel => exact ⟨j, out ++ [d], A8, n1 + 1, c8, by omega, by omega, rfl, by first | rfl | go_num, HF, O8, B8⟩
              case measure => simp [intOf]; omega
          · skip
            rcases Nat.lt_or_ge (j - k) M with g2 | g2
            · skip
              have hjN : N = j - k := by rw [hj.out]; rw [List.drop_of_length_le (by rw [HL.out]; omega), upN_nil]; omega
              have g1' : ¬ (j : Int) < (n : Int) := by omega
              have g1'' : ¬ j < n := by omega
              have g1n : decide (j < n) = false := by simp; omega
              have hq : ((j : Int) - (k : Int) == (M : Int)) = false := by simp; omega
              have HD : Hid (dueL age M (xs.drop k) = v + age) := Lib.hid (by
                simp only [dueL, HN.out]
                rw [if_neg (by omega), HV0.out])
              have CZ := hc
              have HF : Hid (out ++ [v + age] ++ FL age M (xs.drop j) = FL age M xs) := Lib.hid (by
                have e : k + N = j := by omega
                rw [← hf.out, HNN.out, HD.out, List.append_assoc, e]
                rfl)
              have hjk : n1 + 1 ≤ j := by omega
              clear HD hgo
              go_wp2_with (fail)
              go_quiet (fail)
              try rw [World.drewN_drewN]
              obtain ⟨wz, eW⟩ : ∃ z, z = wr.drewN (mm + nq) := ⟨_, rfl⟩
              rw [← eW]
              have hcz : wz.cell? ⟨b, off + k, none⟩ = some (.int .i64 v) := by rw [eW]; exact CZ
              have OZ := Lib.hid (show OW wz 3 w.heap.size A1 n1 c1 out by rw [eW]; exact ho.out.drewN _)
              have BZ := Lib.hid (show Below w.heap.size w wz by rw [eW]; exact below_drewN hb.out _)
              clear eW CZ
              have O7 := Lib.hid (show OW (wz.alloc (.cells #[.int .i64 (v + age)] 3)) 3 w.heap.size A1 n1 c1 out from OZ.out.alloc _)
              have SV : Hid (IS (wz.alloc (.cells #[.int .i64 (v + age)] 3)) (some ⟨wz.heap.size, 0, none⟩) 1 1 [v + age]) := Lib.hid (by simpa using (OW.lit wz 3 0 [v + age] (by simp) (by simp)).is)
              have B7 := Lib.hid (BZ.out.alloc BZ.out.size (.cells #[.int .i64 (v + age)] 3))
              have hsz := BZ.out.size
              go_wp2_with (at_builtin; go_must (refine wpList_append_is _ rfl (.tmp 60) (.tmp 67) _ rfl w.heap.size 3 infoInt Try.underlying22 _ _ _ _ rfl O7.out _ _ _ _ rfl SV.out (by omega) (by simp; omega) ?_); intro A8 c8 w8 hown8 hg8; have O8 := Lib.hid hown8; have B8 := Lib.hid (O7.out.below_grown hg8 B7.out (Nat.le_refl _) (by simp; omega)); clear hown8 hg8)
              go_roundw
              case rel => exact ⟨j, out ++ [v + age], A8, n1 + 1, c8, by omega, by omega, rfl, by first | rfl | go_num, HF, O8, B8⟩
              case measure => simp [intOf]; omega
            · skip
              have hjN : N = j - k := by rw [hj.out]; rw [List.drop_of_length_le (by rw [HL.out]; omega), upN_nil]; omega
              have g1' : ¬ (j : Int) < (n : Int) := by omega
              have g1'' : ¬ j < n := by omega
              have g1n : decide (j < n) = false := by simp; omega
              have hq : ((j : Int) - (k : Int) == (M : Int)) = true := by simp; omega
              obtain ⟨p, hp⟩ : ∃ p, j = p + 1 := ⟨j - 1, by omega⟩
              obtain ⟨_, _, e0, cp⟩ := CELL.out p (by omega)
              simp only [Option.some.injEq, Addr.mk.injEq, and_true] at e0
              obtain ⟨rfl, rfl⟩ := e0
              obtain ⟨d, hd⟩ : ∃ d, xs.getD p 0 = d := ⟨_, rfl⟩
              rw [hd] at cp
              have HD : Hid (dueL age M (xs.drop k) = d) := Lib.hid (by
                simp only [dueL, HN.out]
                rw [if_pos (by omega), List.getD_eq_getElem?_getD, List.getElem?_drop, ← hd, List.getD_eq_getElem?_getD]
                have e : k + (N - 1) = p := by omega
                rw [e])
              have y1 : (0 : Int) ≤ (p : Int) := by omega
              have y2 : (p : Int) < (n : Int) := by omega
              have w2' : IntKind.i64.wrap ((j : Int) - 1) = (p : Int) := by rw [IntKind.wrap_i64]; omega
              have CZ := cp
              have hjk : n1 + 1 ≤ j := by omega
              clear hd hp
              have HF : Hid (out ++ [d] ++ FL age M (xs.drop j) = FL age M xs) := Lib.hid (by
                have e : k + N = j := by omega
                rw [← hf.out, HNN.out, HD.out, List.append_assoc, e]
                rfl)
              have hjk : n1 + 1 ≤ j := by omega
              clear HD hgo
              go_wp2_with (fail)
              go_quiet (fail)
              try rw [World.drewN_drewN]
              obtain ⟨wz, eW⟩ : ∃ z, z = wr.drewN (mm + nq) := ⟨_, rfl⟩
              rw [← eW]
              have hcz : wz.cell? ⟨b, off + p, none⟩ = some (.int .i64 d) := by rw [eW]; exact CZ
              have OZ := Lib.hid (show OW wz 3 w.heap.size A1 n1 c1 out by rw [eW]; exact ho.out.drewN _)
              have BZ := Lib.hid (show Below w.heap.size w wz by rw [eW]; exact below_drewN hb.out _)
              clear eW CZ
              have O7 := Lib.hid (show OW (wz.alloc (.cells #[.int .i64 (d)] 3)) 3 w.heap.size A1 n1 c1 out from OZ.out.alloc _)
              have SV : Hid (IS (wz.alloc (.cells #[.int .i64 (d)] 3)) (some ⟨wz.heap.size, 0, none⟩) 1 1 [d]) := Lib.hid (by simpa using (OW.lit wz 3 0 [d] (by simp) (by simp)).is)
              have B7 := Lib.hid (BZ.out.alloc BZ.out.size (.cells #[.int .i64 (d)] 3))
              have hsz := BZ.out.size
              go_wp2_with (at_builtin; go_must (refine wpList_append_is _ rfl (.tmp 52) (.tmp 58) _ rfl w.heap.size 3 infoInt Try.underlying22 _ _ _ _ rfl O7.out _ _ _ _ rfl SV.out (by omega) (by simp; omega) ?_); intro A8 c8 w8 hown8 hg8; have O8 := Lib.hid hown8; have B8 := Lib.hid (O7.out.below_grown hg8 B7.out (Nat.le_refl _) (by simp; omega)); clear hown8 hg8)
              go_roundw
              case rel => exact ⟨j, out ++ [d], A8, n1 + 1, c8, by omega, by omega, rfl, by first | rfl | go_num, HF, O8, B8⟩
              case measure => simp [intOf]; omega
    · have hlt' : ¬ (k : Int) < (n : Int) := by omega
      obtain rfl : k = n := by omega
      go_wp2_with (fail)
      go_ret
      refine ⟨_, _, _, rfl, ?_, hb.out⟩
      have e := hf.out
      rw [List.drop_of_length_le (by rw [HL.out]; exact Nat.le_refl _), FL_nil, List.append_nil] at e
      rw [HE.out, ← e]
      exact ho.out
end Go.Proofs.Ytdfhhjdefmogbaa
