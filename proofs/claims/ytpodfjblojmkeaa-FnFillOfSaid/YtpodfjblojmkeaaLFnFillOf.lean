/-
  The walk of FnFillOf. (Its words were written by a program of my own.)
-/
import Derived.Test.YtpodfjblojmkeaaDrawC
import Derived.Test.YtpodfjblojmkeaaCuR
import Derived.Deep.RegionHeld3
import Derived.Deep.DeepMust
import Derived.Deep.DeepCutAuto
namespace Go.Proofs.Ytpodfjblojmkeaa
open Go.RowKit
-- CALL: W s0
set_option maxHeartbeats 8000000 in
theorem walk_FnFillOf {A : Option Addr} {n c : Nat} {zs : List Int} (w : World) (h : BS w A n c zs) :
    Calls Try.prog 13 #[.slice A n c] w fun e w' => e = .returned (.bool true) ∧ Below w.heap.size w w' := by
  have H := Lib.hid h
  clear h
  rcases Nat.lt_or_ge 1048576 n with h1 | h1
  · have h1' : (1048576 : Int) < (n : Int) := by omega
    go_enter Try.func13, Try.ntmps13
    go_wp2_with (fail)
    go_ret
    exact ⟨rfl, Below.refl _ _⟩
  have h1' : ¬ (1048576 : Int) < (n : Int) := by omega
  go_enter Try.func13, Try.ntmps13
  go_wp2_with (fail)
  refine (spec_DrawFillOf_any w H.out h1).mono ?_
  rintro e w1 ⟨xs, A1, n1, c1, a, m, rfl, hn14, ⟨a0, a1⟩, ⟨m0, m1⟩, i1, hbl⟩
  have T1 := Lib.hid i1
  have B1 := Lib.hid hbl
  have HXL := Lib.hid i1.len
  clear i1 hbl
  obtain ⟨v, hv⟩ : ∃ v, fillV xs a m = v := ⟨_, rfl⟩
  have HV := Lib.hid hv
  clear hv
  go_wp2_with (fail)
  refine (call_int (impl_FillOf_any a m w1 T1.out) HV.out).mono ?_
  rintro e w2 ⟨rfl, hb⟩
  have B2 := Lib.hid (B1.out.trans (hb.mono B1.out.size))
  replace T1 := Lib.hid (T1.out.below hb (Nat.le_refl _))
  clear hb
  rcases Int.lt_or_le v 0 with hneg | hneg
  · skip
    go_wp2_with (fail)
    refine (call_int (spec_FillOf_any a m w2 T1.out) HV.out).mono ?_
    rintro e w3 ⟨rfl, hb⟩
    have B3 := Lib.hid (B2.out.trans (hb.mono B2.out.size))
    replace T1 := Lib.hid (T1.out.below hb (Nat.le_refl _))
    clear hb
    go_wp2_with (fail)
    refine (call_int (spec_FillOf_any a m w3 T1.out) HV.out).mono ?_
    rintro e w4 ⟨rfl, hb⟩
    have B4 := Lib.hid (B3.out.trans (hb.mono B3.out.size))
    replace T1 := Lib.hid (T1.out.below hb (Nat.le_refl _))
    clear hb
    go_wp2_with (fail)
    go_ret
    exact ⟨ret_bool (by simp), B4.out⟩
  have hneg2 : ¬ v < 0 := by omega
  have hok : cutOK xs a m = true := by
    rcases h : cutOK xs a m with _ | _
    · have := HV.out
      rw [fill_no h] at this
      omega
    · rfl
  obtain ⟨f1, f2, f3⟩ := fill_law hok
  rw [HV.out] at f1 f2 f3
  obtain ⟨ls, hls⟩ : ∃ ls, bsV xs a m = ls := ⟨_, rfl⟩
  rw [hls] at f3
  have HF3 := Lib.hid f3
  have HLS := Lib.hid hls
  have HBO := Lib.hid (bsV_le xs a m)
  clear f3 hls hok
  go_wp2_with (fail)
  refine (call_int (spec_FillOf_any a m w2 T1.out) HV.out).mono ?_
  rintro e w3 ⟨rfl, hb⟩
  have B3 := Lib.hid (B2.out.trans (hb.mono B2.out.size))
  replace T1 := Lib.hid (T1.out.below hb (Nat.le_refl _))
  clear hb
  go_wp2_with (fail)
  refine (impl_BatchBytes_any a m w3 T1.out).mono ?_
  rintro e w4 ⟨A4, n4, c4, rfl, ho, hb⟩
  rw [HLS.out] at ho
  have hn4 : n4 ≤ 12 := by have h1 := ho.len; have h2 := HBO.out; rw [HLS.out] at h2; omega
  have HL := Lib.hid ho.len
  have L1 := Lib.hid ho.is
  have B4 := Lib.hid (B3.out.trans (hb.mono B3.out.size))
  clear ho hb
  go_wp2_with (fail)
  go_loop [8, 9] (fun fv iv => ∃ (k : Nat) (f : Bool), k ≤ n4 ∧ iv = .int .i64 (k : Int) ∧ fv = .bool f ∧ Hid ((ls.take k).all (fun s => decide (s = a)) = f)) (fun _ i => n4 - (intOf i).toNat)
  case atStart => exact ⟨0, true, Nat.zero_le _, rfl, rfl, Lib.hid (by simp)⟩
  case round =>
    obtain ⟨k, f, hk, rfl, rfl, hf⟩ := hrel
    by_cases hlt : k < n4
    · have hlt' : (k : Int) < (n4 : Int) := by omega
      obtain ⟨g, off, x, rfl, hx, hc⟩ := L1.out.at_ hlt
      have HN := Lib.hid (all_snoc (a := a) hx)
      clear hx
      rcases f with _ | _
      · go_wp2_with (fail)
        go_round
        case rel => exact ⟨k + 1, false, by omega, by go_num, rfl, Lib.hid (by rw [HN.out, hf.out]; rfl)⟩
        case measure => simp [intOf]; omega
      · by_cases hxa : x = a
        · have hxa' : (x == a) = true := by simp [hxa]
          have HXA := Lib.hid hxa
          clear hxa
          go_wp2_with (fail)
          go_round
          case rel => exact ⟨k + 1, true, by omega, by go_num, rfl, Lib.hid (by rw [HN.out, hf.out, HXA.out]; simp)⟩
          case measure => simp [intOf]; omega
        · have hxa' : (x == a) = false := by simp [hxa]
          have HXA := Lib.hid hxa
          clear hxa
          go_wp2_with (fail)
          go_round
          case rel => exact ⟨k + 1, false, by omega, by go_num, rfl, Lib.hid (by rw [HN.out, hf.out]; simp [HXA.out])⟩
          case measure => simp [intOf]; omega
    · have hlt' : ¬ (k : Int) < (n4 : Int) := by omega
      have hft := hf.out
      rw [List.take_of_length_le (by have := HL.out; omega)] at hft
      have HFT : Hid ((v == 100) = f) := Lib.hid (by
        rw [← hft]
        by_cases h100 : v = 100
        · have h2 := HF3.out.1 h100
          have e1 : (v == 100) = true := by simp [h100]
          rw [e1]
          symm
          rw [List.all_eq_true]
          intro s hs
          simp [h2 s hs]
        · have e1 : (v == 100) = false := by simp [h100]
          rw [e1]
          symm
          rw [List.all_eq_false]
          by_cases hx : ∀ s ∈ ls, s = a
          · exact absurd (HF3.out.2 hx) h100
          · obtain ⟨s, hs⟩ := Classical.not_forall.1 hx
            obtain ⟨hs1, hs2⟩ := Classical.not_imp.1 hs
            exact ⟨s, hs1, by simp [hs2]⟩)
      clear hft
      go_wp2_with (fail)
      go_ret
      have e := HFT.out
      exact ⟨ret_bool (by first | (rw [e]; simp; done) | (simp [e, f1]; done) | (rcases f with _ | _ <;> simp_all)), B4.out⟩
end Go.Proofs.Ytpodfjblojmkeaa
