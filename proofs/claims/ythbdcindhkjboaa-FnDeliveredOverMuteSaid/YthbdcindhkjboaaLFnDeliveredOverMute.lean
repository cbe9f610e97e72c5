/-
  The walk of FnDeliveredOverMute. (Its words were written by a program of my own.)
-/
import Derived.Test.YthbdcindhkjboaaLawL
import Derived.Test.YthbdcindhkjboaaLawO
import Derived.Test.YthbdcindhkjboaaLiV
import Derived.Test.YthbdcindhkjboaaLiU
import Derived.Deep.RegionHeld3
import Derived.Deep.DrawnRows
import Derived.Deep.QuietTactic
import Derived.Lib.QuietBelow
import Derived.BigQuiet
import Derived.Deep.DeepMust
import Derived.Deep.DeepCutAuto
namespace Go.Proofs.Ythbdcindhkjboaa
open Go.RowKit
-- CALL: W s0
set_option maxHeartbeats 1600000 in
theorem walk_FnDeliveredOverMute {A : Option Addr} {n c : Nat} {zs : List Int} (w : World) (h : BS w A n c zs) :
    Calls Try.prog 7 #[.slice A n c] w fun e w' => e = .returned (.bool true) ∧ Below w.heap.size w w' := by
  have H := Lib.hid h
  clear h
  rcases Nat.lt_or_ge 1048576 n with h1 | h1
  · have h1' : (1048576 : Int) < (n : Int) := by omega
    go_enter Try.func7, Try.ntmps7
    go_wp2_with (fail)
    go_ret
    exact ⟨rfl, Below.refl _ _⟩
  have h1' : ¬ (1048576 : Int) < (n : Int) := by omega
  go_enter Try.func7, Try.ntmps7
  go_wp2_with (fail)
  refine (spec_DrawDeliveredOver_any w H.out h1).mono ?_
  rintro e w1 ⟨xs, A1, n1, c1, m, rfl, hn1, ⟨hm0, hm1⟩, hi, hb⟩
  have I1 := Lib.hid hi
  have B1 := Lib.hid hb
  have hz1 := B1.out.size
  clear hb hi
  have HXL := Lib.hid I1.out.len
  obtain ⟨os, eo⟩ : ∃ v, dlvV xs m = v := ⟨_, rfl⟩
  have HO := Lib.hid eo
  clear eo
  go_wp2_with (fail)
  refine (ints_at (impl_DeliveredOver_any m _ I1.out) HO.out).mono ?_
  rintro e w2 ⟨A2, n2, c2, rfl, ho, hb⟩
  have hb7 := hb
  replace I1 := Lib.hid (I1.out.below hb7 (Nat.le_refl _))
  replace B1 := Lib.hid (B1.out.trans (hb7.mono B1.out.size))
  have I2 := Lib.hid ho.is
  clear ho hb hb7
  go_wp2_with (fail)
  refine (ints_at (spec_DeliveredOver_any m _ I1.out) HO.out).mono ?_
  rintro e w3 ⟨A3, n3, c3, rfl, ho, hb⟩
  have hb7 := hb
  replace I1 := Lib.hid (I1.out.below hb7 (Nat.le_refl _))
  replace I2 := Lib.hid (I2.out.below hb7 (Nat.le_refl _))
  replace B1 := Lib.hid (B1.out.trans (hb7.mono B1.out.size))
  have I3 := Lib.hid ho.is
  clear ho hb hb7
  go_wp2_with (fail)
  refine (equalInts_same _ I2.out I3.out).mono ?_
  rintro e w4 ⟨rfl, hb⟩
  replace I1 := Lib.hid (I1.out.below hb (Nat.le_refl _))
  replace I2 := Lib.hid (I2.out.below hb (Nat.le_refl _))
  replace I3 := Lib.hid (I3.out.below hb (Nat.le_refl _))
  replace B1 := Lib.hid (B1.out.trans (hb.mono B1.out.size))
  clear hb
  rcases hk : okK xs m with _ | _
  · skip
    go_wp2_with (fail)
    refine (int_at (impl_SendsOver_any m _ I1.out) (sndV_f hk)).mono ?_
    rintro e w5 ⟨rfl, hb⟩
    replace I1 := Lib.hid (I1.out.below hb (Nat.le_refl _))
    replace I2 := Lib.hid (I2.out.below hb (Nat.le_refl _))
    replace I3 := Lib.hid (I3.out.below hb (Nat.le_refl _))
    replace B1 := Lib.hid (B1.out.trans (hb.mono B1.out.size))
    clear hb
    go_wp2_with (fail)
    refine (ints_at (spec_DeliveredOver_any m _ I1.out) HO.out).mono ?_
    rintro e w6 ⟨A4, n4, c4, rfl, ho, hb⟩
    have hb7 := hb
    replace I1 := Lib.hid (I1.out.below hb7 (Nat.le_refl _))
    replace I2 := Lib.hid (I2.out.below hb7 (Nat.le_refl _))
    replace I3 := Lib.hid (I3.out.below hb7 (Nat.le_refl _))
    replace B1 := Lib.hid (B1.out.trans (hb7.mono B1.out.size))
    have I4 := Lib.hid ho.is
    clear ho hb hb7
    go_wp2_with (fail)
    refine (equalInts_same _ I2.out I4.out).mono ?_
    rintro e w7 ⟨rfl, hb⟩
    replace I1 := Lib.hid (I1.out.below hb (Nat.le_refl _))
    replace I2 := Lib.hid (I2.out.below hb (Nat.le_refl _))
    replace I3 := Lib.hid (I3.out.below hb (Nat.le_refl _))
    replace I4 := Lib.hid (I4.out.below hb (Nat.le_refl _))
    replace B1 := Lib.hid (B1.out.trans (hb.mono B1.out.size))
    clear hb
    go_wp2_with (fail)
    go_ret
    exact ⟨ret_bool (rfl), B1.out⟩
  have HK := Lib.hid hk
  obtain ⟨S, eS⟩ : ∃ v, sndV xs m = v := ⟨_, rfl⟩
  have hS := snd_pos hk
  rw [eS] at hS
  have hS' : ¬ S < 0 := by omega
  have HS := Lib.hid eS
  clear hk eS
  go_wp2_with (fail)
  refine (int_at (impl_SendsOver_any m _ I1.out) HS.out).mono ?_
  rintro e w5 ⟨rfl, hb⟩
  replace I1 := Lib.hid (I1.out.below hb (Nat.le_refl _))
  replace I2 := Lib.hid (I2.out.below hb (Nat.le_refl _))
  replace I3 := Lib.hid (I3.out.below hb (Nat.le_refl _))
  replace B1 := Lib.hid (B1.out.trans (hb.mono B1.out.size))
  clear hb
  obtain ⟨M, rfl⟩ := Int.eq_ofNat_of_zero_le (okK_facts HK.out).2.2.1
  have hM8 : M ≤ 8 := by have := (okK_facts HK.out).2.2.2; omega
  obtain ⟨h1, h2⟩ := mute_facts hM8
  have HM1 := Lib.hid h1
  have HM2 := Lib.hid h2
  clear h1 h2
  have LO := Lib.hid (OW.lit w5 3 w5.heap.size [] (Nat.le_refl _) (by simp))
  have LB : Hid (Below w5.heap.size w5 (w5.alloc (.cells #[] 3))) := Lib.hid (below_new _ _)
  go_wp2_with (fail)
  obtain ⟨wz, eW⟩ : ∃ v, v = w5.alloc (.cells #[] 3) := ⟨_, rfl⟩
  simp only [List.map_nil] at LO
  rw [← eW] at LO LB ⊢
  clear eW
  go_loopw [6, 7] (fun q i wr => ∃ (j c' : Nat) (A' : Option Addr), j ≤ M ∧ i = .int .i64 (j : Int) ∧ q = .slice A' j c' ∧ Hid (OW wr 3 w5.heap.size A' j c' (List.replicate j 2)) ∧ Hid (Below w5.heap.size w5 wr)) (fun _ i _ => M - (intOf i).toNat)
  case atStart => exact ⟨0, 0, _, Nat.zero_le _, rfl, rfl, Lib.hid (by simpa using LO.out), LB⟩
  case round =>
    obtain ⟨j, c', A', hj, rfl, rfl, O, BW⟩ := hrel
    have hsz := BW.out.size
    by_cases hlt : j < M
    · have hlt' : (j : Int) < (M : Int) := by omega
      have O7 := Lib.hid (O.out.alloc (.cells #[.int .i64 2] 3))
      have SV : Hid (IS (wr.alloc (.cells #[.int .i64 2] 3)) (some ⟨wr.heap.size, 0, none⟩) 1 1 [2]) := Lib.hid (by simpa using (OW.lit wr 3 0 [2] (by simp) (by simp)).is)
      have B7 := Lib.hid (BW.out.alloc BW.out.size (.cells #[.int .i64 2] 3))
      go_wp2_with (at_builtin; go_must (refine wpList_append_is _ rfl (.tmp 42) (.tmp 43) _ rfl w5.heap.size 3 infoInt Try.underlying22 _ _ _ _ rfl O7.out _ _ _ _ rfl SV.out (by omega) (by simp; omega) ?_); intro A8 c8 w8 hown8 hg8; have O8 := Lib.hid hown8; have B8 := Lib.hid (O7.out.below_grown hg8 B7.out (Nat.le_refl _) (by simp; omega)); clear hown8 hg8)
      go_roundw
      case rel => exact ⟨j + 1, c8, A8, by omega, by first | rfl | go_num, rfl, Lib.hid (by rw [List.replicate_succ']; exact O8.out), B8⟩
      case measure => simp [intOf]; omega
    · have hlt' : ¬ (j : Int) < (M : Int) := by omega
      obtain rfl : j = M := by omega
      have B9 := Lib.hid (B1.out.trans (BW.out.mono B1.out.size))
      go_wp2_with (fail)
      refine (ints_at (impl_DeliveredOver_any (j : Int) _ O.out.is) rfl).mono ?_
      rintro e wa ⟨A5, n5, c5, rfl, ho, hb⟩
      have hl5 : ((n5 : Int) == (j : Int)) = true := by have h1 := ho.len; have h2 := HM1.out; simp; omega
      have O9 := Lib.hid (O.out.is.below hb (Nat.le_refl _))
      have Ba := Lib.hid (B9.out.trans (hb.mono B9.out.size))
      clear ho hb
      go_wp2_with (fail)
      refine (q_at (impl_UnackedOver_any (j : Int) _ O9.out) rfl).mono ?_
      rintro e wb ⟨A6, n6, c6, rfl, ho, hb⟩
      have hl6 : ((n6 : Int) == (j : Int)) = true := by have h1 := ho.len; have h2 := HM2.out; simp; omega
      have Bb := Lib.hid (Ba.out.trans (hb.mono Ba.out.size))
      clear ho hb
      go_wp2_with (fail)
      go_ret
      exact ⟨ret_bool (by first | rfl | (simp; done) | (simp; omega)), Bb.out⟩
end Go.Proofs.Ythbdcindhkjboaa
