/-
  The walk of FnUnackedOver. (Its words were written by a program of my own.)
-/
import Derived.Test.YthbdcindhkjboaaLawL
import Derived.Test.YthbdcindhkjboaaLawO
import Derived.Test.YthbdcindhkjboaaLiV
import Derived.Test.YthbdcindhkjboaaLiU
import Derived.Deep.RegionHeld3
import Derived.Deep.DrawnRows
import Derived.Deep.QuietTactic
import Derived.Lib.QuietBelow
import Derived.BigQuiet
import Derived.Deep.DeepMust
import Derived.Deep.DeepCutAuto
namespace Go.Proofs.Ythbdcindhkjboaa
open Go.RowKit
-- CALL: W s0
set_option maxHeartbeats 1600000 in
theorem walk_FnUnackedOver {A : Option Addr} {n c : Nat} {zs : List Int} (w : World) (h : BS w A n c zs) :
    Calls Try.prog 4 #[.slice A n c] w fun e w' => e = .returned (.bool true) ∧ Below w.heap.size w w' := by
  have H := Lib.hid h
  clear h
  rcases Nat.lt_or_ge 1048576 n with h1 | h1
  · have h1' : (1048576 : Int) < (n : Int) := by omega
    go_enter Try.func4, Try.ntmps4
    go_wp2_with (fail)
    go_ret
    exact ⟨rfl, Below.refl _ _⟩
  have h1' : ¬ (1048576 : Int) < (n : Int) := by omega
  go_enter Try.func4, Try.ntmps4
  go_wp2_with (fail)
  refine (spec_DrawUnackedOver_any w H.out h1).mono ?_
  rintro e w1 ⟨xs, A1, n1, c1, m, rfl, hn1, ⟨hm0, hm1⟩, hi, hb⟩
  have I1 := Lib.hid hi
  have B1 := Lib.hid hb
  have hz1 := B1.out.size
  clear hb hi
  have HXL := Lib.hid I1.out.len
  obtain ⟨os, eo⟩ : ∃ v, uakV xs m = v := ⟨_, rfl⟩
  have HO := Lib.hid eo
  clear eo
  go_wp2_with (fail)
  refine (q_at (impl_UnackedOver_any m _ I1.out) HO.out).mono ?_
  rintro e w2 ⟨A2, n2, c2, rfl, ho, hb⟩
  have hb7 := hb
  replace I1 := Lib.hid (I1.out.below hb7 (Nat.le_refl _))
  replace B1 := Lib.hid (B1.out.trans (hb7.mono B1.out.size))
  have I2 := Lib.hid ho.is
  clear ho hb hb7
  go_wp2_with (fail)
  refine (ints_at (spec_UnackedOver_any m _ I1.out) HO.out).mono ?_
  rintro e w3 ⟨A3, n3, c3, rfl, ho, hb⟩
  have hb7 := hb
  replace I1 := Lib.hid (I1.out.below hb7 (Nat.le_refl _))
  replace I2 := Lib.hid (I2.out.below hb7 (Nat.le_refl _))
  replace B1 := Lib.hid (B1.out.trans (hb7.mono B1.out.size))
  have I3 := Lib.hid ho.is
  clear ho hb hb7
  go_wp2_with (fail)
  refine (equalInts_same _ I2.out I3.out).mono ?_
  rintro e w4 ⟨rfl, hb⟩
  replace I1 := Lib.hid (I1.out.below hb (Nat.le_refl _))
  replace I2 := Lib.hid (I2.out.below hb (Nat.le_refl _))
  replace I3 := Lib.hid (I3.out.below hb (Nat.le_refl _))
  replace B1 := Lib.hid (B1.out.trans (hb.mono B1.out.size))
  clear hb
  rcases hk : okK xs m with _ | _
  · skip
    go_wp2_with (fail)
    refine (int_at (impl_SendsOver_any m _ I1.out) (sndV_f hk)).mono ?_
    rintro e w5 ⟨rfl, hb⟩
    replace I1 := Lib.hid (I1.out.below hb (Nat.le_refl _))
    replace I2 := Lib.hid (I2.out.below hb (Nat.le_refl _))
    replace I3 := Lib.hid (I3.out.below hb (Nat.le_refl _))
    replace B1 := Lib.hid (B1.out.trans (hb.mono B1.out.size))
    clear hb
    go_wp2_with (fail)
    refine (ints_at (spec_UnackedOver_any m _ I1.out) HO.out).mono ?_
    rintro e w6 ⟨A4, n4, c4, rfl, ho, hb⟩
    have hb7 := hb
    replace I1 := Lib.hid (I1.out.below hb7 (Nat.le_refl _))
    replace I2 := Lib.hid (I2.out.below hb7 (Nat.le_refl _))
    replace I3 := Lib.hid (I3.out.below hb7 (Nat.le_refl _))
    replace B1 := Lib.hid (B1.out.trans (hb7.mono B1.out.size))
    have I4 := Lib.hid ho.is
    clear ho hb hb7
    go_wp2_with (fail)
    refine (equalInts_same _ I2.out I4.out).mono ?_
    rintro e w7 ⟨rfl, hb⟩
    replace I1 := Lib.hid (I1.out.below hb (Nat.le_refl _))
    replace I2 := Lib.hid (I2.out.below hb (Nat.le_refl _))
    replace I3 := Lib.hid (I3.out.below hb (Nat.le_refl _))
    replace I4 := Lib.hid (I4.out.below hb (Nat.le_refl _))
    replace B1 := Lib.hid (B1.out.trans (hb.mono B1.out.size))
    clear hb
    go_wp2_with (fail)
    go_ret
    exact ⟨ret_bool (rfl), B1.out⟩
  have HK := Lib.hid hk
  obtain ⟨S, eS⟩ : ∃ v, sndV xs m = v := ⟨_, rfl⟩
  have hS := snd_pos hk
  rw [eS] at hS
  have hS' : ¬ S < 0 := by omega
  have HS := Lib.hid eS
  clear hk eS
  go_wp2_with (fail)
  refine (int_at (impl_SendsOver_any m _ I1.out) HS.out).mono ?_
  rintro e w5 ⟨rfl, hb⟩
  replace I1 := Lib.hid (I1.out.below hb (Nat.le_refl _))
  replace I2 := Lib.hid (I2.out.below hb (Nat.le_refl _))
  replace I3 := Lib.hid (I3.out.below hb (Nat.le_refl _))
  replace B1 := Lib.hid (B1.out.trans (hb.mono B1.out.size))
  clear hb
  have hmm := uak_many HK.out
  rw [HO.out, I2.out.len] at hmm
  obtain ⟨h1, h2⟩ := uak_lost HK.out
  have HL1 := Lib.hid h1
  have HL2 := Lib.hid h2
  clear h1 h2
  have hLit := (OW.lit w5 3 0 [1, 1, 1] (Nat.zero_le _) (by simp)).is
  simp only [List.map_cons, List.map_nil, List.length_cons, List.length_nil] at hLit
  have IL := Lib.hid hLit
  clear hLit
  replace I1 := Lib.hid (I1.out.alloc (.cells #[.int .i64 1, .int .i64 1, .int .i64 1] 3))
  replace I2 := Lib.hid (I2.out.alloc (.cells #[.int .i64 1, .int .i64 1, .int .i64 1] 3))
  replace I3 := Lib.hid (I3.out.alloc (.cells #[.int .i64 1, .int .i64 1, .int .i64 1] 3))
  replace B1 := Lib.hid (B1.out.alloc B1.out.size (.cells #[.int .i64 1, .int .i64 1, .int .i64 1] 3))
  go_wp2_with (fail)
  refine (q_at (impl_UnackedOver_any m _ IL.out) rfl).mono ?_
  rintro e w6 ⟨A5, n5, c5, rfl, ho, hb⟩
  have hb7 := hb
  replace I1 := Lib.hid (I1.out.below hb7 (Nat.le_refl _))
  replace I2 := Lib.hid (I2.out.below hb7 (Nat.le_refl _))
  replace I3 := Lib.hid (I3.out.below hb7 (Nat.le_refl _))
  replace IL := Lib.hid (IL.out.below hb7 (Nat.le_refl _))
  replace B1 := Lib.hid (B1.out.trans (hb7.mono B1.out.size))
  have hl5 : (n5 : Int) = m := by have h1 := ho.len; have h2 := HL1.out; omega
  have hl5b : ((n5 : Int) == m) = true := by simp [hl5]
  clear ho hb hb7
  go_wp2_with (fail)
  refine (ints_at (impl_ArrivedOver_any m _ IL.out) HL2.out).mono ?_
  rintro e w7 ⟨A6, n6, c6, rfl, ho, hb⟩
  have hb7 := hb
  replace I1 := Lib.hid (I1.out.below hb7 (Nat.le_refl _))
  replace I2 := Lib.hid (I2.out.below hb7 (Nat.le_refl _))
  replace I3 := Lib.hid (I3.out.below hb7 (Nat.le_refl _))
  replace IL := Lib.hid (IL.out.below hb7 (Nat.le_refl _))
  replace B1 := Lib.hid (B1.out.trans (hb7.mono B1.out.size))
  have hl6b : ((n6 : Int) == 0) = true := by have h1 := ho.len; simp at h1; simp; omega
  clear ho hb hb7
  go_wp2_with (fail)
  go_ret
  exact ⟨ret_bool (by first | rfl | (simp; done) | (simp; omega)), B1.out⟩
end Go.Proofs.Ythbdcindhkjboaa
