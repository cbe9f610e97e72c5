/-
  The walk of FnSendsOver. (Its words were written by a program of my own.)
-/
import Derived.Test.YthbdcindhkjboaaLawL
import Derived.Test.YthbdcindhkjboaaLawO
import Derived.Test.YthbdcindhkjboaaLiV
import Derived.Test.YthbdcindhkjboaaLiU
import Derived.Deep.RegionHeld3
import Derived.Deep.DrawnRows
import Derived.Deep.QuietTactic
import Derived.Lib.QuietBelow
import Derived.BigQuiet
import Derived.Deep.DeepMust
import Derived.Deep.DeepCutAuto
namespace Go.Proofs.Ythbdcindhkjboaa
open Go.RowKit
-- CALL: W s0
set_option maxHeartbeats 1600000 in
theorem walk_FnSendsOver {A : Option Addr} {n c : Nat} {zs : List Int} (w : World) (h : BS w A n c zs) :
    Calls Try.prog 8 #[.slice A n c] w fun e w' => e = .returned (.bool true) ∧ Below w.heap.size w w' := by
  have H := Lib.hid h
  clear h
  rcases Nat.lt_or_ge 1048576 n with h1 | h1
  · have h1' : (1048576 : Int) < (n : Int) := by omega
    go_enter Try.func8, Try.ntmps8
    go_wp2_with (fail)
    go_ret
    exact ⟨rfl, Below.refl _ _⟩
  have h1' : ¬ (1048576 : Int) < (n : Int) := by omega
  go_enter Try.func8, Try.ntmps8
  go_wp2_with (fail)
  refine (spec_DrawSendsOver_any w H.out h1).mono ?_
  rintro e w1 ⟨xs, A1, n1, c1, m, rfl, hn1, ⟨hm0, hm1⟩, hi, hb⟩
  have I1 := Lib.hid hi
  have B1 := Lib.hid hb
  have hz1 := B1.out.size
  clear hb hi
  have HXL := Lib.hid I1.out.len
  rcases hk : okK xs m with _ | _
  · skip
    go_wp2_with (fail)
    refine (int_at (impl_SendsOver_any m _ I1.out) (sndV_f hk)).mono ?_
    rintro e w2 ⟨rfl, hb⟩
    replace I1 := Lib.hid (I1.out.below hb (Nat.le_refl _))
    replace B1 := Lib.hid (B1.out.trans (hb.mono B1.out.size))
    clear hb
    go_wp2_with (fail)
    refine (int_at (spec_SendsOver_any m _ I1.out) (sndV_f hk)).mono ?_
    rintro e w3 ⟨rfl, hb⟩
    replace I1 := Lib.hid (I1.out.below hb (Nat.le_refl _))
    replace B1 := Lib.hid (B1.out.trans (hb.mono B1.out.size))
    clear hb
    go_wp2_with (fail)
    refine (int_at (spec_SendsOver_any m _ I1.out) (sndV_f hk)).mono ?_
    rintro e w4 ⟨rfl, hb⟩
    replace I1 := Lib.hid (I1.out.below hb (Nat.le_refl _))
    replace B1 := Lib.hid (B1.out.trans (hb.mono B1.out.size))
    clear hb
    go_wp2_with (fail)
    go_ret
    exact ⟨ret_bool (by first | rfl | (simp; done) | (simp; omega)), B1.out⟩
  obtain ⟨S, eS⟩ : ∃ v, sndV xs m = v := ⟨_, rfl⟩
  have hS := snd_pos hk
  obtain ⟨f1, f2, f3⟩ := snd_facts hk
  rw [eS] at hS f1 f2 f3
  rw [HXL.out] at f1 f2 f3
  have hS' : ¬ S < 0 := by omega
  have HS := Lib.hid eS
  have hss : (S != S) = false := by simp
  have h3 : S ≥ min m (n1 : Int) := by omega
  have h1d : decide (S ≤ (n1 : Int)) = true := by simpa using f1
  have hm8 : 0 ≤ m ∧ m ≤ 8 := (okK_facts hk).2.2
  clear hk eS
  go_wp2_with (fail)
  refine (int_at (impl_SendsOver_any m _ I1.out) HS.out).mono ?_
  rintro e w2 ⟨rfl, hb⟩
  replace I1 := Lib.hid (I1.out.below hb (Nat.le_refl _))
  replace B1 := Lib.hid (B1.out.trans (hb.mono B1.out.size))
  clear hb
  go_wp2_with (fail)
  refine (int_at (spec_SendsOver_any m _ I1.out) HS.out).mono ?_
  rintro e w3 ⟨rfl, hb⟩
  replace I1 := Lib.hid (I1.out.below hb (Nat.le_refl _))
  replace B1 := Lib.hid (B1.out.trans (hb.mono B1.out.size))
  clear hb
  by_cases hsn : S = (n1 : Int)
  · have hsb : (S == (n1 : Int)) = true := by simp [hsn]
    go_wp2_with (fail)
    go_ret
    exact ⟨ret_bool (by first | rfl | (simp; done) | (simp; omega)), B1.out⟩
  have hsb : (S == (n1 : Int)) = false := by simp [hsn]
  have HU := Lib.hid (f2.resolve_left hsn)
  go_wp2_with (fail)
  refine (q_at (impl_UnackedOver_any m _ I1.out) HU.out).mono ?_
  rintro e w4 ⟨A2, n2, c2, rfl, ho, hb⟩
  have hb7 := hb
  replace I1 := Lib.hid (I1.out.below hb7 (Nat.le_refl _))
  replace B1 := Lib.hid (B1.out.trans (hb7.mono B1.out.size))
  have hl : ((n2 : Int) == 0) = true := by have h1 := ho.len; simp at h1; simp; omega
  clear ho hb hb7
  go_wp2_with (fail)
  go_ret
  exact ⟨ret_bool (by first | rfl | (simp; done) | (simp; omega)), B1.out⟩
end Go.Proofs.Ythbdcindhkjboaa
