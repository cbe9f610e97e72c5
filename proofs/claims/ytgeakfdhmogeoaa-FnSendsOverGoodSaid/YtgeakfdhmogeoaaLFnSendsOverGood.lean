/-
  The walk of FnSendsOverGood. (Its words were written by a program of my own.)
-/
import Derived.Deep.DrawnRows
import Derived.Test.YtgeakfdhmogeoaaLawL
import Derived.Test.YtgeakfdhmogeoaaLawN
import Derived.Lib.QuietBelow
import Derived.Deep.DeepMust
import Derived.Test.YtgeakfdhmogeoaaOwn
namespace Go.Proofs.Ytgeakfdhmogeoaa
open Go.RowKit
attribute [local go_sem ↓] Go.wp_at_zero Go.wp_at_succ
-- CALL: W s0
set_option maxHeartbeats 4000000 in
theorem walk_FnSendsOverGood {A : Option Addr} {n c : Nat} {zs : List Int} (w : World) (h : BS w A n c zs) :
    Calls Try.prog 10 #[.slice A n c] w fun e w' => e = .returned (.bool true) ∧ Below w.heap.size w w' := by
  have H := Lib.hid h
  clear h
  rcases Nat.lt_or_ge 1048576 n with h1 | h1
  · have h1' : (1048576 : Int) < (n : Int) := by omega
    go_enter Try.func10, Try.ntmps10
    go_wp2_with (fail)
    go_ret
    exact ⟨rfl, Below.refl _ _⟩
  have h1' : ¬ (1048576 : Int) < (n : Int) := by omega
  go_enter Try.func10, Try.ntmps10
  go_wp2_with (fail)
  refine (spec_DrawSendsOver_any w H.out h1).mono ?_
  rintro e w1 ⟨xs, A1, n1, c1, m, rfl, hn1, ⟨hm0, hm1⟩, hI1, hb⟩
  have B := Lib.hid hb
  have I1 := Lib.hid hI1
  clear hb hI1
  rcases hk : okK xs m with _ | _
  · skip
    go_wp2_with (fail)
    refine (int_at (impl_SendsOver_any m _ I1.out) (sndV_f hk)).mono ?_
    rintro e w2 ⟨rfl, hb⟩
    replace I1 := Lib.hid (I1.out.below hb (Nat.le_refl _))
    replace B := Lib.hid (B.out.trans (hb.mono B.out.size))
    clear hb
    go_wp2_with (fail)
    refine (int_at (spec_SendsOver_any m _ I1.out) (sndV_f hk)).mono ?_
    rintro e w3 ⟨rfl, hb⟩
    replace I1 := Lib.hid (I1.out.below hb (Nat.le_refl _))
    replace B := Lib.hid (B.out.trans (hb.mono B.out.size))
    clear hb
    go_wp2_with (fail)
    refine (int_at (spec_SendsOver_any m _ I1.out) (sndV_f hk)).mono ?_
    rintro e w4 ⟨rfl, hb⟩
    replace I1 := Lib.hid (I1.out.below hb (Nat.le_refl _))
    replace B := Lib.hid (B.out.trans (hb.mono B.out.size))
    clear hb
    go_wp2_with (fail)
    go_ret
    exact ⟨ret_bool (rfl), B.out⟩
  obtain ⟨S, eS⟩ : ∃ v, sndV xs m = v := ⟨_, rfl⟩
  have hS := snd_pos hk
  rw [eS] at hS
  have hS' : ¬ S < 0 := by omega
  obtain ⟨_, _, h0, h8⟩ := okK_facts hk
  obtain ⟨M, rfl⟩ := Int.eq_ofNat_of_zero_le h0
  have hM : M ≤ 8 := by omega
  have gd := good_dlv hM
  have gs := good_snd hM
  obtain ⟨K, hK⟩ : ∃ K, M + 3 = K := ⟨_, rfl⟩
  rw [hK] at gd gs
  have GD := Lib.hid gd
  have GS := Lib.hid gs
  have ES := Lib.hid eS
  have hwK : IntKind.i64.wrap ((M : Int) + 3) = (K : Int) := by rw [IntKind.wrap_i64]; omega
  clear gd gs eS h0 h8 hk hS
  go_wp2_with (fail)
  refine (int_at (impl_SendsOver_any (M : Int) _ I1.out) ES.out).mono ?_
  rintro e w2 ⟨rfl, hb⟩
  replace I1 := Lib.hid (I1.out.below hb (Nat.le_refl _))
  replace B := Lib.hid (B.out.trans (hb.mono B.out.size))
  clear hb
  go_wp2_with (fail)
  refine (int_at (spec_SendsOver_any (M : Int) _ I1.out) ES.out).mono ?_
  rintro e w3 ⟨rfl, hb⟩
  replace I1 := Lib.hid (I1.out.below hb (Nat.le_refl _))
  replace B := Lib.hid (B.out.trans (hb.mono B.out.size))
  clear hb
  obtain ⟨i0, hi, hz0, hz1, hz2⟩ := info_parts infoInt
  have hb2 : i0.bytes * K ≤ 281474976710656 := by rw [hz2]; omega
  have HB := Lib.hid hb2
  have HZ1 := Lib.hid hz1
  have HZ0 := Lib.hid hz0
  have HI := Lib.hid hi
  have hm : K ≤ maxLen := by simp only [maxLen]; omega
  clear hb2 hz0 hz1 hz2 hi hK
  go_wp2_with (at_make; refine wpList_make_full _ rfl _ _ 22 rfl w3.heap.size 3 i0 (.int .i64 0) 1 Try.underlying22 HI.out HZ0.out HZ1.out .i64 .i64 _ _ K rfl rfl rfl rfl HB.out hm (Nat.le_refl _) ?_; intro w4 hown3 hgr3; have hb3 : Below w3.heap.size w3 w4 := (Below.refl _ _).grown hgr3 (Nat.le_refl _) (by simp); have O4 : Hid (OW w4 3 w3.heap.size (some ⟨w3.heap.size, 0, none⟩) K K (List.replicate K 0)) := Lib.hid (by have e : (madeCells (Value.int .i64 0).cells (K * 1)).toList = List.replicate K (Value.int .i64 0) := by { rw [Nat.mul_one]; exact toList_madeCells_one _ _ }; rw [e] at hown3; first | exact hown3 | (unfold OW; rw [List.map_replicate]; exact hown3) | (simpa [OW] using hown3)); have B4 := Lib.hid (B.out.trans (hb3.mono B.out.size)); clear hown3 hgr3 hb3)
  refine (ints_at (impl_DeliveredOver_any (M : Int) _ O4.out.is) GD.out).mono ?_
  rintro e w5 ⟨A5, n5, c5, rfl, ho, hb⟩
  have IG := Lib.hid (O4.out.is.below hb (Nat.le_refl _))
  have B5 := Lib.hid (B4.out.trans (hb.mono B4.out.size))
  have I5 := Lib.hid ho.is
  have hn5 : n5 = M := by rw [← ho.is.len, iota_len]
  subst hn5
  clear hb ho
  go_wp2_with (fail)
  go_loop [8] (fun i => ∃ j : Nat, j ≤ n5 ∧ i = .int .i64 (j : Int)) (fun i => n5 - (intOf i).toNat)
  case atStart => exact ⟨0, Nat.zero_le _, rfl⟩
  case round =>
    obtain ⟨j, hj, rfl⟩ := hrel
    by_cases hlt : j < n5
    · obtain ⟨g, off, v, rfl, hx, hc⟩ := I5.out.at_ hlt
      rw [iota_get _ _ _ hx] at hc
      clear hx
      go_wp2_with (fail)
      go_round
      case rel => exact ⟨j + 1, by omega, by first | rfl | go_num⟩
      case measure => simp [intOf]; omega
    · go_wp2_with (fail)
      refine (int_at (impl_SendsOver_any (n5 : Int) _ IG.out) GS.out).mono ?_
      rintro e w6 ⟨rfl, hb⟩
      have B6 := Lib.hid (B5.out.trans (hb.mono B5.out.size))
      clear hb
      go_wp2_with (fail)
      go_ret
      exact ⟨ret_bool (by first | rfl | (simp; done)), B6.out⟩
end Go.Proofs.Ytgeakfdhmogeoaa
