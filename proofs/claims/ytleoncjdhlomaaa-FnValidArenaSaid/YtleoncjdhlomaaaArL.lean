/-
  Contracts of arenas: the greatest gap.
-/
import Derived.Test.YtleoncjdhlomaaaArH
namespace Go.Proofs.Ytleoncjdhlomaaa
open Go.RowKit
theorem mostP_take {L : List (Int × Int)} {k : Nat} {g : Int × Int} (h : L[k]? = some g) : mostP (L.take (k + 1)) = max (mostP (L.take k)) g.2 := by
  have hk : k < L.length := (List.getElem?_eq_some_iff.1 h).1
  have hx : L[k] = g := (List.getElem?_eq_some_iff.1 h).2
  rw [List.take_succ_eq_append_getElem hk, mostP_next, hx]
theorem gap_bd {s : Int} {xs : List Tr} (h : validA s xs = true) {g : Int × Int} (hg : g ∈ gapsA s xs) : (0 ≤ g.1 ∧ g.1 ≤ 64) ∧ -64 ≤ g.2 ∧ g.2 ≤ 64 := by
  have hv := (validA_iff.1 h).1
  rcases List.mem_append.1 hg with hg | hg
  · obtain ⟨i, hi, rfl⟩ := List.mem_map.1 hg
    have hi2 := List.mem_range.1 hi
    obtain ⟨h1, h2⟩ := end_bd h (k := i) (by omega)
    have hx : xs.getD i default ∈ xs := by rw [List.getD_eq_getElem?_getD, List.getElem?_eq_getElem hi2]; exact List.getElem_mem hi2
    obtain ⟨_, h3, _⟩ := (validA_iff.1 h).at_ hx
    simp only
    omega
  · simp at hg
    subst hg
    have h1 := end_bd h (k := xs.length) (Nat.le_refl _)
    rw [List.take_of_length_le (Nat.le_refl _)] at h1
    simp only
    omega
set_option maxHeartbeats 2000000 in
theorem impl_LargestGap_any {A : Option Addr} {n c : Nat} {xs : List Tr} (s : Int) (w : World) (h : TS w A n c xs) :
    Calls Try.prog 23 #[.agg #[.int .i64 s, .slice A n c]] w fun e w' => e = .returned (.int .i64 (gapA s xs)) ∧ Below w.heap.size w w' := by
  have hl := h.len
  have hcap := h.cap
  have H := Lib.hid h
  clear h
  rcases hv : validA s xs with _ | _
  · clear hl
    go_enter Try.func23, Try.ntmps23
    go_wp2_with (fail)
    refine (call_b (impl_ValidArena_any s _ (H.out.alloc _)) hv).mono ?_
    rintro e w1 ⟨rfl, hb⟩
    have BB := Lib.hid (below_then (below_new w _) hb)
    clear hb
    go_wp2_with (fail)
    go_ret
    exact ⟨ret_int (by simp [gapA, hv]), BB.out⟩
  obtain ⟨h10, hc⟩ := validA_used hv
  have hn : n ≤ 10 := by omega
  have HL := Lib.hid hl
  have HC := Lib.hid hc
  have HV := Lib.hid hv
  clear hl h10 hc hv
  go_enter Try.func23, Try.ntmps23
  go_wp2_with (fail)
  refine (call_b (impl_ValidArena_any s _ (H.out.alloc _)) HV.out).mono ?_
  rintro e w1 ⟨rfl, hb⟩
  have K := Lib.hid ((Blk.new w 25 #[.int .i64 s, .slice A n c]).on hb)
  have BB := Lib.hid (below_then (below_new w _) hb)
  have T1 := Lib.hid ((H.out.alloc _).below hb (Nat.le_refl _))
  clear hb
  obtain ⟨k0, k1⟩ := K.out.c2
  have kl := K.out.lt
  go_wp2_with (fail)
  refine (impl_freeList_any s _ T1.out HV.out).mono ?_
  clear k0 k1 kl
  rintro e w2 ⟨A2, n2, c2, rfl, ho, hb2⟩
  have O2 := Lib.hid ho
  have B2 := Lib.hid (BB.out.trans (hb2.mono BB.out.size))
  have N2 : Hid ((gapsA s xs).length = n2) := Lib.hid ho.len
  have hn2 : n2 ≤ 11 := by
    have h1 := ho.len
    have h2 := HL.out
    simp [gapsA, gapsK] at h1
    omega
  clear ho hb2
  go_wp2_with (fail)
  go_loopw [3, 12] (fun t i wr => ∃ k : Nat, ∃ m : Int, k ≤ n2 ∧ 0 ≤ m ∧ m ≤ 64 ∧ i = .int .i64 k ∧ t = .int .i64 m ∧ Hid (mostP ((gapsA s xs).take k) = m) ∧ Hid (Below w2.heap.size w2 wr)) (fun _ i _ => n2 - (intOf i).toNat)
  case atStart => exact ⟨0, 0, Nat.zero_le _, by omega, by omega, rfl, rfl, Lib.hid rfl, Lib.hid (Below.refl _ _)⟩
  case round =>
    obtain ⟨k, m, hk, hm0, hm1, rfl, rfl, ha, hB⟩ := hrel
    by_cases hlt : k < n2
    · obtain ⟨g, x, rfl, hx, hg, ca, cb⟩ := (O2.out.below hB.out (Nat.le_refl _)).at_ hlt
      obtain ⟨_, hv0, hv1⟩ := gap_bd HV.out (List.mem_of_getElem? hx)
      have HX := Lib.hid hx
      have hki : (k : Int) < (n2 : Int) := by omega
      clear hx
      go_wp2_with (fail)
      go_roundw
      case rel => exact ⟨k + 1, max m x.2, by omega, by omega, by omega, by go_num, by go_num, Lib.hid (by rw [mostP_take HX.out, ha.out]), Lib.hid (hB.out.alloc hB.out.size _)⟩
      case measure => simp [intOf]; omega
    · go_wp2_with (fail)
      go_ret
      have ht := ha.out
      rw [List.take_of_length_le (by have := N2.out; omega)] at ht
      exact ⟨ret_int (by rw [gapA, HV.out, if_pos rfl, ht]), B2.out.trans (hB.out.mono B2.out.size)⟩
end Go.Proofs.Ytleoncjdhlomaaa
