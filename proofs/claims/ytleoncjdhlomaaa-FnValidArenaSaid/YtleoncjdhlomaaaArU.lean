/-
  Contracts of arenas: used places.
-/
import Derived.Test.YtleoncjdhlomaaaAr
import Derived.Test.YtleoncjdhlomaaaArI
namespace Go.Proofs.Ytleoncjdhlomaaa
open Go.RowKit
theorem spec_ValidArena_any {A : Option Addr} {n c : Nat} {xs : List Tr} (s : Int) (w : World) (h : TS w A n c xs) :
    Calls Try.prog 16 #[.agg #[.int .i64 s, .slice A n c]] w fun e w' => e = .returned (.bool (validA s xs)) ∧ Below w.heap.size w w' := by
  have H := Lib.hid h
  clear h
  go_enter Try.func16, Try.ntmps16
  go_wp2_with (fail)
  refine (spec_validArena_any s _ (H.out.alloc _)).mono ?_
  rintro e w1 ⟨rfl, hb⟩
  have BB := Lib.hid (below_then (below_new w _) hb)
  clear hb
  go_wp2_with (fail)
  go_ret
  exact ⟨rfl, BB.out⟩
theorem sumC_next {xs : List Tr} {k : Nat} {x : Tr} (h : xs[k]? = some x) : ((xs.take (k + 1)).map Tr.c).sum = ((xs.take k).map Tr.c).sum + x.c := by
  have hk : k < xs.length := (List.getElem?_eq_some_iff.1 h).1
  have hx : xs[k] = x := (List.getElem?_eq_some_iff.1 h).2
  rw [List.take_succ_eq_append_getElem hk, List.map_append, List.sum_append, hx]
  simp
set_option maxHeartbeats 1000000 in
theorem spec_usedOf_any {A : Option Addr} {n c : Nat} {xs : List Tr} (s : Int) (w : World) (h : TS w A n c xs) (hr : ∀ x ∈ xs, 1 ≤ x.c ∧ x.c ≤ 64) (hn : n ≤ 1000) :
    Calls Try.prog 50 #[.agg #[.int .i64 s, .slice A n c]] w fun e w' => e = .returned (.int .i64 (xs.map Tr.c).sum) ∧ Below w.heap.size w w' := by
  have H := Lib.hid (h.alloc (.cells #[.int .i64 s, .slice A n c] 25))
  have HR := Lib.hid hr
  have B0 := Lib.hid (below_new w (.cells #[.int .i64 s, .slice A n c] 25))
  clear h hr
  go_enter Try.func50, Try.ntmps50
  go_wp2_with (fail)
  go_loop [3, 4] (fun t i => ∃ k : Nat, ∃ m : Int, k ≤ n ∧ 0 ≤ m ∧ m ≤ 64 * (k : Int) ∧ i = .int .i64 k ∧ t = .int .i64 m ∧ Hid (((xs.take k).map Tr.c).sum = m)) (fun _ i => n - (intOf i).toNat)
  case atStart => exact ⟨0, 0, Nat.zero_le _, by omega, by omega, rfl, rfl, Lib.hid (by simp)⟩
  case round =>
    obtain ⟨k, m, hk, hm0, hm1, rfl, rfl, ha⟩ := hrel
    by_cases hlt : k < n
    · obtain ⟨b, off, x, rfl, hx, ca, cb, cc⟩ := H.out.at_ hlt
      obtain ⟨hv0, hv1⟩ := HR.out x (List.mem_of_getElem? hx)
      have HX := Lib.hid hx
      clear hx
      go_wp2_with (fail)
      go_round
      case rel => exact ⟨k + 1, m + x.c, by omega, by omega, by omega, by go_num, by go_num, Lib.hid (by rw [sumC_next HX.out, ha.out])⟩
      case measure => simp [intOf]; omega
    · go_wp2_with (fail)
      go_ret
      have ht := ha.out
      rw [List.take_of_length_le (by have := H.out.len; omega)] at ht
      exact ⟨ret_int ht.symm, B0.out⟩
/-- The places of a valid arena that are used, -1 for another. -/
noncomputable def usedA (s : Int) (xs : List Tr) : Int := if validA s xs then (xs.map Tr.c).sum else -1
theorem validA_used {s : Int} {xs : List Tr} (h : validA s xs = true) : xs.length ≤ 10 ∧ ∀ x ∈ xs, 1 ≤ x.c ∧ x.c ≤ 64 :=
  ⟨(validA_iff.1 h).2.1, fun x hx => ((validA_iff.1 h).at_ hx).2.2⟩
set_option maxHeartbeats 1000000 in
theorem spec_UsedPlaces_any {A : Option Addr} {n c : Nat} {xs : List Tr} (s : Int) (w : World) (h : TS w A n c xs) :
    Calls Try.prog 30 #[.agg #[.int .i64 s, .slice A n c]] w fun e w' => e = .returned (.int .i64 (usedA s xs)) ∧ Below w.heap.size w w' := by
  have hl := h.len
  have H := Lib.hid h
  clear h
  rcases hv : validA s xs with _ | _
  · clear hl
    go_enter Try.func30, Try.ntmps30
    go_wp2_with (fail)
    refine (call_b (spec_validArena_any s _ (H.out.alloc _)) hv).mono ?_
    rintro e w1 ⟨rfl, hb⟩
    have BB := Lib.hid (below_then (below_new w _) hb)
    clear hb
    go_wp2_with (fail)
    go_ret
    exact ⟨ret_int (by simp [usedA, hv]), BB.out⟩
  obtain ⟨h10, hc⟩ := validA_used hv
  have hn : n ≤ 1000 := by omega
  have HC := Lib.hid hc
  have HV := Lib.hid hv
  clear hl h10 hc hv
  go_enter Try.func30, Try.ntmps30
  go_wp2_with (fail)
  refine (call_b (spec_validArena_any s _ (H.out.alloc _)) HV.out).mono ?_
  rintro e w1 ⟨rfl, hb⟩
  have K := Lib.hid ((Blk.new w 25 #[.int .i64 s, .slice A n c]).on hb)
  have BB := Lib.hid (below_then (below_new w _) hb)
  clear hb
  obtain ⟨k0, k1⟩ := K.out.c2
  have kl := K.out.lt
  go_wp2_with (fail)
  refine (spec_usedOf_any s _ (H.out.below BB.out (Nat.le_refl _)) HC.out hn).mono ?_
  clear k0 k1 kl
  rintro e w2 ⟨rfl, hb⟩
  have B2 := Lib.hid (BB.out.trans (hb.mono BB.out.size))
  clear hb
  go_wp2_with (fail)
  go_ret
  exact ⟨ret_int (by simp [usedA, HV.out]), B2.out⟩
set_option maxHeartbeats 2000000 in
theorem impl_UsedPlaces_any {A : Option Addr} {n c : Nat} {xs : List Tr} (s : Int) (w : World) (h : TS w A n c xs) :
    Calls Try.prog 22 #[.agg #[.int .i64 s, .slice A n c]] w fun e w' => e = .returned (.int .i64 (usedA s xs)) ∧ Below w.heap.size w w' := by
  have hl := h.len
  have hcap := h.cap
  have H := Lib.hid h
  clear h
  rcases hv : validA s xs with _ | _
  · clear hl
    go_enter Try.func22, Try.ntmps22
    go_wp2_with (fail)
    refine (call_b (impl_ValidArena_any s _ (H.out.alloc _)) hv).mono ?_
    rintro e w1 ⟨rfl, hb⟩
    have BB := Lib.hid (below_then (below_new w _) hb)
    clear hb
    go_wp2_with (fail)
    go_ret
    exact ⟨ret_int (by simp [usedA, hv]), BB.out⟩
  obtain ⟨h10, hc⟩ := validA_used hv
  have hn : n ≤ 1000 := by omega
  have HC := Lib.hid hc
  have HV := Lib.hid hv
  clear hl h10 hc hv
  go_enter Try.func22, Try.ntmps22
  go_wp2_with (fail)
  refine (call_b (impl_ValidArena_any s _ (H.out.alloc _)) HV.out).mono ?_
  rintro e w1 ⟨rfl, hb⟩
  have K := Lib.hid ((Blk.new w 25 #[.int .i64 s, .slice A n c]).on hb)
  have BB := Lib.hid (below_then (below_new w _) hb)
  have T1 := Lib.hid ((H.out.alloc _).below hb (Nat.le_refl _))
  clear hb
  obtain ⟨k0, k1⟩ := K.out.c2
  have kl := K.out.lt
  go_wp2_with (fail)
  go_loopw [3, 12] (fun t i wr => ∃ k : Nat, ∃ m : Int, k ≤ n ∧ 0 ≤ m ∧ m ≤ 64 * (k : Int) ∧ i = .int .i64 k ∧ t = .int .i64 m ∧ Hid (((xs.take k).map Tr.c).sum = m) ∧ Hid (Below w1.heap.size w1 wr)) (fun _ i _ => n - (intOf i).toNat)
  case atStart => exact ⟨0, 0, Nat.zero_le _, by omega, by omega, rfl, rfl, Lib.hid (by simp), Lib.hid (Below.refl _ _)⟩
  case round =>
    obtain ⟨k, m, hk, hm0, hm1, rfl, rfl, ha, hB⟩ := hrel
    by_cases hlt : k < n
    · obtain ⟨b, off, x, rfl, hx, ca, cb, cc⟩ := (T1.out.below hB.out (Nat.le_refl _)).at_ hlt
      obtain ⟨hv0, hv1⟩ := HC.out x (List.mem_of_getElem? hx)
      have HX := Lib.hid hx
      have hki : (k : Int) < (n : Int) := by omega
      clear hx k0 k1 kl
      go_wp2_with (fail)
      go_roundw
      case rel => exact ⟨k + 1, m + x.c, by omega, by omega, by omega, by go_num, by go_num, Lib.hid (by rw [sumC_next HX.out, ha.out]), Lib.hid (hB.out.alloc hB.out.size _)⟩
      case measure => simp [intOf]; omega
    · go_wp2_with (fail)
      go_ret
      have ht := ha.out
      rw [List.take_of_length_le (by have := H.out.len; omega)] at ht
      exact ⟨ret_int (by simp [usedA, HV.out, ht]), BB.out.trans (hB.out.mono BB.out.size)⟩
end Go.Proofs.Ytleoncjdhlomaaa
