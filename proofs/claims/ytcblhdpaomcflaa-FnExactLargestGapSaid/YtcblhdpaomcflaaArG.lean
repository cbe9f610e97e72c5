/-
  Contracts of arenas: the gaps.
-/
import Derived.Test.YtcblhdpaomcflaaArU
import Derived.Test.YtcblhdpaomcflaaPr
import Derived.Lib.MinMax
namespace Go.Proofs.Ytcblhdpaomcflaa
open Go.RowKit
theorem infoGap : (Try.prog.info? 53).map (fun i => (i.zero, i.size, i.bytes)) = some (some (.agg #[.int .i64 0, .int .i64 0]), 2, 16) := by kernel_rfl
theorem info1Blk : True := trivial
/-- The gaps before the first blocks. -/
def gapsK (xs : List Tr) (k : Nat) : List (Int × Int) := (List.range k).map fun i => (endT (xs.take i), (xs.getD i default).b - endT (xs.take i))
theorem gapsK_next {xs : List Tr} {k : Nat} {x : Tr} (h : xs[k]? = some x) : gapsK xs (k + 1) = gapsK xs k ++ [(endT (xs.take k), x.b - endT (xs.take k))] := by
  have hx : xs.getD k default = x := by rw [List.getD_eq_getElem?_getD, h]; rfl
  simp [gapsK, List.range_succ, ← hx]
/-- All gaps of an arena. -/
def gapsA (s : Int) (xs : List Tr) : List (Int × Int) := gapsK xs xs.length ++ [(endT xs, s - endT xs)]
/-- The greatest of the first gaps. -/
def mostP (L : List (Int × Int)) : Int := L.foldl (fun m g => max m g.2) 0
theorem mostP_next (L : List (Int × Int)) (g : Int × Int) : mostP (L ++ [g]) = max (mostP L) g.2 := by simp [mostP]
noncomputable def gapA (s : Int) (xs : List Tr) : Int := if validA s xs then mostP (gapsA s xs) else -1
theorem end_bd {s : Int} {xs : List Tr} (h : validA s xs = true) {k : Nat} (hk : k ≤ xs.length) : 0 ≤ endT (xs.take k) ∧ endT (xs.take k) ≤ 64 := by
  obtain ⟨h1, _, h3⟩ := validA_iff.1 h
  have := okPre_end (k := k) (fun j hj => h3 j (by omega)) hk h1.1
  omega
set_option maxHeartbeats 2000000 in
theorem spec_LargestGap_any {A : Option Addr} {n c : Nat} {xs : List Tr} (s : Int) (w : World) (h : TS w A n c xs) :
    Calls Try.prog 22 #[.agg #[.int .i64 s, .slice A n c]] w fun e w' => e = .returned (.int .i64 (gapA s xs)) ∧ Below w.heap.size w w' := by
  have hl := h.len
  have H := Lib.hid h
  clear h
  rcases hv : validA s xs with _ | _
  · clear hl
    go_enter Try.func22, Try.ntmps22
    go_wp2_with (fail)
    refine (call_b (spec_validArena_any s _ (H.out.alloc _)) hv).mono ?_
    rintro e w1 ⟨rfl, hb⟩
    have BB := Lib.hid (below_then (below_new w _) hb)
    clear hb
    go_wp2_with (fail)
    go_ret
    exact ⟨ret_int (by simp [gapA, hv]), BB.out⟩
  obtain ⟨h10, hc⟩ := validA_used hv
  have hn : n ≤ 10 := by omega
  have HV := Lib.hid hv
  have HL := Lib.hid hl
  obtain ⟨hs0, hs1⟩ := (validA_iff.1 hv).1
  clear hl h10 hc hv
  go_enter Try.func22, Try.ntmps22
  go_wp2_with (fail)
  refine (call_b (spec_validArena_any s _ (H.out.alloc _)) HV.out).mono ?_
  rintro e w1 ⟨rfl, hb⟩
  have K := Lib.hid ((Blk.new w 29 #[.int .i64 s, .slice A n c]).on hb)
  have BB := Lib.hid (below_then (below_new w _) hb)
  have T1 := Lib.hid ((H.out.alloc _).below hb (Nat.le_refl _))
  clear hb
  obtain ⟨k0, k1⟩ := K.out.c2
  have kl := K.out.lt
  go_wp2_with (fail)
  go_loopw [3, 4, 5] (fun t e i wr => ∃ (k d : Nat) (m E : Int), wr = w1.drewN d ∧ k ≤ n ∧ 0 ≤ m ∧ m ≤ 64 ∧ 0 ≤ E ∧ E ≤ 64 ∧ i = .int .i64 k ∧ t = .int .i64 m ∧ e = .int .i64 E ∧ Hid (mostP (gapsK xs k) = m ∧ endT (xs.take k) = E)) (fun _ _ i _ => n - (intOf i).toNat)
  case atStart => exact ⟨0, 0, 0, 0, rfl, Nat.zero_le _, by omega, by omega, by omega, by omega, rfl, rfl, rfl, Lib.hid ⟨rfl, rfl⟩⟩
  case round =>
    obtain ⟨k, d, m, E, rfl, hk, hm0, hm1, hE0, hE1, rfl, rfl, rfl, ha⟩ := hrel
    by_cases hlt : k < n
    · obtain ⟨b, off, x, rfl, hx, ca, cb, cc⟩ := T1.out.at_ hlt
      obtain ⟨_, ⟨hb0, hb1⟩, hc0, hc1⟩ := (validA_iff.1 HV.out).at_ (List.mem_of_getElem? hx)
      have HE : Hid (endT (xs.take (k + 1)) = x.b + x.c) := Lib.hid (endT_next hx)
      obtain ⟨he0, he1⟩ := end_bd HV.out (k := k + 1) (by have := HL.out; omega)
      rw [HE.out] at he0 he1
      have HX := Lib.hid hx
      have hw1 : IntKind.i64.wrap (x.b - E) = x.b - E := by rw [IntWalk.i64_in _ (by omega)]
      have hm2 : max m (x.b - E) ≤ 64 := by omega
      have hm3 : 0 ≤ max m (x.b - E) := by omega
      have hki : (k : Int) < (n : Int) := by omega
      clear hx
      go_wp2_with (fail)
      go_quiet (fail)
      go_wp2_with (fail)
      go_roundw
      case rel => exact ⟨k + 1, _, max m (x.b - E), x.b + x.c, rfl, by omega, hm3, hm2, he0, he1, by go_num, by go_num, by go_num, Lib.hid ⟨by rw [gapsK_next HX.out, mostP_next, ha.out.1, ha.out.2], HE.out⟩⟩
      case measure => simp [intOf]; omega
    · have ek : k = n := by omega
      subst ek
      have hw1 : IntKind.i64.wrap (s - E) = s - E := by rw [IntWalk.i64_in _ (by omega)]
      go_wp2_with (fail)
      go_ret
      have h1 := ha.out.1
      have h2 := ha.out.2
      rw [List.take_of_length_le (by have := HL.out; omega)] at h2
      have h3 := HL.out
      subst h3
      exact ⟨ret_int (by rw [gapA, HV.out, gapsA, mostP_next, h1, h2]; rfl), below_drewN BB.out _⟩
end Go.Proofs.Ytcblhdpaomcflaa
