/-
  Contract of the laws' named: the entry of a name.
-/
import Derived.Test.YthemfejahohbeaaTri
import Derived.Test.YthemfejahohbeaaInt
import Derived.Deep.DeepMust
namespace Go.Proofs.Ythemfejahohbeaa
open Go.RowKit

set_option maxHeartbeats 1000000 in
theorem laws_named_at {A : Option Addr} {n c : Nat} {xs : List Tr} (x : Tr) (K : Nat) (w : World) (h : TS w A n c xs) (hK : xs[K]? = some x) (hne : ∀ j y, j < K → xs[j]? = some y → y.a ≠ x.a) :
    Calls Try.prog 32 #[.slice A n c, .int .i64 x.a] w fun e w' => e = .returned (.tuple #[.agg #[.int .i64 x.a, .int .i64 x.b, .int .i64 x.c], .bool true]) ∧ Below w.heap.size w w' := by
  have hcap := h.cap
  have hKn : K < n := by have := (List.getElem?_eq_some_iff.1 hK).1; have := h.len; omega
  have H := Lib.hid (h.alloc (.cells #[.int .i64 0, .int .i64 0, .int .i64 0] 29))
  have B0 := Lib.hid (below_new w (.cells #[.int .i64 0, .int .i64 0, .int .i64 0] 29))
  have E0 := Lib.hid (Blk.new w 29 #[.int .i64 0, .int .i64 0, .int .i64 0])
  have HK := Lib.hid hK
  have HNE := Lib.hid hne
  clear h hK hne
  go_enter Try.func32, Try.ntmps32
  go_wp2_with (fail)
  go_loop [6] (fun i => ∃ k : Nat, k ≤ K ∧ i = .int .i64 (k : Int)) (fun i => K + 1 - (intOf i).toNat)
  case atStart => exact ⟨0, Nat.zero_le _, rfl⟩
  case round =>
    obtain ⟨k, hk, rfl⟩ := hrel
    have hlt : k < n := by omega
    have hlt' : (k : Int) < (n : Int) := by omega
    obtain ⟨b, off, z, rfl, hz, ca, cb, cc⟩ := H.out.at_ hlt
    by_cases e : k = K
    · subst e
      obtain rfl : z = x := by have := HK.out; rw [this] at hz; injection hz with hz; exact hz.symm
      have e1 : (z.a == z.a) = true := by simp
      have f0 := E0.out.frozen 0
      have f1 := E0.out.frozen 1
      have f2 := E0.out.frozen 2
      obtain ⟨p0, p1, p2⟩ := E0.out.c3
      clear hz
      go_wp2_with (fail)
      refine bodyPost_ret (v := .tuple #[.agg #[.int .i64 z.a, .int .i64 z.b, .int .i64 z.c], .bool true]) (by simp [results, Try.results32, go_sem]) rfl ⟨rfl, ?_⟩
      exact below_new w _
    · have hne2 := HNE.out k z (by omega) hz
      have e1 : (z.a == x.a) = false := by simp [hne2]
      clear hz hne2
      go_wp2_with (fail)
      go_round
      case rel => exact ⟨k + 1, by omega, by first | rfl | go_num⟩
      case measure => simp [intOf]; omega
end Go.Proofs.Ythemfejahohbeaa
