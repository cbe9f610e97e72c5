/-
  Contracts of entries and queues: what the model's entries are, bytes by classes, what can be shed.
-/
import Derived.Test.YtmlnaijpbfddaaaQuS
import Derived.Deep.RegionHeld3
import Derived.RegionTactic
import Derived.ChangeAlike
import Derived.BigRegion
namespace Go.Proofs.Ytmlnaijpbfddaaa
open Go.RowKit
set_option maxHeartbeats 1000000 in
theorem spec_validEntries_any {A : Option Addr} {n c : Nat} {xs : List Tr} (w : World) (h : TS w A n c xs) :
    Calls Try.prog 35 #[.slice A n c] w fun e w' => e = .returned (.bool (validE xs)) ∧ Below w.heap.size w w' := by
  have o1 := OW.lit w 3 w.heap.size [1, 1, 1] (Nat.le_refl _) (by decide)
  have o2 := OW.lit (w.alloc (.cells #[.int .i64 1, .int .i64 1, .int .i64 1] 3)) 3 w.heap.size [0, 0, 0] (by simp) (by decide)
  have H := Lib.hid ((h.alloc (.cells #[.int .i64 1, .int .i64 1, .int .i64 1] 3)).alloc (.cells #[.int .i64 0, .int .i64 0, .int .i64 0] 3))
  have I1 : Hid (IS ((w.alloc (.cells #[.int .i64 1, .int .i64 1, .int .i64 1] 3)).alloc (.cells #[.int .i64 0, .int .i64 0, .int .i64 0] 3)) (some ⟨w.heap.size, 0, none⟩) 3 3 [1, 1, 1]) := Lib.hid (by have := (o1.alloc (.cells #[.int .i64 0, .int .i64 0, .int .i64 0] 3)).is; simpa using this)
  have I2 : Hid (IS ((w.alloc (.cells #[.int .i64 1, .int .i64 1, .int .i64 1] 3)).alloc (.cells #[.int .i64 0, .int .i64 0, .int .i64 0] 3)) (some ⟨w.heap.size + 1, 0, none⟩) 3 3 [0, 0, 0]) := Lib.hid (by have := o2.is; simpa using this)
  have B0 := Lib.hid (((Below.refl w.heap.size w).alloc (Nat.le_refl _) (.cells #[.int .i64 1, .int .i64 1, .int .i64 1] 3)).alloc (by simp) (.cells #[.int .i64 0, .int .i64 0, .int .i64 0] 3))
  clear h o1 o2
  go_enter Try.func35, Try.ntmps35
  go_wp2_with (fail)
  refine (spec_validQueue_any 0 _ H.out I1.out I2.out).mono ?_
  rintro e w1 ⟨rfl, hb⟩
  have BB := Lib.hid (B0.out.trans (hb.mono B0.out.size))
  clear hb
  go_wp2_with (fail)
  go_ret
  exact ⟨ret_bool (validQ_entries xs), BB.out⟩
theorem canShed_f {xs : List Tr} {c : Int} (h : validE xs = false ∨ inR c 0 2 = false) : canShed xs c = -1 := by
  rcases h with h | h <;> simp [canShed, h]
theorem canShed_t {xs : List Tr} {c : Int} (h : validE xs = true) (h2 : inR c 0 2 = true) : canShed xs c = shedB xs c := by simp [canShed, h, h2]
end Go.Proofs.Ytmlnaijpbfddaaa
