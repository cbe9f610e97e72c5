/-
  The laws' comparison of like arenas, and contracts at named answers.
-/
import Derived.Test.YtleoncjdhlomaaaArX
namespace Go.Proofs.Ytleoncjdhlomaaa
open Go.RowKit
/-- The answer of a function on arenas, at names. -/
theorem ar_at {P : Program} {f : FuncId} {args : Array Value} {w : World} {T : Nat} {s s' : Int} {xs xs' : List Tr} {ok ok' : Bool} (h : Calls P f args w (GaveArB T w s xs ok)) (h1 : s = s') (h2 : xs = xs') (h3 : ok = ok') :
    Calls P f args w fun e w' => ∃ A n c, e = .returned (.tuple #[.agg #[.int .i64 s', .slice A n c], .bool ok']) ∧ OT w' T w.heap.size A n c xs' ∧ Below w.heap.size w w' := by
  subst h1 h2 h3
  exact h
/-- No arena. -/
theorem ar_none {P : Program} {f : FuncId} {args : Array Value} {w : World} {T : Nat} {s : Int} {xs : List Tr} {ok : Bool} (h : Calls P f args w (GaveArB T w s xs ok)) (h1 : ok = false) (h2 : ok = false → s = 0 ∧ xs = []) :
    Calls P f args w fun e w' => ∃ A n c, e = .returned (.tuple #[.agg #[.int .i64 0, .slice A n c], .bool false]) ∧ OT w' T w.heap.size A n c [] ∧ Below w.heap.size w w' := by
  obtain ⟨rfl, rfl⟩ := h2 h1
  subst h1
  exact h
theorem al_no {s nm sz : Int} {xs : List Tr} (h : alOK s xs nm sz = false) : alS s xs nm sz = 0 ∧ alX s xs nm sz = [] := by simp [alS, alX, h]
theorem fr_no {s nm : Int} {xs : List Tr} (h : frOK s xs nm = false) : frS s xs nm = 0 ∧ frX s xs nm = [] := by simp [frS, frX, h]
theorem cm_no {s : Int} {xs : List Tr} (h : validA s xs = false) : cmS s xs = 0 ∧ cmX s xs = [] := by simp [cmS, cmX, h]
theorem cm_yes {s : Int} {xs : List Tr} (h : validA s xs = true) : cmS s xs = s ∧ cmX s xs = cmpL xs := by simp [cmS, cmX, h]
set_option maxHeartbeats 800000 in
theorem laws_equalBlocks_same {A A' : Option Addr} {n c c' : Nat} {xs : List Tr} (w : World) (h : TS w A n c xs) (h' : TS w A' n c' xs) :
    Calls Try.prog 48 #[.slice A n c, .slice A' n c'] w fun e w' => e = .returned (.bool true) ∧ ∃ m, w' = w.drewN m := by
  have hcap := h.cap
  have H := Lib.hid h
  have H' := Lib.hid h'
  clear h h'
  go_enter Try.func48, Try.ntmps48
  go_wp2_with (fail)
  go_loopw [5] (fun i wr => ∃ k : Nat, ∃ m : Nat, k ≤ n ∧ i = .int .i64 k ∧ wr = w.drewN m) (fun i _ => n - (intOf i).toNat)
  case atStart => exact ⟨0, 0, Nat.zero_le _, rfl, rfl⟩
  case round =>
    obtain ⟨k, m, hk, rfl, rfl⟩ := hrel
    by_cases hlt : k < n
    · obtain ⟨b, off, x, rfl, hx, ca, cb, cc⟩ := H.out.at_ hlt
      obtain ⟨b', off', x', rfl, hx', ca', cb', cc'⟩ := H'.out.at_ hlt
      obtain rfl : x = x' := by rw [hx] at hx'; injection hx'
      clear hx hx'
      have hi1 : (k : Int) < (n : Int) := by omega
      have e1 : (x.a == x.a) = true := by simp
      have e2 : (x.b == x.b) = true := by simp
      have e3 : (x.c == x.c) = true := by simp
      go_wp2_with (fail)
      go_quiet (fail)
      go_wp2_with (fail)
      go_roundw
      case rel => exact ⟨k + 1, _, by omega, by go_num, rfl⟩
      case measure => simp [intOf]; omega
    · go_wp2_with (fail)
      go_ret
      exact ⟨rfl, _, rfl⟩
set_option maxHeartbeats 800000 in
theorem laws_equalArena_same {A B : Option Addr} {n c m d : Nat} {xs : List Tr} (s : Int) (w : World) (h1 : TS w A n c xs) (k1 : TS w B m d xs) :
    Calls Try.prog 20 #[.agg #[.int .i64 s, .slice A n c], .agg #[.int .i64 s, .slice B m d]] w fun e w' => e = .returned (.bool true) ∧ Below w.heap.size w w' := by
  obtain rfl : n = m := by have h2 := h1.len; have h3 := k1.len; omega
  have e1 : (s == s) = true := by simp
  have hb2 : Below w.heap.size w ((w.alloc (.cells #[.int .i64 s, .slice A n c] 25)).alloc (.cells #[.int .i64 s, .slice B n d] 25)) := ((Below.refl _ _).alloc (Nat.le_refl _) _).alloc (by simp) _
  have HB := Lib.hid hb2
  have H1 := Lib.hid (h1.below hb2 (Nat.le_refl _))
  have K1 := Lib.hid (k1.below hb2 (Nat.le_refl _))
  clear hb2 h1 k1
  go_enter Try.func20, Try.ntmps20
  go_wp2_with (fail)
  refine (laws_equalBlocks_same _ H1.out K1.out).mono ?_
  rintro e v1 ⟨rfl, m1, h1⟩
  replace HB := Lib.hid (show Below w.heap.size w v1 by rw [h1]; exact below_drewN HB.out _)
  clear h1
  go_wp2_with (fail)
  go_ret
  exact ⟨rfl, HB.out⟩
end Go.Proofs.Ytleoncjdhlomaaa
