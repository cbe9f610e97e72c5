/-
  Contracts of queues: lists of classes, whether one may leave, the turn goes on.
-/
import Derived.Test.YthemfejahohbeaaQuE
import Derived.RegionTactic
import Derived.ChangeAlike
import Derived.BigRegion
import Derived.Deep.RegionLaw
import Derived.Deep.DeepCutAuto
import Derived.Deep.DeepMust
namespace Go.Proofs.Ythemfejahohbeaa
open Go.RowKit
/-- The entries of a class. -/
def cls (c : Int) (xs : List Tr) : List Tr := xs.filter fun y => decide (y.b = c)
theorem cls_next {c : Int} {xs : List Tr} {k : Nat} {x : Tr} (h : xs[k]? = some x) : cls c (xs.take (k + 1)) = if x.b = c then cls c (xs.take k) ++ [x] else cls c (xs.take k) := by
  have hk : k < xs.length := (List.getElem?_eq_some_iff.1 h).1
  have hx : xs[k] = x := (List.getElem?_eq_some_iff.1 h).2
  unfold cls
  rw [List.take_succ_eq_append_getElem hk, hx, List.filter_append]
  by_cases e : x.b = c <;> simp [List.filter_cons, e]
theorem cls_len_le (c : Int) (xs : List Tr) : (cls c xs).length ≤ xs.length := List.length_filter_le _ _
theorem cls_head {c : Int} {xs : List Tr} : (cls c xs)[0]? = xs[whereC c xs]? := by
  unfold cls whereC
  induction xs with
  | nil => rfl
  | cons x xs ih =>
    by_cases e : x.b = c
    · simp [List.filter_cons, List.findIdx_cons, e]
    · simp [List.filter_cons, List.findIdx_cons, e, ih]
theorem cls_nil {c : Int} {xs : List Tr} : cls c xs = [] ↔ ¬ whereC c xs < xs.length := by
  have h := cls_head (c := c) (xs := xs)
  constructor
  · intro e hlt
    rw [e, List.getElem?_eq_getElem hlt] at h
    cases h
  · intro e
    rw [List.getElem?_eq_none (l := xs) (by omega)] at h
    rcases hc : cls c xs with _ | ⟨y, l⟩
    · rfl
    · rw [hc] at h; cases h
/-- A list has an oldest entry, and debt enough for it. -/
def mayLL (ys : List Tr) (d : Int) : Bool := match ys with
  | [] => false
  | x :: _ => decide (x.c ≤ d)
theorem mayLL_eq {xs : List Tr} {u : Nat} {d : List Int} : mayLL (cls (u : Int) xs) (d.getD u 0) = mayL xs (u, d) := by
  have h := cls_head (c := (u : Int)) (xs := xs)
  unfold mayL hasC sizeC
  rcases hc : cls (u : Int) xs with _ | ⟨y, l⟩
  · have := cls_nil.1 hc
    simp [mayLL, this]
  · rw [hc] at h
    have hlt : whereC (u : Int) xs < xs.length := by
      rcases Nat.lt_or_ge (whereC (u : Int) xs) xs.length with h1 | h1
      · exact h1
      · rw [List.getElem?_eq_none h1] at h; cases h
    have hg : xs.getD (whereC (u : Int) xs) ⟨0, 0, 0⟩ = y := by
      rw [List.getD_eq_getElem?_getD, ← h]; rfl
    simp only [mayLL, hlt, hg, decide_true, Bool.true_and]
theorem impl_mayLeave_any {A : Option Addr} {n c : Nat} {ys : List Tr} (d : Int) (w : World) (h : TS w A n c ys) :
    Calls Try.prog 44 #[.slice A n c, .int .i64 d] w fun e w' => e = .returned (.bool (mayLL ys d)) ∧ w = w' := by
  have hl := h.len
  rcases ys with _ | ⟨x, l⟩
  · obtain rfl : n = 0 := by simpa using hl.symm
    clear h hl
    go_enter Try.func44, Try.ntmps44
    go_wp2_with (fail)
    go_ret
    exact ⟨rfl, rfl⟩
  · have hn : 0 < n := by simp at hl; omega
    obtain ⟨b, off, x', rfl, hx, ca, cb, cc⟩ := h.at_ hn
    obtain rfl : x = x' := by simpa using hx
    rw [Nat.zero_mul, Nat.add_zero] at ca cb cc
    have hni : (0 : Int) < (n : Int) := by omega
    have HM : Hid (mayLL (x :: l) d = decide (x.c ≤ d)) := Lib.hid rfl
    clear h hl hx
    rcases Int.lt_or_le d x.c with hd | hd
    · have hdd : decide (x.c ≤ d) = false := decide_eq_false (by omega)
      rw [HM.out]
      go_enter Try.func44, Try.ntmps44
      go_wp2_with (fail)
      go_ret
      exact ⟨ret_bool (by first | rfl | (simp; omega)), rfl⟩
    · have hdd : decide (x.c ≤ d) = true := decide_eq_true hd
      rw [HM.out]
      go_enter Try.func44, Try.ntmps44
      go_wp2_with (fail)
      go_ret
      exact ⟨ret_bool (by first | rfl | (simp; omega)), rfl⟩
/-- A call has handed back the lists of the classes. -/
def GaveLs (T : Nat) (w : World) (xs : List Tr) (e : Ending) (w' : World) : Prop :=
  ∃ L0 a0 b0 L1 a1 b1 L2 a2 b2, e = .returned (.agg #[.slice L0 a0 b0, .slice L1 a1 b1, .slice L2 a2 b2]) ∧ OT w' T w.heap.size L0 a0 b0 (cls 0 xs) ∧ OT w' T w.heap.size L1 a1 b1 (cls 1 xs) ∧ OT w' T w.heap.size L2 a2 b2 (cls 2 xs) ∧ Below w.heap.size w w'
end Go.Proofs.Ythemfejahohbeaa
