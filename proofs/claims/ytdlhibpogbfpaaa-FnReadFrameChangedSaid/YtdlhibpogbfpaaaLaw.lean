/-
  Facts of frames and of calls, for the laws.
-/
import Derived.Test.YtdlhibpogbfpaaaDraw
namespace Go.Proofs.Ytdlhibpogbfpaaa
open Go.RowKit
theorem call_true {P : Program} {f : FuncId} {args : Array Value} {w : World} {B : Nat} {b : Bool} (h : Calls P f args w fun e w' => e = .returned (.bool b) ∧ Below B w w') (hb : b = true) : Calls P f args w fun e w' => e = .returned (.bool true) ∧ Below B w w' := by
  subst hb
  exact h
theorem call_val {P : Program} {f : FuncId} {args : Array Value} {w : World} {R : World → Prop} {b c : Int} (h : Calls P f args w fun e w' => e = .returned (.int .i64 b) ∧ R w') (hb : b = c) : Calls P f args w fun e w' => e = .returned (.int .i64 c) ∧ R w' := by
  subst hb
  exact h
theorem call_drewN {P : Program} {f : FuncId} {args : Array Value} {w : World} {b : Bool} (h : Calls P f args w fun e w' => e = .returned (.bool b) ∧ ∃ m, w' = w.drewN m) (hb : b = true) : Calls P f args w fun e w' => e = .returned (.bool true) ∧ Below w.heap.size w w' := by
  subst hb
  refine h.mono ?_
  rintro e w' ⟨rfl, m, rfl⟩
  exact ⟨rfl, below_drewN (Below.refl _ _) m⟩
theorem frameL_body (cl ky : Int) (xs : List Int) : ((frameL cl ky xs).take (4 + xs.length)).drop 4 = xs := by
  have e : frameL cl ky xs = ([165, (xs.length : Int), cl, ky] ++ xs) ++ [chk (bodyL cl ky xs)] := by simp [frameL, bodyL]
  rw [e, List.take_left' (by simp; omega)]
  simp
theorem frameL_run (cl ky : Int) (xs : List Int) : ((frameL cl ky xs).take (4 + xs.length)).drop 1 = bodyL cl ky xs := by
  have e : frameL cl ky xs = (165 :: bodyL cl ky xs) ++ [chk (bodyL cl ky xs)] := rfl
  rw [e, List.take_left' (by simp [bodyL]; omega)]
  simp
theorem frameL_0 (cl ky : Int) (xs : List Int) : (frameL cl ky xs)[0]? = some 165 := by simp [frameL, bodyL]
theorem frameL_1 (cl ky : Int) (xs : List Int) : (frameL cl ky xs)[1]? = some (xs.length : Int) := by simp [frameL, bodyL]
theorem frameL_2 (cl ky : Int) (xs : List Int) : (frameL cl ky xs)[2]? = some cl := by simp [frameL, bodyL]
theorem frameL_3 (cl ky : Int) (xs : List Int) : (frameL cl ky xs)[3]? = some ky := by simp [frameL, bodyL]
theorem frameL_n (cl ky : Int) (xs : List Int) : (frameL cl ky xs)[4 + xs.length]? = some (chk (bodyL cl ky xs)) := by
  have e : frameL cl ky xs = (165 :: bodyL cl ky xs) ++ [chk (bodyL cl ky xs)] := rfl
  have hl : (165 :: bodyL cl ky xs).length = 4 + xs.length := by simp [bodyL]; omega
  rw [e, List.getElem?_append_right (by omega), hl]
  simp
theorem IS.cell_is {w : World} {b off n c : Nat} {xs : List Int} (h : IS w (some ⟨b, off, none⟩) n c xs) {k : Nat} {v : Int} (hk : k < n) (hv : xs[k]? = some v) : w.cell? ⟨b, off + k, none⟩ = some (.int .i64 v) := by
  obtain ⟨b', o', v', e, hx, hc⟩ := h.at_ hk
  simp only [Option.some.injEq, Addr.mk.injEq, and_true] at e
  obtain ⟨rfl, rfl⟩ := e
  rw [hv] at hx
  injection hx with hx
  subst hx
  exact hc
end Go.Proofs.Ytdlhibpogbfpaaa
