/-
  Words for the laws on windows: both ways of SendNext, of AckBatch, and of the readers; equalWindow on like windows.
-/
import Derived.Test.YtpfeadjmmefbgaaDrawW
namespace Go.Proofs.Ytpfeadjmmefbgaa
open Go.RowKit

theorem IS.upto {w : World} {A : Option Addr} {n c m : Nat} {xs : List Int} (h : IS w A n c xs) (hm : m ≤ n) : IS w A m c (xs.take m) := by
  refine ⟨by rw [List.length_take]; have := h.len; omega, Nat.le_trans hm h.2.1, h.2.2.1, fun h0 => ?_, h.2.2.2.2⟩
  obtain ⟨b, off, e, hc⟩ := h.2.2.2.1 (by omega)
  refine ⟨b, off, e, fun j hj => ?_⟩
  rw [hc j (by omega), List.getD_eq_getElem?_getD, List.getD_eq_getElem?_getD, List.getElem?_take, if_pos hj]
theorem sn_yes {P : Program} {f : FuncId} {args : Array Value} {T : Nat} {w : World} {b nx : Int} {xs : List Int} (h : Calls P f args w (GaveSn T w (snB b nx xs) (snN b nx xs) (snX b nx xs) (snI b nx xs) (snOK b nx xs))) (hk : snOK b nx xs = true) :
    Calls P f args w (GaveSn T w b (nx + 1) xs nx true) := by
  simpa [snB, snN, snX, snI, hk] using h
theorem sn_no {P : Program} {f : FuncId} {args : Array Value} {T : Nat} {w : World} {b nx : Int} {xs : List Int} (h : Calls P f args w (GaveSn T w (snB b nx xs) (snN b nx xs) (snX b nx xs) (snI b nx xs) (snOK b nx xs))) (hk : snOK b nx xs = false) :
    Calls P f args w (GaveSn T w 0 0 [] (-1) false) := by
  simpa [snB, snN, snX, snI, hk] using h
/-- Where a window begins after an acknowledgement, and what is acknowledged then. -/
def akU (b nx : Int) (xs : List Int) (m : Int) : Int := upR (ackP xs m) b (akK b nx)
def akL (b nx : Int) (xs : List Int) (m : Int) : List Int := (ackR (ackP xs m) b (akK b nx)).2
theorem ak_yes {P : Program} {f : FuncId} {args : Array Value} {T : Nat} {w : World} {b nx m : Int} {xs : List Int} (h : Calls P f args w (GaveWB T w (akB b nx xs m) (akN b nx xs m) (akX b nx xs m) (akOK b nx xs m))) (hk : akOK b nx xs m = true) {u : Int} {ys : List Int} (hu : akU b nx xs m = u) (hy : akL b nx xs m = ys) :
    Calls P f args w (GaveWB T w u nx ys true) := by
  subst hu hy
  simpa [akB, akN, akX, akU, akL, hk] using h
theorem ak_no {P : Program} {f : FuncId} {args : Array Value} {T : Nat} {w : World} {b nx m : Int} {xs : List Int} (h : Calls P f args w (GaveWB T w (akB b nx xs m) (akN b nx xs m) (akX b nx xs m) (akOK b nx xs m))) (hk : akOK b nx xs m = false) :
    Calls P f args w (GaveWB T w 0 0 [] false) := by
  simpa [akB, akN, akX, hk] using h
theorem ints_at {P : Program} {f : FuncId} {args : Array Value} {T : Nat} {w : World} {l l' : List Int} (h : Calls P f args w (GaveInts T w l)) (e : l = l') : Calls P f args w (GaveInts T w l') := e ▸ h
set_option maxHeartbeats 1000000 in
theorem equalWindow_same {A A' : Option Addr} {n c n' c' : Nat} {xs : List Int} (b nx : Int) (w : World) (h : IS w A n c xs) (h' : IS w A' n' c' xs) :
    Calls Try.prog 9 #[.agg #[.int .i64 b, .int .i64 nx, .slice A n c], .agg #[.int .i64 b, .int .i64 nx, .slice A' n' c']] w fun e w' => e = .returned (.bool true) ∧ Below w.heap.size w w' := by
  have H := Lib.hid h
  have H' := Lib.hid h'
  clear h h'
  have e1 : (b == b) = true := by simp
  have e2 : (nx == nx) = true := by simp
  go_enter Try.func9, Try.ntmps9
  go_wp2_with (go_at_call 12; refine (laws_equalInts_any _ ((H.out.alloc _).alloc _) ((H'.out.alloc _).alloc _)).mono ?_; rintro e w' ⟨rfl, m, rfl⟩; rw [show decide (xs = xs) = true from decide_eq_true rfl])
  go_ret
  exact ⟨rfl, below_drewN (((Below.refl _ _).alloc (Nat.le_refl _) _).alloc (by simp) _) _⟩
theorem equalInts_same {A A' : Option Addr} {n c n' c' : Nat} {xs : List Int} (w : World) (h : IS w A n c xs) (h' : IS w A' n' c' xs) :
    Calls Try.prog 12 #[.slice A n c, .slice A' n' c'] w fun e w' => e = .returned (.bool true) ∧ Below w.heap.size w w' := by
  refine (laws_equalInts_any w h h').mono ?_
  rintro e w' ⟨rfl, m, rfl⟩
  exact ⟨ret_bool (decide_eq_true rfl), below_drewN (Below.refl _ _) m⟩
theorem below_of_same {P : Program} {f : FuncId} {args : Array Value} {w : World} {v : Value} (h : Calls P f args w fun e w' => e = .returned v ∧ w = w') : Calls P f args w fun e w' => e = .returned v ∧ Below w.heap.size w w' :=
  h.mono fun _ _ ⟨he, hw⟩ => ⟨he, hw ▸ Below.refl _ _⟩
end Go.Proofs.Ytpfeadjmmefbgaa
