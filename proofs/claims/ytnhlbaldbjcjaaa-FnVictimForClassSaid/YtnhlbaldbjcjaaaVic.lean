/-
  The heap of victims of the program: its methods Len, Less and Swap.
-/
import Derived.Test.YtnhlbaldbjcjaaaQuB
import Derived.Deep.RegionHeld3
import Derived.RegionTactic
namespace Go.Proofs.Ytnhlbaldbjcjaaa
open Go.RowKit

/-- Which of two entries goes first: the greater class, then the smaller place. -/
def goesL (x y : Int) (p q : Nat) : Bool := if x = y then decide (p < q) else decide (y < x)
theorem drewN3 (w : World) (a b c : Nat) : ((w.drewN a).drewN b).drewN c = w.drewN (a + (b + c)) := by rw [World.drewN_drewN, World.drewN_drewN]
theorem vic_Len_any {g : Nat} {A B : Option Addr} {n c m d : Nat} (w : World) (hP : Blk w g 41 #[.slice B m d, .slice A n c]) :
    Calls Try.prog 16 #[.pointer (some ⟨g, 0, none⟩)] w fun e w' => e = .returned (.int .i64 n) ∧ w' = w := by
  obtain ⟨p0, p1⟩ := hP.c2
  go_enter Try.func16, Try.ntmps16
  go_wp2_with (fail)
  go_ret
  exact ⟨rfl, rfl⟩
set_option maxHeartbeats 2000000 in
theorem vic_Less_any {g : Nat} {A B : Option Addr} {n c m d i j p q : Nat} {xs : List Tr} {ps : List Int} {x y : Tr} (w : World) (hP : Blk w g 41 #[.slice B m d, .slice A n c])
    (hT : TS w B m d xs) (hI : IS w A n c ps) (hi : i < n) (hj : j < n) (hp : ps[i]? = some (p : Int)) (hq : ps[j]? = some (q : Int)) (hx : xs[p]? = some x) (hy : xs[q]? = some y) :
    Calls Try.prog 46 #[.pointer (some ⟨g, 0, none⟩), .int .i64 (i : Int), .int .i64 (j : Int)] w fun e w' => e = .returned (.bool (goesL x.b y.b p q)) ∧ ∃ N, w' = w.drewN N := by
  obtain ⟨p0, p1⟩ := hP.c2
  have hpm : p < m := by have h1 := hT.len; have h2 := (List.getElem?_eq_some_iff.1 hx).1; omega
  have hqm : q < m := by have h1 := hT.len; have h2 := (List.getElem?_eq_some_iff.1 hy).1; omega
  have hcap := hI.cap
  have hcap2 := hT.cap
  obtain ⟨b, off, v, rfl, hv, cv⟩ := hI.at_ hi
  obtain ⟨b1, off1, u, e1, hu, cu⟩ := hI.at_ hj
  simp only [Option.some.injEq, Addr.mk.injEq, and_true] at e1
  obtain ⟨rfl, rfl⟩ := e1
  obtain rfl : (p : Int) = v := by rw [hp] at hv; injection hv
  obtain rfl : (q : Int) = u := by rw [hq] at hu; injection hu
  obtain ⟨b2, off2, x', rfl, hx', xa, xb, xc⟩ := hT.at_ hpm
  obtain ⟨b3, off3, y', e2, hy', ya, yb, yc⟩ := hT.at_ hqm
  simp only [Option.some.injEq, Addr.mk.injEq, and_true] at e2
  obtain ⟨rfl, rfl⟩ := e2
  obtain rfl : x = x' := by rw [hx] at hx'; injection hx'
  obtain rfl : y = y' := by rw [hy] at hy'; injection hy'
  obtain ⟨x1, x2, x3⟩ := x
  obtain ⟨y1, y2, y3⟩ := y
  have i1 : (i : Int) < (n : Int) := by omega
  have j1 : (j : Int) < (n : Int) := by omega
  have p2 : (p : Int) < (m : Int) := by omega
  have q2 : (q : Int) < (m : Int) := by omega
  clear hP hT hI hv hu hx hy hx' hy' hp hq xa xc ya yc hi hj hpm hqm
  by_cases hne : x2 = y2
  · have hb : (x2 != y2) = false := by simpa using hne
    have hg : Hid (goesL x2 y2 p q = decide (p < q)) := Lib.hid (by rw [goesL, if_pos hne])
    clear hne
    go_enter Try.func46, Try.ntmps46
    go_wp2_with (fail)
    go_quiet (fail)
    go_wp2_with (fail)
    go_quiet (fail)
    go_wp2_with (fail)
    go_ret
    exact ⟨ret_bool hg.out.symm, _, rfl⟩
  · have hb : (x2 != y2) = true := by simpa using hne
    have hg : Hid (goesL x2 y2 p q = decide (y2 < x2)) := Lib.hid (by rw [goesL, if_neg hne])
    clear hne
    go_enter Try.func46, Try.ntmps46
    go_wp2_with (fail)
    go_quiet (fail)
    go_wp2_with (fail)
    go_quiet (fail)
    go_wp2_with (fail)
    go_quiet (fail)
    go_wp2_with (fail)
    go_ret
    exact ⟨ret_bool hg.out.symm, _, drewN3 w _ _ _⟩
set_option maxHeartbeats 4000000 in
theorem vic_Swap_any {g gp base n c m d i j : Nat} {B : Option Addr} {p q : Int} {ps : List Int} (w : World) (hP : Blk w g 41 #[.slice B m d, .slice (some ⟨gp, 0, none⟩) n c])
    (hO : OW w 3 base (some ⟨gp, 0, none⟩) n c ps) (hg : g ≠ gp) (hi : i < n) (hj : j < n) (hij : i ≠ j) (hp : ps[i]? = some p) (hq : ps[j]? = some q) :
    Calls Try.prog 48 #[.pointer (some ⟨g, 0, none⟩), .int .i64 (i : Int), .int .i64 (j : Int)] w fun e w' => e = .returned (.tuple #[]) ∧ ∃ N, w' = ((w.setCell ⟨gp, i, none⟩ (.int .i64 q)).setCell ⟨gp, j, none⟩ (.int .i64 p)).drewN N := by
  obtain ⟨p0, p1⟩ := hP.c2
  have ci : w.cell? ⟨gp, i, none⟩ = some (.int .i64 p) := by
    obtain ⟨b, off, v, e0, hv, cv⟩ := hO.is.at_ hi
    simp only [Option.some.injEq, Addr.mk.injEq, and_true] at e0
    obtain ⟨rfl, rfl⟩ := e0
    rw [hp] at hv
    injection hv with hv
    rw [Nat.zero_add] at cv
    rw [hv]; exact cv
  have cj : w.cell? ⟨gp, j, none⟩ = some (.int .i64 q) := by
    obtain ⟨b, off, v, e0, hv, cv⟩ := hO.is.at_ hj
    simp only [Option.some.injEq, Addr.mk.injEq, and_true] at e0
    obtain ⟨rfl, rfl⟩ := e0
    rw [hq] at hv
    injection hv with hv
    rw [Nat.zero_add] at cv
    rw [hv]; exact cv
  have fi : w.frozen? ⟨gp, i, none⟩ = false := World.ownsRow.frozenAt hO i
  have fj : w.frozen? ⟨gp, j, none⟩ = false := World.ownsRow.frozenAt hO j
  have hcap := hO.is.cap
  have i1 : (i : Int) < (n : Int) := by omega
  have j1 : (j : Int) < (n : Int) := by omega
  clear hP hO hp hq hi hj p0
  go_enter Try.func48, Try.ntmps48
  go_region
  go_wp2_with (fail)
  refine bodyPost_end (v := .tuple #[]) (by simp [results, Try.results48, go_sem]) rfl ?_
  exact ⟨rfl, _, rfl⟩
end Go.Proofs.Ytnhlbaldbjcjaaa
