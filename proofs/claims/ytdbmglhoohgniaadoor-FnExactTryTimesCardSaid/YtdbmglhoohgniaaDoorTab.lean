/-
  The listed variable of the rows on tries: what it holds, how it reads behind the call, the start that fits.
-/
import Derived.Test.YtdbmglhoohgniaaDoorRows
import Derived.Test.YtdbmglhoohgniaaDoorTie
import Derived.Test.YtdbmglhoohgniaaDoorTry
import Derived.ProofKit
import Derived.LaidMore
import Derived.OpenShut
import Derived.ChangeVars
import Derived.Below
import Derived.Stop.Joined
namespace Go.Proofs.YtdbmglhoohgniaaDoor
open Go.ChangeShapes Go.WideShapes Go.ChangeAt Go.WideMaps Go.WideElems Go.RowKit

abbrev tabD {H : Type} : DataW H := .agg [.lit (.int .i64 4), .lit (.int .i64 8), .lit (.int .i64 16), .lit (.int .i64 32), .lit (.int .i64 60), .lit (.int .i64 60)]
def tabC : Array Value := #[.int .i64 4, .int .i64 8, .int .i64 16, .int .i64 32, .int .i64 60, .int .i64 60]
def laidL : List (String × DataW Unit) := [("loop.example/telemetryagent/impl.waits", Rows.laid_loop_example_telemetryagent_impl_waits)]
theorem gW : Tryd.prog.globalNamed "loop.example/telemetryagent/impl.waits" = some 0 := by kernel_rfl
theorem tW : (Tryd.prog.globals[0]?).map (·.type) = some 35 := by kernel_rfl
theorem cellsW : Tryd.prog.cellsOf 35 = 6 := by kernel_rfl
theorem cellsI : Tryd.prog.cellsOf 3 = 1 := by kernel_rfl
theorem reads_tab {H : Type} (enc : TypeId × Value → H) (W : World) (sp : Nat → Bool) : DataW.trod enc Tryd.prog W 0 sp true 3 35 tabC.toList = some (tabD, []) := by kernel_rfl
theorem int_of_trod {H : Type} {enc : TypeId × Value → H} {P : Program} {w : World} {base : Nat} {sp : Nat → Bool} {held : Bool} {fuel : Nat} {t : TypeId} {k : IntKind} {c : Value} {y : DataW H × List MemPlace}
    (ht : P.underlying t = some (.int k)) (h : DataW.trod enc P w base sp held fuel t [c] = some y) : ∃ n, c = .int k n ∧ y = (.lit (.int k n), []) := by
  cases fuel with
  | zero => simp [DataW.trod] at h
  | succ fuel =>
    cases c <;> simp [DataW.trod, ht] at h
    rename_i k' n
    obtain ⟨⟨rfl, _⟩, rfl⟩ := h
    exact ⟨n, rfl, rfl⟩
theorem cells_of_laid {W : World} (h : laidMetH Tryd.prog laidL W) : W.var? Tryd.prog "loop.example/telemetryagent/impl.waits" = some tabC := by
  rw [MakeChecks.laidMetH_plain _ _ _ (by kernel_rfl)] at h
  obtain ⟨ps, ⟨g, t, cs, fuel, p, q, hg, ht, hvar, hd, _, _⟩, _⟩ := h
  obtain rfl := Option.some.inj (gW.symm.trans hg)
  obtain rfl := Option.some.inj (tW.symm.trans ht)
  rw [hvar]
  congr 1
  obtain ⟨l⟩ := cs
  cases fuel with
  | zero => simp [DataW.trod] at hd
  | succ fuel =>
    simp only [DataW.trod, Tryd.underlying35, cellsW, cellsI] at hd
    split at hd
    · rename_i hl
      obtain ⟨c0, c1, c2, c3, c4, c5, rfl⟩ : ∃ c0 c1 c2 c3 c4 c5, l = [c0, c1, c2, c3, c4, c5] := by
        match l, hl with
        | [a, b, c, d, e, f], _ => exact ⟨a, b, c, d, e, f, rfl⟩
      have e : List.range 6 = [0, 1, 2, 3, 4, 5] := rfl
      rw [e] at hd
      simp only [Option.map_eq_some_iff, List.mapM_cons, List.mapM_nil, Option.bind_eq_bind, Option.bind_eq_some_iff, Option.pure_def, Option.some.injEq] at hd
      obtain ⟨xs, ⟨y0, h0, _, ⟨y1, h1, _, ⟨y2, h2, _, ⟨y3, h3, _, ⟨y4, h4, _, ⟨y5, h5, _, rfl, rfl⟩, rfl⟩, rfl⟩, rfl⟩, rfl⟩, rfl⟩, hx⟩ := hd
      obtain ⟨n0, rfl, rfl⟩ := int_of_trod Tryd.underlying3 h0
      obtain ⟨n1, rfl, rfl⟩ := int_of_trod Tryd.underlying3 h1
      obtain ⟨n2, rfl, rfl⟩ := int_of_trod Tryd.underlying3 h2
      obtain ⟨n3, rfl, rfl⟩ := int_of_trod Tryd.underlying3 h3
      obtain ⟨n4, rfl, rfl⟩ := int_of_trod Tryd.underlying3 h4
      obtain ⟨n5, rfl, rfl⟩ := int_of_trod Tryd.underlying3 h5
      simp [Rows.laid_loop_example_telemetryagent_impl_waits] at hx
      obtain ⟨⟨rfl, rfl, rfl, rfl, rfl, rfl⟩, _⟩ := hx
      rfl
    · cases hd
theorem wa_of_var {W : World} (h : W.var? Tryd.prog "loop.example/telemetryagent/impl.waits" = some tabC) : WA W :=
  ⟨World.var?_cell gW h 0, World.var?_cell gW h 1, World.var?_cell gW h 2, World.var?_cell gW h 3, World.var?_cell gW h 4, World.var?_cell gW h 5⟩
theorem var_below {W W' : World} {cs : Array Value} (h : W.var? Tryd.prog "loop.example/telemetryagent/impl.waits" = some cs) (hb : Below W.heap.size W W') : W'.var? Tryd.prog "loop.example/telemetryagent/impl.waits" = some cs := by
  simp only [World.var?, gW, Option.bind_some] at h ⊢
  have h0 : 0 < W.heap.size := by
    rcases Nat.lt_or_ge 0 W.heap.size with hl | hg
    · exact hl
    · rw [Array.getElem?_eq_none hg] at h
      cases h
  rw [hb.block 0 h0]
  exact h
theorem vars_at {H : Type} (enc : TypeId × Value → H) {W : World} (h : W.var? Tryd.prog "loop.example/telemetryagent/impl.waits" = some tabC) (sp : Nat → Bool) :
    DataW.TrodVars enc Tryd.prog W sp ["loop.example/telemetryagent/impl.waits"] [tabD] (MemPlace.row ⟨0, 0, none⟩ tabC.size ++ []) :=
  trodVars_mk1 gW tW h (reads_tab enc W sp)
theorem door_met (os : Os) (args : Array Value) : laidMetH Tryd.prog laidL ((World.doorLaid Tryd.prog 400 os).forCall (fun _ _ => 0) ⟨#[], args, []⟩).memory :=
  laidMetH_of_parts3 (fuel := 8) (laidMet_of_run' 8 (by kernel_rfl) (by kernel_rfl)) (by kernel_rfl) (by kernel_rfl)
end Go.Proofs.YtdbmglhoohgniaaDoor
