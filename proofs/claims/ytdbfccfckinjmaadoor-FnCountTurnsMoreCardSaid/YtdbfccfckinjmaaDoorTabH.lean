/-
  The listed variable of the rows on health: what it holds, how it reads behind the call, the start that fits.
-/
import Derived.Test.YtdbfccfckinjmaaDoorRows
import Derived.Test.YtdbfccfckinjmaaDoorTie
import Derived.Test.YtdbfccfckinjmaaDoorNh
import Derived.ProofKit
import Derived.LaidMore
import Derived.OpenShut
import Derived.ChangeVars
import Derived.Below
import Derived.Stop.Joined
namespace Go.Proofs.YtdbfccfckinjmaaDoor
open Go.ChangeShapes Go.WideShapes Go.ChangeAt Go.WideMaps Go.WideElems Go.RowKit

abbrev tabD {H : Type} : DataW H := .agg [.agg [.lit (.int .i64 0), .lit (.int .i64 0), .lit (.int .i64 1), .lit (.int .i64 1), .lit (.int .i64 2)], .agg [.lit (.int .i64 0), .lit (.int .i64 1), .lit (.int .i64 1), .lit (.int .i64 1), .lit (.int .i64 2)], .agg [.lit (.int .i64 0), .lit (.int .i64 1), .lit (.int .i64 1), .lit (.int .i64 2), .lit (.int .i64 2)]]
def tabC : Array Value := #[.int .i64 0, .int .i64 0, .int .i64 1, .int .i64 1, .int .i64 2, .int .i64 0, .int .i64 1, .int .i64 1, .int .i64 1, .int .i64 2, .int .i64 0, .int .i64 1, .int .i64 1, .int .i64 2, .int .i64 2]
def laidL : List (String × DataW Unit) := [("loop.example/telemetryagent/impl.healthAfter", Rows.laid_loop_example_telemetryagent_impl_healthAfter)]
theorem gW : Tryd.prog.globalNamed "loop.example/telemetryagent/impl.healthAfter" = some 0 := by kernel_rfl
theorem tW : (Tryd.prog.globals[0]?).map (·.type) = some 44 := by kernel_rfl
theorem cellsW : Tryd.prog.cellsOf 44 = 15 := by kernel_rfl
theorem cellsR : Tryd.prog.cellsOf 43 = 5 := by kernel_rfl
theorem cellsI : Tryd.prog.cellsOf 3 = 1 := by kernel_rfl
theorem reads_tab {H : Type} (enc : TypeId × Value → H) (W : World) (sp : Nat → Bool) : DataW.trod enc Tryd.prog W 0 sp true 3 44 tabC.toList = some (tabD, []) := by kernel_rfl
theorem int_of_trod {H : Type} {enc : TypeId × Value → H} {P : Program} {w : World} {base : Nat} {sp : Nat → Bool} {held : Bool} {fuel : Nat} {t : TypeId} {k : IntKind} {c : Value} {y : DataW H × List MemPlace}
    (ht : P.underlying t = some (.int k)) (h : DataW.trod enc P w base sp held fuel t [c] = some y) : ∃ n, c = .int k n ∧ y = (.lit (.int k n), []) := by
  cases fuel with
  | zero => simp [DataW.trod] at h
  | succ fuel =>
    cases c <;> simp [DataW.trod, ht] at h
    rename_i k' n
    obtain ⟨⟨rfl, _⟩, rfl⟩ := h
    exact ⟨n, rfl, rfl⟩
theorem row_of_trod {H : Type} {enc : TypeId × Value → H} {w : World} {sp : Nat → Bool} {held : Bool} {fuel : Nat} {c0 c1 c2 c3 c4 : Value} {y : DataW H × List MemPlace}
    (hd : DataW.trod enc Tryd.prog w 0 sp held fuel 43 [c0, c1, c2, c3, c4] = some y) : ∃ n0 n1 n2 n3 n4, c0 = .int .i64 n0 ∧ c1 = .int .i64 n1 ∧ c2 = .int .i64 n2 ∧ c3 = .int .i64 n3 ∧ c4 = .int .i64 n4 ∧ y.1 = .agg [.lit (.int .i64 n0), .lit (.int .i64 n1), .lit (.int .i64 n2), .lit (.int .i64 n3), .lit (.int .i64 n4)] := by
  cases fuel with
  | zero => simp [DataW.trod] at hd
  | succ fuel =>
    simp only [DataW.trod, Tryd.underlying43, cellsR, cellsI] at hd
    split at hd
    · have e : List.range 5 = [0, 1, 2, 3, 4] := rfl
      rw [e] at hd
      simp only [Option.map_eq_some_iff, List.mapM_cons, List.mapM_nil, Option.bind_eq_bind, Option.bind_eq_some_iff, Option.pure_def, Option.some.injEq] at hd
      obtain ⟨xs, ⟨y0, h0, _, ⟨y1, h1, _, ⟨y2, h2, _, ⟨y3, h3, _, ⟨y4, h4, _, rfl, rfl⟩, rfl⟩, rfl⟩, rfl⟩, rfl⟩, hx⟩ := hd
      obtain ⟨n0, rfl, rfl⟩ := int_of_trod Tryd.underlying3 h0
      obtain ⟨n1, rfl, rfl⟩ := int_of_trod Tryd.underlying3 h1
      obtain ⟨n2, rfl, rfl⟩ := int_of_trod Tryd.underlying3 h2
      obtain ⟨n3, rfl, rfl⟩ := int_of_trod Tryd.underlying3 h3
      obtain ⟨n4, rfl, rfl⟩ := int_of_trod Tryd.underlying3 h4
      subst hx
      exact ⟨n0, n1, n2, n3, n4, rfl, rfl, rfl, rfl, rfl, rfl⟩
    · cases hd
theorem cells_of_laid {W : World} (h : laidMetH Tryd.prog laidL W) : W.var? Tryd.prog "loop.example/telemetryagent/impl.healthAfter" = some tabC := by
  rw [MakeChecks.laidMetH_plain _ _ _ (by kernel_rfl)] at h
  obtain ⟨ps, ⟨g, t, cs, fuel, p, q, hg, ht, hvar, hd, _, _⟩, _⟩ := h
  obtain rfl := Option.some.inj (gW.symm.trans hg)
  obtain rfl := Option.some.inj (tW.symm.trans ht)
  rw [hvar]
  congr 1
  obtain ⟨l⟩ := cs
  cases fuel with
  | zero => simp [DataW.trod] at hd
  | succ fuel =>
    simp only [DataW.trod, Tryd.underlying44, cellsW, cellsR] at hd
    split at hd
    · rename_i hl
      obtain ⟨l0, l1, l2, l3, l4, l5, l6, l7, l8, l9, l10, l11, l12, l13, l14, rfl⟩ : ∃ l0 l1 l2 l3 l4 l5 l6 l7 l8 l9 l10 l11 l12 l13 l14, l = [l0, l1, l2, l3, l4, l5, l6, l7, l8, l9, l10, l11, l12, l13, l14] := by
        match l, hl with
        | [l0, l1, l2, l3, l4, l5, l6, l7, l8, l9, l10, l11, l12, l13, l14], _ => exact ⟨l0, l1, l2, l3, l4, l5, l6, l7, l8, l9, l10, l11, l12, l13, l14, rfl⟩
      have e : List.range 3 = [0, 1, 2] := rfl
      rw [e] at hd
      simp only [Option.map_eq_some_iff, List.mapM_cons, List.mapM_nil, Option.bind_eq_bind, Option.bind_eq_some_iff, Option.pure_def, Option.some.injEq] at hd
      obtain ⟨xs, ⟨y0, h0, _, ⟨y1, h1, _, ⟨y2, h2, _, rfl, rfl⟩, rfl⟩, rfl⟩, hx⟩ := hd
      obtain ⟨a0, a1, a2, a3, a4, rfl, rfl, rfl, rfl, rfl, hy0⟩ := row_of_trod h0
      obtain ⟨b0, b1, b2, b3, b4, rfl, rfl, rfl, rfl, rfl, hy1⟩ := row_of_trod h1
      obtain ⟨d0, d1, d2, d3, d4, rfl, rfl, rfl, rfl, rfl, hy2⟩ := row_of_trod h2
      simp [Rows.laid_loop_example_telemetryagent_impl_healthAfter, hy0, hy1, hy2] at hx
      obtain ⟨⟨⟨rfl, rfl, rfl, rfl, rfl⟩, ⟨rfl, rfl, rfl, rfl, rfl⟩, ⟨rfl, rfl, rfl, rfl, rfl⟩⟩, _⟩ := hx
      rfl
    · cases hd
theorem ha_of_var {W : World} (h : W.var? Tryd.prog "loop.example/telemetryagent/impl.healthAfter" = some tabC) : HA W :=
  ⟨World.var?_cell gW h 0, World.var?_cell gW h 1, World.var?_cell gW h 2, World.var?_cell gW h 3, World.var?_cell gW h 4, World.var?_cell gW h 5, World.var?_cell gW h 6, World.var?_cell gW h 7, World.var?_cell gW h 8, World.var?_cell gW h 9, World.var?_cell gW h 10, World.var?_cell gW h 11, World.var?_cell gW h 12, World.var?_cell gW h 13, World.var?_cell gW h 14⟩
theorem var_below {W W' : World} {cs : Array Value} (h : W.var? Tryd.prog "loop.example/telemetryagent/impl.healthAfter" = some cs) (hb : Below W.heap.size W W') : W'.var? Tryd.prog "loop.example/telemetryagent/impl.healthAfter" = some cs := by
  simp only [World.var?, gW, Option.bind_some] at h ⊢
  have h0 : 0 < W.heap.size := by
    rcases Nat.lt_or_ge 0 W.heap.size with hl | hg
    · exact hl
    · rw [Array.getElem?_eq_none hg] at h
      cases h
  rw [hb.block 0 h0]
  exact h
theorem vars_at {H : Type} (enc : TypeId × Value → H) {W : World} (h : W.var? Tryd.prog "loop.example/telemetryagent/impl.healthAfter" = some tabC) (sp : Nat → Bool) :
    DataW.TrodVars enc Tryd.prog W sp ["loop.example/telemetryagent/impl.healthAfter"] [tabD] (MemPlace.row ⟨0, 0, none⟩ tabC.size ++ []) :=
  trodVars_mk1 gW tW h (reads_tab enc W sp)
theorem door_met (os : Os) (args : Array Value) : laidMetH Tryd.prog laidL ((World.doorLaid Tryd.prog 400 os).forCall (fun _ _ => 0) ⟨#[], args, []⟩).memory :=
  laidMetH_of_parts3 (fuel := 8) (laidMet_of_run' 8 (by kernel_rfl) (by kernel_rfl)) (by kernel_rfl) (by kernel_rfl)
end Go.Proofs.YtdbfccfckinjmaaDoor
