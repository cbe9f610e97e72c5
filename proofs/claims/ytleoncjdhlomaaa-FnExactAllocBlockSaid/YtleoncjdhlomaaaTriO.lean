/-
  A slice of structs of three integers that came in, as the shell of a proof tells it.
-/
import Derived.Test.YtleoncjdhlomaaaTri
import Derived.Deep.Slices
import Derived.Deep.Fields
import Derived.ChangeSame
namespace Go.Proofs.Ytleoncjdhlomaaa
open Go.RowKit Go.ChangeShapes Go.WideShapes Go.Deep
theorem TS.of_trod {H : Type} {enc : TypeId × Value → H} {P : Program} {w : World} {base : Nat} {spare : Nat → Bool} {held : Bool} {t e T : TypeId} {f0 f1 f2 : Field} {fuel : Nat} {cs : List Value} {y : DataW H × List MemPlace}
    (ht : P.underlying t = some (.slice e)) (he : P.underlying e = some (.struct #[f0, f1, f2])) (hC : P.cellsOf e = 3)
    (o0 : f0.offset = 0) (o1 : f1.offset = 1) (o2 : f2.offset = 2) (t0 : f0.type = T) (t1 : f1.type = T) (t2 : f2.type = T) (hT : P.cellsOf T = 1) (hi : P.underlying T = some (.int .i64))
    (h : DataW.trod enc P w base spare held fuel t cs = some y) : ∃ A n c zs, cs = [.slice A n c] ∧ TS w A n c zs := by
  rcases open_slice ht h with ⟨rfl, _⟩ | ⟨a, len, cap, m, n, D, Pl, rfl, _, hl, hm, hmm, _, hx⟩
  · exact ⟨none, 0, 0, [], rfl, TS.nil w⟩
  have hlm : len ≤ m := by rw [hmm]; split <;> omega
  have each : ∀ i, i < len → ∃ x : Tr, w.cell? (a.add (i * 3)) = some (.int .i64 x.a) ∧ w.cell? ((a.add (i * 3)).add 1) = some (.int .i64 x.b) ∧ w.cell? ((a.add (i * 3)).add 2) = some (.int .i64 x.c) := by
    intro i hi'
    obtain ⟨cs', hcs, htr⟩ := hx i (by omega)
    rw [hC] at hcs
    obtain ⟨_, hlen, hcell⟩ := World.cells?_some hcs
    obtain ⟨xs, k, _, _, _, hxl, hf⟩ := DataW.trod_struct he htr
    match cs', hlen with
    | [u0, u1, u2], _ =>
      have hxl3 : xs.length = 3 := hxl
      have g0 := hf 0 f0 rfl
      have g1 := hf 1 f1 rfl
      have g2 := hf 2 f2 rfl
      rw [o0, t0, hT] at g0
      rw [o1, t1, hT] at g1
      rw [o2, t2, hT] at g2
      rw [List.getElem?_eq_getElem (by omega)] at g0 g1 g2
      obtain ⟨z0, e0, _⟩ := DataW.trod_int hi g0
      obtain ⟨z1, e1, _⟩ := DataW.trod_int hi g1
      obtain ⟨z2, e2, _⟩ := DataW.trod_int hi g2
      simp at e0 e1 e2
      have c0 := hcell 0 (by omega)
      have c1 := hcell 1 (by omega)
      have c2 := hcell 2 (by omega)
      refine ⟨⟨z0, z1, z2⟩, ?_, ?_, ?_⟩
      · have e : (a.add (i * 3)).add 0 = a.add (i * 3) := by simp [Addr.add]
        rw [e] at c0
        rw [c0, e0]; rfl
      · rw [c1, e1]; rfl
      · rw [c2, e2]; rfl
  let f : Nat → Tr := fun i => if h : i < len then (each i h).choose else ⟨0, 0, 0⟩
  refine ⟨some a, len, cap, (List.range len).map f, rfl, by simp, hl, hm, fun hn => ?_, fun h => by cases h⟩
  obtain ⟨b, off, spot⟩ := a
  have hs : spot = none := by
    obtain ⟨x0, h0, _⟩ := each 0 hn
    have e : (⟨b, off, spot⟩ : Addr).add (0 * 3) = ⟨b, off, spot⟩ := by simp [Addr.add]
    rw [e] at h0
    exact World.cell?_spot h0
  subst hs
  refine ⟨b, off, rfl, fun j x hj => ?_⟩
  have hjl : j < len := by
    have := (List.getElem?_eq_some_iff.1 hj).1
    simpa using this
  have hfx : f j = x := by
    rw [List.getElem?_map, List.getElem?_range hjl] at hj
    simpa using hj
  have hfj : f j = (each j hjl).choose := dif_pos hjl
  have hspec : w.cell? ((⟨b, off, none⟩ : Addr).add (j * 3)) = some (.int .i64 (f j).a) ∧ w.cell? (((⟨b, off, none⟩ : Addr).add (j * 3)).add 1) = some (.int .i64 (f j).b) ∧ w.cell? (((⟨b, off, none⟩ : Addr).add (j * 3)).add 2) = some (.int .i64 (f j).c) := by
    rw [hfj]
    exact (each j hjl).choose_spec
  rw [hfx] at hspec
  rw [add_plain', add_plain', add_plain'] at hspec
  exact hspec
end Go.Proofs.Ytleoncjdhlomaaa
