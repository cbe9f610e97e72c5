/-
  Contracts of queues: an entry is put in, bytes.
-/
import Derived.Test.YtnhlbaldbjcjaaaQuC
import Derived.Test.YtnhlbaldbjcjaaaQuY
import Derived.Test.YtnhlbaldbjcjaaaQuP
namespace Go.Proofs.Ytnhlbaldbjcjaaa
open Go.RowKit
/-- A call has handed back a queue with new memory, and whether there is one. -/
def GaveQuB (T TI : Nat) (w : World) (xs : List Tr) (sh db : List Int) (t : Int) (b : Bool) (e : Ending) (w' : World) : Prop :=
  ∃ A1 n1 c1 A2 n2 c2 A3 n3 c3, e = .returned (.tuple #[.agg #[.slice A1 n1 c1, .slice A2 n2 c2, .slice A3 n3 c3, .int .i64 t], .bool b]) ∧ OT w' T w.heap.size A1 n1 c1 xs ∧ OW w' TI w.heap.size A2 n2 c2 sh ∧ OW w' TI w.heap.size A3 n3 c3 db ∧ Disj A1 A2 ∧ Disj A1 A3 ∧ Disj A2 A3 ∧ Below w.heap.size w w'
theorem OW.nil (w : World) (T base : Nat) : OW w T base none 0 0 [] := ⟨rfl, .inl ⟨rfl, rfl⟩⟩
theorem disj_none (A : Option Addr) : Disj none A := fun p q hp _ => by cases hp
/-- An entry can be put in. -/
noncomputable def puOK (xs : List Tr) (sh db : List Int) (t : Int) (x : Tr) : Bool := validQ (xs ++ [x]) sh db t
noncomputable def puX (xs : List Tr) (sh db : List Int) (t : Int) (x : Tr) : List Tr := if puOK xs sh db t x then xs ++ [x] else []
noncomputable def puS (xs : List Tr) (sh db : List Int) (t : Int) (x : Tr) : List Int := if puOK xs sh db t x then sh else []
noncomputable def puD (xs : List Tr) (sh db : List Int) (t : Int) (x : Tr) : List Int := if puOK xs sh db t x then db else []
noncomputable def puT (xs : List Tr) (sh db : List Int) (t : Int) (x : Tr) : Int := if puOK xs sh db t x then t else 0
theorem puOK_f {xs : List Tr} {sh db : List Int} {t : Int} {x : Tr} (h : validQ xs sh db t = false) : puOK xs sh db t x = false := by
  rcases hb : puOK xs sh db t x with _ | _
  · rfl
  · exfalso
    unfold puOK at hb
    obtain ⟨h1, h2⟩ := validQ_iff.1 hb
    have h3 := validQ_iff.2 ⟨validE_t ((validE_iff.1 h1).sub (List.sublist_append_left xs [x])), h2⟩
    rw [h] at h3
    cases h3
theorem puX_le (xs : List Tr) (sh db : List Int) (t : Int) (x : Tr) : (puX xs sh db t x).length ≤ 10 := by
  unfold puX
  split
  · rename_i h; exact (validE_iff.1 (validQ_iff.1 h).1).1
  · simp
theorem puS_le (xs : List Tr) (sh db : List Int) (t : Int) (x : Tr) : (puS xs sh db t x).length ≤ 3 := by
  unfold puS
  split
  · rename_i h; have := (cnt_iff.1 (validQ_iff.1 h).2.1).1; omega
  · simp
theorem puD_le (xs : List Tr) (sh db : List Int) (t : Int) (x : Tr) : (puD xs sh db t x).length ≤ 3 := by
  unfold puD
  split
  · rename_i h; have := (cnt_iff.1 (validQ_iff.1 h).2.2.1).1; omega
  · simp
theorem gavePu_f {T TI : Nat} {w w' : World} {xs : List Tr} {sh db : List Int} {t : Int} {x : Tr} {b : Bool} (h : puOK xs sh db t x = false) (k : b = false) (hb : Below w.heap.size w w') :
    GaveQuB T TI w (puX xs sh db t x) (puS xs sh db t x) (puD xs sh db t x) (puT xs sh db t x) b (.returned (.tuple #[.agg #[.slice none 0 0, .slice none 0 0, .slice none 0 0, .int .i64 0], .bool false])) w' :=
  ⟨none, 0, 0, none, 0, 0, none, 0, 0, by simp [puT, h, k], by simp only [puX, h]; exact OT.nil _ _ _, by simp only [puS, h]; exact OW.nil _ _ _, by simp only [puD, h]; exact OW.nil _ _ _, disj_none _, disj_none _, disj_none _, hb⟩
end Go.Proofs.Ytnhlbaldbjcjaaa
