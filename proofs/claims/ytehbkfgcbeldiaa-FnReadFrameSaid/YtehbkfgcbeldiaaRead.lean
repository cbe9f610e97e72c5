/-
  Contracts of ReadFrame (the program's and the model's).
-/
import Derived.Test.YtehbkfgcbeldiaaFrame
import Derived.Test.YtehbkfgcbeldiaaConcat
import Derived.Deep.RegionHeld3
import Derived.Deep.DrawnRows
import Derived.Deep.DeepCutAuto
import Derived.KernelRfl
namespace Go.Proofs.Ytehbkfgcbeldiaa
open Go.RowKit
attribute [local go_sem ↓] Go.wp_at_zero Go.wp_at_succ

/-- Where the check of a frame at the beginning stands. -/
def rn (bs : List Int) : Nat := 4 + (bs.getD 1 0).toNat
def rBody (bs : List Int) : List Int := (bs.take (rn bs)).drop 4
/-- Whether a frame is at the beginning of the numbers. -/
def rOK (bs : List Int) : Bool :=
  okB bs 60 && decide (5 ≤ bs.length ∧ bs.getD 0 0 = 165 ∧ rn bs < bs.length) && validI (bs.getD 2 0) (bs.getD 3 0) (rBody bs) && decide (chk ((bs.take (rn bs)).drop 1) = bs.getD (rn bs) 0)
def rC (bs : List Int) : Int := if rOK bs = true then bs.getD 2 0 else 0
def rK (bs : List Int) : Int := if rOK bs = true then bs.getD 3 0 else 0
def rX (bs : List Int) : List Int := if rOK bs = true then rBody bs else []
def rL (bs : List Int) : Nat := if rOK bs = true then rn bs + 1 else 0
theorem rOK_f1 {bs : List Int} (h : okB bs 60 = false) : rOK bs = false := by simp [rOK, h]
theorem rOK_f2 {bs : List Int} (h : bs.length < 5) : rOK bs = false := by
  have : ¬ 5 ≤ bs.length := by omega
  simp [rOK, this]
theorem rOK_f3 {bs : List Int} (h : ¬ bs.getD 0 0 = 165) : rOK bs = false := by
  have : ¬ (5 ≤ bs.length ∧ bs.getD 0 0 = 165 ∧ rn bs < bs.length) := fun x => h x.2.1
  unfold rOK
  rw [decide_eq_false this]
  simp
theorem rOK_f4 {bs : List Int} (h : ¬ rn bs < bs.length) : rOK bs = false := by
  have : ¬ (5 ≤ bs.length ∧ bs.getD 0 0 = 165 ∧ rn bs < bs.length) := fun x => h x.2.2
  unfold rOK
  rw [decide_eq_false this]
  simp
theorem rOK_f5 {bs : List Int} (h : validI (bs.getD 2 0) (bs.getD 3 0) (rBody bs) = false) : rOK bs = false := by simp only [rOK, h, Bool.and_false, Bool.false_and]
theorem rOK_f6 {bs : List Int} (h : ¬ chk ((bs.take (rn bs)).drop 1) = bs.getD (rn bs) 0) : rOK bs = false := by simp only [rOK, decide_eq_false h, Bool.and_false]
theorem rOK_t {bs : List Int} (h1 : okB bs 60 = true) (h2 : 5 ≤ bs.length ∧ bs.getD 0 0 = 165 ∧ rn bs < bs.length) (h5 : validI (bs.getD 2 0) (bs.getD 3 0) (rBody bs) = true) (h6 : chk ((bs.take (rn bs)).drop 1) = bs.getD (rn bs) 0) : rOK bs = true := by
  simp only [rOK, h1, decide_eq_true h2, h5, decide_eq_true h6, Bool.and_self]
theorem r_f {bs : List Int} (h : rOK bs = false) : rC bs = 0 ∧ rK bs = 0 ∧ rX bs = [] ∧ rL bs = 0 := by simp [rC, rK, rX, rL, h]
theorem r_t {bs : List Int} (h : rOK bs = true) : rC bs = bs.getD 2 0 ∧ rK bs = bs.getD 3 0 ∧ rX bs = rBody bs ∧ rL bs = rn bs + 1 := by simp [rC, rK, rX, rL, h]
theorem getD_of {xs : List Int} {k : Nat} {v : Int} (h : xs[k]? = some v) : xs.getD k 0 = v := by rw [List.getD_eq_getElem?_getD, h]; rfl
theorem rX_le (bs : List Int) : (rX bs).length ≤ 8 := by
  rcases hr : rOK bs with _ | _
  · rw [(r_f hr).2.2.1]; simp
  · rw [(r_t hr).2.2.1]
    simp only [rOK, Bool.and_eq_true] at hr
    exact (validI_parts hr.1.2).2.2.2.2.1
/-- What reading a frame hands back. -/
def GaveRead (T : Nat) (w : World) (bs : List Int) (e : Ending) (w' : World) : Prop :=
  ∃ A n c, e = .returned (.tuple #[.agg #[.int .i64 (rC bs), .int .i64 (rK bs), .slice A n c], .int .i64 (rL bs), .bool (rOK bs)]) ∧ OW w' T w.heap.size A n c (rX bs) ∧ Below w.heap.size w w'
theorem gaveRead_f {T : Nat} {w w' : World} {bs : List Int} (h : rOK bs = false) (hb : Below w.heap.size w w') :
    GaveRead T w bs (.returned (.tuple #[.agg #[.int .i64 0, .int .i64 0, .slice none 0 0], .int .i64 0, .bool false])) w' := by
  obtain ⟨h1, h2, h3, h4⟩ := r_f h
  refine ⟨none, 0, 0, by rw [h1, h2, h4, h]; rfl, ?_, hb⟩
  rw [h3]
  exact ⟨rfl, .inl ⟨rfl, rfl⟩⟩
/-- What stands behind the making of an item out of a frame's numbers: the item lies in block g. -/
def RdCut (I T : TypeId) (w wx : World) (g : Nat) (v2 v3 : Int) (A1 : Option Addr) (n1 c1 : Nat) (body : List Int) : Prop :=
  Blk wx g I #[.int .i64 v2, .int .i64 v3, .slice A1 n1 c1] ∧ OW wx T (w.heap.size + 1) A1 n1 c1 body ∧ Below (w.heap.size + 1) (w.alloc (.cells #[.int .i64 0, .int .i64 0, .slice none 0 0] I)) wx ∧ w.heap.size < g
theorem flat1 {w : World} {T base : Nat} {A : Option Addr} {n c : Nat} {x : List Int} (h : OW w T base A n c [x].flatten) : OW w T base A n c x := by simpa using h
theorem cell_b0 (w : World) (o : Obj) (T : TypeId) (x : Value) : ((w.alloc o).alloc (.cells #[x] T)).drew.cell? ⟨w.heap.size + 1, 0, none⟩ = some x := by
  have h := (Blk.new (w.alloc o) T #[x]).c1
  have e : (w.alloc o).heap.size = w.heap.size + 1 := by simp
  rw [e] at h
  exact h
theorem cell_b1 (w : World) (o o2 : Obj) (T : TypeId) (x : Value) : (((w.alloc o).alloc (.cells #[x] T)).alloc o2).drew.cell? ⟨w.heap.size + 1, 0, none⟩ = some x := by
  have h := ((Blk.new (w.alloc o) T #[x]).alloc o2).c1
  have e : (w.alloc o).heap.size = w.heap.size + 1 := by simp
  rw [e] at h
  exact h
theorem cell_b2 (w : World) (o o2 : Obj) (T : TypeId) (x : Value) : (((w.alloc o).alloc o2).alloc (.cells #[x] T)).drew.cell? ⟨w.heap.size + 1 + 1, 0, none⟩ = some x := by
  have h := (Blk.new ((w.alloc o).alloc o2) T #[x]).c1
  have e : ((w.alloc o).alloc o2).heap.size = w.heap.size + 1 + 1 := by simp
  rw [e] at h
  exact h
theorem rd_a {I T : TypeId} {w w3 : World} {o : Obj} {v2 v3 : Int} {A1 : Option Addr} {n1 c1 : Nat} {body : List Int}
    (hb : Below ((w.alloc (.cells #[.int .i64 0, .int .i64 0, .slice none 0 0] I)).alloc o).drew.heap.size ((w.alloc (.cells #[.int .i64 0, .int .i64 0, .slice none 0 0] I)).alloc o).drew w3)
    (ho : OW w3 T ((w.alloc (.cells #[.int .i64 0, .int .i64 0, .slice none 0 0] I)).alloc o).drew.heap.size A1 n1 c1 body) :
    RdCut I T w (w3.alloc (.cells #[.int .i64 v2, .int .i64 v3, .slice A1 n1 c1] I)) w3.heap.size v2 v3 A1 n1 c1 body := by
  have hs : w.heap.size + 1 + 1 ≤ w3.heap.size := by simpa [World.drew] using hb.size
  refine ⟨Blk.new _ _ _, (ho.alloc _).base_le (by simp [World.drew]), Below.alloc ?_ (by omega) _, by omega⟩
  exact (((Below.refl _ _).alloc (by simp) _).drew).trans (hb.mono (by simp [World.drew]))
theorem rd_b {I T : TypeId} {w w3 : World} {o : Obj} {v2 v3 : Int} {A1 : Option Addr} {n1 c1 : Nat} {body : List Int}
    (hb : Below (((w.alloc (.cells #[.int .i64 0, .int .i64 0, .slice none 0 0] I)).alloc o).alloc (.cells #[.int .i64 0, .int .i64 0, .slice none 0 0] I)).drew.heap.size (((w.alloc (.cells #[.int .i64 0, .int .i64 0, .slice none 0 0] I)).alloc o).alloc (.cells #[.int .i64 0, .int .i64 0, .slice none 0 0] I)).drew w3)
    (ho : OW w3 T (((w.alloc (.cells #[.int .i64 0, .int .i64 0, .slice none 0 0] I)).alloc o).alloc (.cells #[.int .i64 0, .int .i64 0, .slice none 0 0] I)).drew.heap.size A1 n1 c1 body) :
    RdCut I T w (((w3.setCell ⟨w.heap.size + 1 + 1, 0, none⟩ (.int .i64 v2)).setCell ⟨w.heap.size + 1 + 1, 1, none⟩ (.int .i64 v3)).setCell ⟨w.heap.size + 1 + 1, 2, none⟩ (.slice A1 n1 c1)) (w.heap.size + 1 + 1) v2 v3 A1 n1 c1 body := by
  have k : Blk w3 (w.heap.size + 1 + 1) I #[.int .i64 0, .int .i64 0, .slice none 0 0] := by
    have h := (Blk.new ((w.alloc (.cells #[.int .i64 0, .int .i64 0, .slice none 0 0] I)).alloc o) I #[.int .i64 0, .int .i64 0, .slice none 0 0]).drew.on hb
    simpa using h
  have hs : w.heap.size + 1 + 1 + 1 ≤ w3.heap.size := by simpa [World.drew] using hb.size
  refine ⟨((k.set_ 0 _).set_ 1 _).set_ 2 _, (((ho.setCell (by simp [World.drew]) _).setCell (by simp [World.drew]) _).setCell (by simp [World.drew]) _).base_le (by simp [World.drew]; try omega), (((Below.setCell ?_ (by simp) _).setCell (by simp) _).setCell (by simp) _), by omega⟩
  exact ((((Below.refl _ _).alloc (by simp) _).alloc (by simp) _).drew).trans (hb.mono (by simp [World.drew]; try omega))
theorem rd_c {I T : TypeId} {w w3 : World} {o : Obj} {v2 v3 : Int} {A1 : Option Addr} {n1 c1 : Nat} {body : List Int}
    (hb : Below (((w.alloc (.cells #[.int .i64 0, .int .i64 0, .slice none 0 0] I)).alloc (.cells #[.int .i64 0, .int .i64 0, .slice none 0 0] I)).alloc o).drew.heap.size (((w.alloc (.cells #[.int .i64 0, .int .i64 0, .slice none 0 0] I)).alloc (.cells #[.int .i64 0, .int .i64 0, .slice none 0 0] I)).alloc o).drew w3)
    (ho : OW w3 T (((w.alloc (.cells #[.int .i64 0, .int .i64 0, .slice none 0 0] I)).alloc (.cells #[.int .i64 0, .int .i64 0, .slice none 0 0] I)).alloc o).drew.heap.size A1 n1 c1 body) :
    RdCut I T w (((w3.setCell ⟨w.heap.size + 1, 0, none⟩ (.int .i64 v2)).setCell ⟨w.heap.size + 1, 1, none⟩ (.int .i64 v3)).setCell ⟨w.heap.size + 1, 2, none⟩ (.slice A1 n1 c1)) (w.heap.size + 1) v2 v3 A1 n1 c1 body := by
  have k : Blk w3 (w.heap.size + 1) I #[.int .i64 0, .int .i64 0, .slice none 0 0] := by
    have h := ((Blk.new (w.alloc (.cells #[.int .i64 0, .int .i64 0, .slice none 0 0] I)) I #[.int .i64 0, .int .i64 0, .slice none 0 0]).alloc o).drew.on hb
    simpa using h
  have hs : w.heap.size + 1 + 1 + 1 ≤ w3.heap.size := by simpa [World.drew] using hb.size
  refine ⟨((k.set_ 0 _).set_ 1 _).set_ 2 _, (((ho.setCell (by simp [World.drew]; try omega) _).setCell (by simp [World.drew]; try omega) _).setCell (by simp [World.drew]; try omega) _).base_le (by simp [World.drew]; try omega), (((Below.setCell ?_ (by simp) _).setCell (by simp) _).setCell (by simp) _), by omega⟩
  exact ((((Below.refl _ _).alloc (by simp) _).alloc (by simp) _).drew).trans (hb.mono (by simp [World.drew]; try omega))
end Go.Proofs.Ytehbkfgcbeldiaa
