/-
  Contracts of the laws' functions on windows.
-/
import Derived.Test.YtkeiekhikpoeaaaOwn
namespace Go.Proofs.Ytkeiekhikpoeaaa
open Go.RowKit

theorem laws_szWindow_any {A : Option Addr} {n c : Nat} (cl ky left : Int) (w : World) (h1 : n ≤ 9223372036854775807) (h2 : 0 ≤ left) (h3 : left ≤ 1048576) :
    Calls Try.prog 8 #[.agg #[.int .i64 cl, .int .i64 ky, .slice A n c], .int .i64 left] w fun e w' => e = .returned (.int .i64 (szL left n)) ∧ Below w.heap.size w w' := by
  rcases Int.lt_or_le left (n : Int) with h | h
  · have he := Lib.hid (szL_lo h)
    go_enter Try.func8, Try.ntmps8
    go_wp2_with (go_at_call 26; refine (laws_szIntS_any _ _ h1 h2 h3).mono ?_; rintro e w' ⟨rfl, rfl⟩; rw [he.out])
    go_ret
    exact ⟨ret_int he.out.symm, (Below.refl _ _).alloc (Nat.le_refl _) _⟩
  · have he := Lib.hid (szL_hi h)
    have hx : 0 ≤ left - (n : Int) := by omega
    go_enter Try.func8, Try.ntmps8
    go_wp2_with (go_at_call 26; refine (laws_szIntS_any _ _ h1 h2 h3).mono ?_; rintro e w' ⟨rfl, rfl⟩; rw [he.out])
    go_ret
    exact ⟨ret_int he.out.symm, (Below.refl _ _).alloc (Nat.le_refl _) _⟩
set_option maxHeartbeats 1000000 in
theorem laws_toWindow_any {A : Option Addr} {n c : Nat} {xs : List Int} (cl ky : Int) (w : World) (h : IS w A n c xs) (hn : n ≤ 1073741824) :
    Calls Try.prog 10 #[.agg #[.int .i64 cl, .int .i64 ky, .slice A n c]] w (GaveItem 3 w cl ky xs) := by
  have H := Lib.hid h
  clear h
  go_enter Try.func10, Try.ntmps10
  go_wp2_with (fail)
  refine (laws_toIntS_any _ (((H.out.alloc _).alloc _).alloc _) hn).mono ?_
  rintro e w1 ⟨A1, n1, c1, rfl, ho1, hb1⟩
  obtain ⟨hc, hf⟩ := bcell hb1
  have hz := hb1.size
  simp at hz
  have HO := Lib.hid ho1
  have HB := Lib.hid hb1
  clear ho1 hb1
  go_wp2_with (fail)
  refine bodyPost_ret (v := .agg #[.int .i64 cl, .int .i64 ky, .slice A1 n1 c1]) (by simp [results, Try.results10, go_sem, hc]) rfl ⟨_, _, _, rfl, ?_, ?_⟩
  · refine OW.base_le (base := w.heap.size + 1 + 1 + 1) ?_ (by omega)
    repeat (refine OW.setCell ?_ (by simp; try omega) _)
    simpa using HO.out
  · repeat (refine Below.setCell ?_ (by simp; try omega) _)
    exact Below.trans ((((Below.refl _ _).alloc (by simp) _).alloc (by simp; try omega) _).alloc (by simp; try omega) _) (HB.out.mono (by simp; try omega))
/-- Two items are equal. -/
def eqI (cl ky : Int) (xs : List Int) (cl' ky' : Int) (ys : List Int) : Bool := decide (cl = cl' ∧ ky = ky' ∧ xs = ys)
theorem eqI_refl (cl ky : Int) (xs : List Int) : eqI cl ky xs cl ky xs = true := by simp [eqI]
theorem eqI_f1 {cl ky cl' ky' : Int} {xs ys : List Int} (h : ¬ cl = cl') : eqI cl ky xs cl' ky' ys = false := by simp [eqI, h]
theorem eqI_f2 {cl ky cl' ky' : Int} {xs ys : List Int} (h : ¬ ky = ky') : eqI cl ky xs cl' ky' ys = false := by simp [eqI, h]
theorem eqI_3 {cl ky : Int} {xs ys : List Int} : eqI cl ky xs cl ky ys = decide (xs = ys) := by simp [eqI]
set_option maxHeartbeats 1000000 in
theorem laws_eqWindow_any {A A' : Option Addr} {n c n' c' : Nat} {xs ys : List Int} (cl ky cl' ky' : Int) (w : World) (h : IS w A n c xs) (h' : IS w A' n' c' ys) :
    Calls Try.prog 12 #[.agg #[.int .i64 cl, .int .i64 ky, .slice A n c], .agg #[.int .i64 cl', .int .i64 ky', .slice A' n' c']] w fun e w' =>
      e = .returned (.bool (eqI cl ky xs cl' ky' ys)) ∧ Below w.heap.size w w' := by
  have H := Lib.hid h
  have H' := Lib.hid h'
  clear h h'
  have hb2 : ∀ (a b : Obj), Below w.heap.size w ((w.alloc a).alloc b) := fun a b => ((Below.refl _ _).alloc (Nat.le_refl _) a).alloc (by simp) b
  by_cases h1 : cl = cl'
  · subst h1
    have e1 : (cl != cl) = false := by simp
    by_cases h2 : ky = ky'
    · subst h2
      have e2 : (ky != ky) = false := by simp
      rcases h3 : decide (xs = ys) with _ | _
      · go_enter Try.func12, Try.ntmps12
        go_wp2_with (go_at_call 21; refine (laws_eqIntS_any _ ((H.out.alloc _).alloc _) ((H'.out.alloc _).alloc _)).mono ?_; rintro e w' ⟨rfl, m, rfl⟩; rw [h3])
        go_ret
        exact ⟨ret_bool (by rw [eqI_3, h3]), below_drewN (hb2 _ _) _⟩
      · go_enter Try.func12, Try.ntmps12
        go_wp2_with (go_at_call 21; refine (laws_eqIntS_any _ ((H.out.alloc _).alloc _) ((H'.out.alloc _).alloc _)).mono ?_; rintro e w' ⟨rfl, m, rfl⟩; rw [h3])
        go_ret
        exact ⟨ret_bool (by rw [eqI_3, h3]), below_drewN (hb2 _ _) _⟩
    · have e2 : (ky != ky') = true := by simpa using h2
      have H2 := Lib.hid h2
      clear h2
      go_enter Try.func12, Try.ntmps12
      go_wp2_with (fail)
      go_ret
      exact ⟨ret_bool (eqI_f2 H2.out).symm, hb2 _ _⟩
  · have e1 : (cl != cl') = true := by simpa using h1
    have H2 := Lib.hid h1
    clear h1
    go_enter Try.func12, Try.ntmps12
    go_wp2_with (fail)
    go_ret
    exact ⟨ret_bool (eqI_f1 H2.out).symm, hb2 _ _⟩
set_option maxHeartbeats 1000000 in
theorem laws_markWindow_any {base : Nat} {A : Option Addr} {n c : Nat} {xs : List Int} (cl ky k : Int) (w : World) (h : OW w 3 base A n c xs) (hn : n ≤ 1073741824) (hk0 : 0 ≤ k) (hk1 : k ≤ 1099511627776) :
    Calls Try.prog 15 #[.agg #[.int .i64 cl, .int .i64 ky, .slice A n c], .int .i64 k] w fun e w' => e = .returned (.int .i64 (k + n)) ∧ OW w' 3 base A n c (marks k n) ∧ Row w w' A := by
  have H := Lib.hid h
  clear h
  go_enter Try.func15, Try.ntmps15
  go_wp2_with (fail)
  refine (laws_markIntS_any _ _ (H.out.alloc _) hn hk0 hk1).mono ?_
  rintro e w1 ⟨rfl, ho, hr⟩
  have HO := Lib.hid ho
  have HR := Lib.hid hr
  clear ho hr
  go_wp2_with (fail)
  go_ret
  exact ⟨rfl, HO.out, (World.grownBy_alloc _ _ _).trans HR.out⟩
set_option maxHeartbeats 1000000 in
theorem laws_heldWindow_any {A : Option Addr} {n c : Nat} (cl ky k : Int) (w : World) (h : IS w A n c (marks k n)) (hn : n ≤ 1073741824) (hk0 : 0 ≤ k) (hk1 : k ≤ 1099511627776) :
    Calls Try.prog 16 #[.agg #[.int .i64 cl, .int .i64 ky, .slice A n c], .int .i64 k] w fun e w' => e = .returned (.int .i64 (k + n)) ∧ Below w.heap.size w w' := by
  have H := Lib.hid h
  clear h
  go_enter Try.func16, Try.ntmps16
  go_wp2_with (fail)
  refine (laws_heldIntS_any _ _ (H.out.alloc _) hn hk0 hk1).mono ?_
  rintro e w1 ⟨rfl, rfl⟩
  go_wp2_with (fail)
  go_ret
  exact ⟨rfl, below_new _ _⟩
end Go.Proofs.Ytkeiekhikpoeaaa
