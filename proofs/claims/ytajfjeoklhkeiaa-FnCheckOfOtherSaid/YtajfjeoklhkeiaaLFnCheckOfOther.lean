/-
  The walk of FnCheckOfOther.
-/
import Derived.Test.YtajfjeoklhkeiaaStreamA
namespace Go.Proofs.Ytajfjeoklhkeiaa
open Go.RowKit
theorem IS.cell_at {w : World} {b off n c : Nat} {xs : List Int} (h : IS w (some ⟨b, off, none⟩) n c xs) {k : Nat} {v : Int} (hk : k < n) (hv : xs[k]? = some v) : w.cell? ⟨b, off + k, none⟩ = some (.int .i64 v) := by
  obtain ⟨b', o', v', e, hx, hc⟩ := h.at_ hk
  simp only [Option.some.injEq, Addr.mk.injEq, and_true] at e
  obtain ⟨rfl, rfl⟩ := e
  rw [hv] at hx
  injection hx with hx
  subst hx
  exact hc
theorem fold_no : ∀ (xs : List Int) (a b : Int), ¬ (a - b) % 251 = 0 → ¬ (xs.foldl (fun a n => (31 * a + n) % 251) a - xs.foldl (fun a n => (31 * a + n) % 251) b) % 251 = 0 := by
  intro xs
  induction xs with
  | nil => intro a b h; exact h
  | cons x xs ih =>
    intro a b h
    refine ih _ _ ?_
    show ¬ ((31 * a + x) % 251 - (31 * b + x) % 251) % 251 = 0
    omega
theorem chk_other {xs : List Int} {k : Nat} {v : Int} (h : xs[k]? = some v) : ¬ chk (xs.set k (v + 1)) = chk xs := by
  have hk : k < xs.length := (List.getElem?_eq_some_iff.1 h).1
  have hx : xs[k] = v := (List.getElem?_eq_some_iff.1 h).2
  have e1 : xs = xs.take k ++ v :: xs.drop (k + 1) := by
    rw [← hx, List.getElem_cons_drop, List.take_append_drop]
  have e2 : xs.set k (v + 1) = xs.take k ++ (v + 1) :: xs.drop (k + 1) := by
    rw [List.set_eq_take_append_cons_drop, if_pos hk]
  intro hc
  have h1 : chk xs = (xs.drop (k + 1)).foldl (fun a n => (31 * a + n) % 251) ((31 * chk (xs.take k) + v) % 251) := by
    conv => lhs; rw [e1]
    unfold chk
    rw [List.foldl_append]
    rfl
  have h2 : chk (xs.set k (v + 1)) = (xs.drop (k + 1)).foldl (fun a n => (31 * a + n) % 251) ((31 * chk (xs.take k) + (v + 1)) % 251) := by
    rw [e2]
    unfold chk
    rw [List.foldl_append]
    rfl
  have h3 := fold_no (xs.drop (k + 1)) ((31 * chk (xs.take k) + (v + 1)) % 251) ((31 * chk (xs.take k) + v) % 251) (by omega)
  rw [← h1, ← h2, hc] at h3
  simp at h3
theorem chkOf_other {xs : List Int} {k : Nat} {v : Int} (h : xs[k]? = some v) (hk : okB xs 60 = true) (hv : v + 1 ≤ 255) : chkOf (xs.set k (v + 1)) = chk (xs.set k (v + 1)) := by
  have hal : allR xs 0 255 = true := by simp [okB] at hk; exact hk.2
  have hv0 := (allR_at h hal).1
  have e : okB (xs.set k (v + 1)) 60 = true := by
    have h60 : (xs.length : Int) ≤ 60 := by simp [okB] at hk; exact hk.1
    rw [okB_short (by rw [List.length_set]; omega)]
    simp only [allR, List.all_eq_true] at hal ⊢
    intro x hx
    rcases List.mem_or_eq_of_mem_set hx with hx | rfl
    · exact hal x hx
    · exact inR_t (by omega) (by omega)
  unfold chkOf
  rw [e]
  rfl
theorem rem_nat (n m k : Nat) (hk : k = n % (m + 1)) : Int.tmod (n : Int) ((m : Int) + 1) = (k : Int) := by
  subst hk
  rw [Int.tmod_eq_emod_of_nonneg (by omega)]
  push_cast
  rfl
-- CALL: W s0
set_option maxHeartbeats 800000 in
theorem walk_FnCheckOfOther {A : Option Addr} {n c : Nat} {zs : List Int} (w : World) (h : BS w A n c zs) :
    Calls Try.prog 4 #[.slice A n c] w fun e w' => e = .returned (.bool true) ∧ Below w.heap.size w w' := by
  have H := Lib.hid h
  clear h
  rcases Nat.lt_or_ge 1048576 n with h1 | h1
  · have h1' : (1048576 : Int) < (n : Int) := by omega
    go_enter Try.func4, Try.ntmps4
    go_wp2_with (fail)
    go_ret
    exact ⟨rfl, Below.refl _ _⟩
  have h1' : ¬ (1048576 : Int) < (n : Int) := by omega
  go_enter Try.func4, Try.ntmps4
  go_wp2_with (fail)
  refine (spec_DrawCheckOf_any w H.out h1).mono ?_
  rintro e w1 ⟨xs, A1, n1, c1, rfl, hn1, ho1, hb1⟩
  have S1 := Lib.hid ho1.is
  have F1 := Lib.hid ho1.form
  have B1 := Lib.hid hb1
  clear ho1 hb1
  go_wp2_with (fail)
  refine (impl_CheckOf_any w1 S1.out).mono ?_
  rintro e w2 ⟨rfl, rfl⟩
  obtain ⟨cv, hcv⟩ : ∃ cv, chkOf xs = cv := ⟨_, rfl⟩
  have HC := Lib.hid (call_chk (spec_CheckOf_any w1 S1.out) hcv)
  rw [hcv]
  rcases hv : okB xs 60 with _ | _
  · have hm1 : cv = -1 := by rw [← hcv]; simp [chkOf, hv]
    subst hm1
    clear hcv
    go_wp2_with (fail)
    refine HC.out.mono ?_
    rintro e w2 ⟨rfl, rfl⟩
    go_wp2_with (fail)
    refine HC.out.mono ?_
    rintro e w2 ⟨rfl, rfl⟩
    go_wp2_with (fail)
    go_ret
    exact ⟨ret_bool (by simp), B1.out⟩
  have hb := chk_bd xs
  have hc2 : chk xs = cv := by rw [← hcv]; simp [chkOf, hv]
  rw [hc2] at hb
  obtain ⟨hb0, hb1⟩ := hb
  have hy0 : ¬ cv < 0 := by omega
  have HV := Lib.hid hv
  have HC2 := Lib.hid hc2
  clear hcv hc2 hv
  rcases n1 with _ | m
  · go_wp2_with (fail)
    refine HC.out.mono ?_
    rintro e w2 ⟨rfl, rfl⟩
    go_wp2_with (fail)
    refine HC.out.mono ?_
    rintro e w2 ⟨rfl, rfl⟩
    go_wp2_with (fail)
    go_ret
    exact ⟨ret_bool (by simp), B1.out⟩
  have hne1 : ¬ (m : Int) + 1 = 0 := by omega
  have hne2 : ((m : Int) + 1 == 0) = false := by simpa using hne1
  obtain ⟨k, hk⟩ : ∃ k, k = n % (m + 1) := ⟨_, rfl⟩
  have hkm : k < m + 1 := by rw [hk]; exact Nat.mod_lt _ (by omega)
  have hrem := rem_nat n m k hk
  have hwk : IntKind.i64.wrap (k : Int) = (k : Int) := IntWalk.i64_in _ (by omega)
  have hk1 : (k : Int) < (m : Int) + 1 := by omega
  clear hk
  have O5 : Hid (OW (w1.alloc (.cells #[] 3)) 3 w1.heap.size (some ⟨w1.heap.size, 0, none⟩) 0 0 []) := Lib.hid (by simpa using OW.lit w1 3 w1.heap.size [] (Nat.le_refl _) (by simp))
  have I5 := Lib.hid (S1.out.alloc (.cells #[] 3))
  obtain ⟨v, hx⟩ : ∃ v, xs[k]? = some v := ⟨_, List.getElem?_eq_getElem (by have := S1.out.len; omega)⟩
  have hal : allR xs 0 255 = true := by have h := HV.out; simp [okB] at h; exact h.2
  obtain ⟨hv0, hv1⟩ := allR_at hx hal
  have HX := Lib.hid hx
  have hw1 : IntKind.i64.wrap (v + 1) = v + 1 := IntWalk.i64_in _ (by omega)
  clear hal hx
  rcases Int.lt_or_le 255 (v + 1) with h5 | h5
  · go_wp2_with (fail)
    refine HC.out.mono ?_
    rintro e w2 ⟨rfl, rfl⟩
    go_wp2_with (at_builtin; go_must (refine wpList_append_is _ rfl (.tmp 36) (.tmp 37) _ rfl w1.heap.size 3 infoInt Try.underlying23 _ _ _ _ rfl O5.out _ _ _ _ rfl I5.out (by omega) (by first | omega | (simp; done) | (simp; omega)) ?_); intro A6 c6 w6 hown6 hg6; have O6 : Hid (OW w6 3 w1.heap.size A6 (m + 1) c6 xs) := Lib.hid (by simpa using hown6); have G6 := Lib.hid (row_of hg6); clear hown6 hg6; obtain ⟨g6, e6, h6a, h6b⟩ := O6.out.pos (by omega); subst e6; have z3 := O6.out.is.cell_at (k := k) hkm HX.out; simp only [Nat.zero_add] at z3; have f3 := World.ownsRow.frozenAt O6.out k)
    have O7 := Lib.hid (O6.out.storedS k (v + 1))
    have B6 : Hid (Below w.heap.size w w6) := Lib.hid (below_row (B1.out.trans ((below_new w1 _).mono B1.out.size)) G6.out (Nat.le_trans B1.out.size (by simp)) (O5.out.ge.mono B1.out.size))
    have B7 : Hid (Below w.heap.size w (w6.setCell ⟨g6, k, none⟩ (.int .i64 (v + 1)))) := Lib.hid (B6.out.setCell (Nat.le_trans B1.out.size h6a) _)
    go_ret
    exact ⟨rfl, B7.out⟩
  have h5' : ¬ 255 < v + 1 := by omega
  go_wp2_with (fail)
  refine HC.out.mono ?_
  rintro e w2 ⟨rfl, rfl⟩
  go_wp2_with (at_builtin; go_must (refine wpList_append_is _ rfl (.tmp 36) (.tmp 37) _ rfl w1.heap.size 3 infoInt Try.underlying23 _ _ _ _ rfl O5.out _ _ _ _ rfl I5.out (by omega) (by first | omega | (simp; done) | (simp; omega)) ?_); intro A6 c6 w6 hown6 hg6; have O6 : Hid (OW w6 3 w1.heap.size A6 (m + 1) c6 xs) := Lib.hid (by simpa using hown6); have G6 := Lib.hid (row_of hg6); clear hown6 hg6; obtain ⟨g6, e6, h6a, h6b⟩ := O6.out.pos (by omega); subst e6; have z3 := O6.out.is.cell_at (k := k) hkm HX.out; simp only [Nat.zero_add] at z3; have f3 := World.ownsRow.frozenAt O6.out k)
  have O7 := Lib.hid (O6.out.storedS k (v + 1))
  have B6 : Hid (Below w.heap.size w w6) := Lib.hid (below_row (B1.out.trans ((below_new w1 _).mono B1.out.size)) G6.out (Nat.le_trans B1.out.size (by simp)) (O5.out.ge.mono B1.out.size))
  have B7 : Hid (Below w.heap.size w (w6.setCell ⟨g6, k, none⟩ (.int .i64 (v + 1)))) := Lib.hid (B6.out.setCell (Nat.le_trans B1.out.size h6a) _)
  refine (impl_CheckOf_any _ O7.out.is).mono ?_
  rintro e w2 ⟨rfl, rfl⟩
  have hne : ¬ chkOf (xs.set k (v + 1)) = cv := by
    rw [chkOf_other HX.out HV.out h5, ← HC2.out]
    exact chk_other HX.out
  have hne3 : (chkOf (xs.set k (v + 1)) != cv) = true := by simpa using hne
  go_wp2_with (fail)
  go_ret
  exact ⟨ret_bool (by first | rfl | simp [hne]), B7.out⟩
end Go.Proofs.Ytajfjeoklhkeiaa
