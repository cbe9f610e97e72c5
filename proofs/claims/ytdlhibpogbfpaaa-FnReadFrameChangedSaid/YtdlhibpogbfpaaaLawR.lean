/-
  Facts of frames read again, for the laws.
-/
import Derived.Test.YtdlhibpogbfpaaaLaw
import Derived.Test.YtdlhibpogbfpaaaReadF
namespace Go.Proofs.Ytdlhibpogbfpaaa
open Go.RowKit
theorem rn_frameL (cl ky : Int) (xs : List Int) : rn (frameL cl ky xs) = 4 + xs.length := by
  unfold rn
  rw [getD_of (frameL_1 cl ky xs)]
  simp
theorem rOK_frameL {cl ky : Int} {xs : List Int} (h : validI cl ky xs = true) : rOK (frameL cl ky xs) = true := by
  have h8 := (validI_parts h).2.2.2.2.1
  refine rOK_t ?_ ⟨by rw [frameL_len]; omega, getD_of (frameL_0 cl ky xs), by rw [rn_frameL, frameL_len]; omega⟩ ?_ ?_
  · rw [okB_short (by rw [frameL_len]; omega)]
    exact frameL_ok h
  · rw [getD_of (frameL_2 cl ky xs), getD_of (frameL_3 cl ky xs), rBody, rn_frameL, frameL_body]
    exact h
  · rw [rn_frameL, frameL_run, getD_of (frameL_n cl ky xs)]
theorem r_frameL {cl ky : Int} {xs : List Int} (h : validI cl ky xs = true) : rC (frameL cl ky xs) = cl ∧ rK (frameL cl ky xs) = ky ∧ rX (frameL cl ky xs) = xs ∧ rL (frameL cl ky xs) = xs.length + 5 := by
  obtain ⟨h1, h2, h3, h4⟩ := r_t (rOK_frameL h)
  refine ⟨h1.trans (getD_of (frameL_2 cl ky xs)), h2.trans (getD_of (frameL_3 cl ky xs)), ?_, ?_⟩
  · rw [h3, rBody, rn_frameL, frameL_body]
  · rw [h4, rn_frameL]; omega
theorem rOK_torn (cl ky : Int) (xs : List Int) {k : Nat} (hk : k < xs.length + 5) : rOK ((frameL cl ky xs).take k) = false := by
  have hl : ((frameL cl ky xs).take k).length = k := by rw [List.length_take, frameL_len]; omega
  rcases Nat.lt_or_ge k 5 with h5 | h5
  · exact rOK_f2 (by omega)
  · refine rOK_f4 ?_
    have e : ((frameL cl ky xs).take k)[1]? = some (xs.length : Int) := by
      rw [List.getElem?_take, if_pos (by omega)]
      exact frameL_1 cl ky xs
    unfold rn
    rw [hl, getD_of e]
    simp
    omega
theorem fold_ne : ∀ (xs : List Int) (a b : Int), ¬ (a - b) % 251 = 0 → ¬ (xs.foldl (fun a n => (31 * a + n) % 251) a - xs.foldl (fun a n => (31 * a + n) % 251) b) % 251 = 0 := by
  intro xs
  induction xs with
  | nil => intro a b h; exact h
  | cons x xs ih =>
    intro a b h
    refine ih _ _ ?_
    show ¬ ((31 * a + x) % 251 - (31 * b + x) % 251) % 251 = 0
    omega
theorem chk_key (cl ky : Int) (xs : List Int) : ¬ chk (bodyL cl (ky + 1) xs) = chk (bodyL cl ky xs) := by
  intro h
  have h2 := fold_ne xs ((31 * ((31 * ((31 * 17 + (xs.length : Int)) % 251) + cl) % 251) + (ky + 1)) % 251) ((31 * ((31 * ((31 * 17 + (xs.length : Int)) % 251) + cl) % 251) + ky) % 251) (by omega)
  have e : ∀ k : Int, chk (bodyL cl k xs) = xs.foldl (fun a n => (31 * a + n) % 251) ((31 * ((31 * ((31 * 17 + (xs.length : Int)) % 251) + cl) % 251) + k) % 251) := fun k => rfl
  rw [e, e] at h
  rw [h] at h2
  simp at h2
theorem rOK_changed (cl ky : Int) (xs : List Int) : rOK ((frameL cl ky xs).set 3 (ky + 1)) = false := by
  have e : (frameL cl ky xs).set 3 (ky + 1) = (165 :: bodyL cl (ky + 1) xs) ++ [chk (bodyL cl ky xs)] := by simp [frameL, bodyL]
  have hl : (165 :: bodyL cl (ky + 1) xs).length = 4 + xs.length := by simp [bodyL]; omega
  have e1 : rn ((frameL cl ky xs).set 3 (ky + 1)) = 4 + xs.length := by
    have h1 : ((frameL cl ky xs).set 3 (ky + 1))[1]? = some (xs.length : Int) := by rw [e]; simp [bodyL]
    unfold rn
    rw [getD_of h1]
    simp
  refine rOK_f6 ?_
  have e2 : (((frameL cl ky xs).set 3 (ky + 1)).take (4 + xs.length)).drop 1 = bodyL cl (ky + 1) xs := by
    rw [e, List.take_left' hl]
    simp
  have e3 : ((frameL cl ky xs).set 3 (ky + 1))[4 + xs.length]? = some (chk (bodyL cl ky xs)) := by
    rw [e, List.getElem?_append_right (by omega), hl]
    simp
  rw [e1, e2, getD_of e3]
  exact chk_key cl ky xs
theorem gaveRead_frame {T : Nat} {w w' : World} {cl ky : Int} {xs : List Int} {e : Ending} {k : Nat} (h : validI cl ky xs = true) (hk : xs.length + 5 = k) (hg : GaveRead T w (frameL cl ky xs) e w') :
    ∃ A n c, e = .returned (.tuple #[.agg #[.int .i64 cl, .int .i64 ky, .slice A n c], .int .i64 (k : Int), .bool true]) ∧ OW w' T w.heap.size A n c xs ∧ Below w.heap.size w w' := by
  obtain ⟨A, n, c, he, ho, hb⟩ := hg
  obtain ⟨h1, h2, h3, h4⟩ := r_frameL h
  rw [h1, h2, h4, rOK_frameL h, hk] at he
  rw [h3] at ho
  exact ⟨A, n, c, he, ho, hb⟩
theorem gaveRead_not {T : Nat} {w w' : World} {bs : List Int} {e : Ending} (h : rOK bs = false) (hg : GaveRead T w bs e w') :
    ∃ A n c, e = .returned (.tuple #[.agg #[.int .i64 0, .int .i64 0, .slice A n c], .int .i64 0, .bool false]) ∧ Below w.heap.size w w' := by
  obtain ⟨A, n, c, he, ho, hb⟩ := hg
  obtain ⟨h1, h2, h3, h4⟩ := r_f h
  rw [h1, h2, h4, h] at he
  exact ⟨A, n, c, he, hb⟩
set_option maxHeartbeats 1000000 in
theorem laws_equalItem_same {A A' : Option Addr} {n c n' c' : Nat} {xs : List Int} (cl ky : Int) (w : World) (h : IS w A n c xs) (h' : IS w A' n' c' xs) :
    Calls Try.prog 17 #[.agg #[.int .i64 cl, .int .i64 ky, .slice A n c], .agg #[.int .i64 cl, .int .i64 ky, .slice A' n' c']] w fun e w' =>
      e = .returned (.bool true) ∧ Below w.heap.size w w' := by
  have H := Lib.hid h
  have H' := Lib.hid h'
  clear h h'
  have hb2 : ∀ (a b : Obj), Below w.heap.size w ((w.alloc a).alloc b) := fun a b => ((Below.refl _ _).alloc (Nat.le_refl _) a).alloc (by simp) b
  have e1 : (cl == cl) = true := by simp
  have e2 : (ky == ky) = true := by simp
  go_enter Try.func17, Try.ntmps17
  go_wp2_with (go_at_call 14; refine (laws_equalInts_any _ ((H.out.alloc _).alloc _) ((H'.out.alloc _).alloc _)).mono ?_; rintro e w' ⟨rfl, m, rfl⟩)
  go_ret
  exact ⟨ret_bool (by simp), below_drewN (hb2 _ _) _⟩
end Go.Proofs.Ytdlhibpogbfpaaa
