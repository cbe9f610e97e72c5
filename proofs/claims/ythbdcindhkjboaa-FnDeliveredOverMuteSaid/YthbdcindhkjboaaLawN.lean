/-
  Mathematics of a link that loses nothing.
-/
import Derived.Test.YthbdcindhkjboaaLawM
namespace Go.Proofs.Ythbdcindhkjboaa
open Go.RowKit

theorem runL_good (k : Nat) : ∀ (q a : List Int) (s : Nat), q.length ≤ k → runL (List.replicate k 0) q a s = ([], a ++ q, s + q.length) := by
  induction k with
  | zero =>
    intro q a s h
    have e : q = [] := List.length_eq_zero_iff.1 (by omega)
    subst e
    simp [runL]
  | succ k ih =>
    intro q a s h
    cases q with
    | nil => simp [runL, List.replicate_succ]
    | cons n t =>
      have e1 : fateQ 0 n = [] := rfl
      have e2 : fateA 0 n = [n] := rfl
      rw [List.replicate_succ]
      simp only [runL]
      rw [e1, e2, List.append_nil, ih t _ _ (by simp at h; omega)]
      simp
      omega
theorem onceF_new : ∀ (l o : List Int), (o ++ l).Nodup → onceF o l = o ++ l := by
  intro l
  induction l with
  | nil => intro o _; simp [onceF]
  | cons y r ih =>
    intro o h
    have h1 : ¬ o.contains y = true := by
      intro h2
      have h3 : y ∈ o := by simpa using h2
      rw [List.nodup_append] at h
      exact h.2.2 y h3 y (by simp) rfl
    simp only [onceF]
    rw [if_neg h1, ih (o ++ [y]) (by simpa using h)]
    simp
theorem iota_get (k : Nat) : ∀ (j : Nat) (v : Int), (iota k)[j]? = some v → v = (j : Int) := by
  induction k with
  | zero => intro j v h; cases h
  | succ k ih =>
    intro j v h
    rw [iota_succ, List.getElem?_append] at h
    split at h
    · exact ih j v h
    · rename_i h1
      rw [iota_len] at h h1
      have h2 : j < (iota k ++ [(k : Int)]).length := by
        have h3 := (List.getElem?_eq_some_iff.1 h).1
        simp at h3
        rw [List.length_append, iota_len]
        simp
        omega
      rw [List.length_append, iota_len] at h2
      simp at h2
      have h3 : j = k := by omega
      subst h3
      simpa using h.symm
theorem iota_nodup (k : Nat) : (iota k).Nodup := by
  refine List.pairwise_iff_getElem.2 ?_
  intro i j hi hj hij e
  have h1 := iota_get k i _ (List.getElem?_eq_getElem hi)
  have h2 := iota_get k j _ (List.getElem?_eq_getElem hj)
  rw [h1, h2] at e
  omega
theorem good_ok {M : Nat} (h : M ≤ 8) : okK (List.replicate (M + 3) 0) (M : Int) = true := by
  have h1 : allR (List.replicate (M + 3) 0) 0 3 = true := by
    unfold allR
    rw [List.all_eq_true]
    intro x hx
    rw [List.eq_of_mem_replicate hx]
    rfl
  simp only [okK, Bool.and_eq_true, decide_eq_true_eq, inR_iff, List.length_replicate]
  exact ⟨by omega, h1, by omega, by omega⟩
theorem good_arr {M : Nat} (h : M ≤ 8) : arrV (List.replicate (M + 3) 0) (M : Int) = iota M := by
  unfold arrV linkR
  rw [if_pos (good_ok h), Int.toNat_natCast, runL_good _ _ _ _ (by rw [iota_len]; omega)]
  rfl
theorem good_snd {M : Nat} (h : M ≤ 8) : sndV (List.replicate (M + 3) 0) (M : Int) = (M : Int) := by
  unfold sndV linkR
  rw [if_pos (good_ok h), Int.toNat_natCast, runL_good _ _ _ _ (by rw [iota_len]; omega), iota_len]
  simp
theorem good_dlv {M : Nat} (h : M ≤ 8) : dlvV (List.replicate (M + 3) 0) (M : Int) = iota M := by
  unfold dlvV onceL
  rw [good_arr h, onceF_new _ _ (by simpa using iota_nodup M)]
  rfl
end Go.Proofs.Ythbdcindhkjboaa
