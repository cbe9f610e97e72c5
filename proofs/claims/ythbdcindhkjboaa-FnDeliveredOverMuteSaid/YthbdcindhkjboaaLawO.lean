/-
  Mathematics of what is not acknowledged over a link.
-/
import Derived.Test.YthbdcindhkjboaaLawN
import Derived.Test.YthbdcindhkjboaaLawL
namespace Go.Proofs.Ythbdcindhkjboaa
open Go.RowKit

theorem fateQ_sub {f n x : Int} (h : x ∈ fateQ f n) : x = n := by
  unfold fateQ at h
  split at h
  · simpa using h
  · cases h
theorem fateQ_len (f n : Int) : (fateQ f n).length ≤ 1 := by unfold fateQ; split <;> simp
theorem runL_q_mem (fs : List Int) : ∀ (q a : List Int) (s : Nat) (x : Int), x ∈ (runL fs q a s).1 → x ∈ q := by
  induction fs with
  | nil => intro q a s x h; exact h
  | cons f fs ih =>
    intro q a s x h
    cases q with
    | nil => exact h
    | cons n t =>
      simp only [runL] at h
      rcases List.mem_append.1 (ih _ _ _ x h) with h1 | h1
      · exact List.mem_cons_of_mem _ h1
      · rw [fateQ_sub h1]; simp
theorem runL_q_nodup (fs : List Int) : ∀ (q a : List Int) (s : Nat), q.Nodup → (runL fs q a s).1.Nodup := by
  induction fs with
  | nil => intro q a s h; exact h
  | cons f fs ih =>
    intro q a s h
    cases q with
    | nil => exact h
    | cons n t =>
      simp only [runL]
      apply ih
      rw [List.nodup_cons] at h
      rw [List.nodup_append]
      refine ⟨h.2, ?_, ?_⟩
      · unfold fateQ; split <;> simp
      · intro x hx y hy e
        rw [fateQ_sub hy] at e
        exact h.1 (by rw [← e]; exact hx)
theorem runL_keep (fs : List Int) : ∀ (q a : List Int) (s : Nat), (∀ f ∈ fs, f = 1 ∨ f = 2) → ∀ x, x ∈ (runL fs q a s).1 ↔ x ∈ q := by
  induction fs with
  | nil => intro q a s _ x; exact Iff.rfl
  | cons f fs ih =>
    intro q a s h x
    cases q with
    | nil => exact Iff.rfl
    | cons n t =>
      simp only [runL]
      rw [ih _ _ _ (fun g hg => h g (List.mem_cons_of_mem _ hg))]
      have e : fateQ f n = [n] := by unfold fateQ; rw [if_pos (h f (by simp))]
      rw [e]
      simp [or_comm]
theorem runL_shrink (fs : List Int) : ∀ (q a : List Int) (s : Nat), q.length + s ≤ (runL fs q a s).1.length + (runL fs q a s).2.2 := by
  induction fs with
  | nil => intro q a s; exact Nat.le_refl _
  | cons f fs ih =>
    intro q a s
    cases q with
    | nil => exact Nat.le_refl _
    | cons n t =>
      simp only [runL]
      have := ih (t ++ fateQ f n) (a ++ fateA f n) (s + 1)
      simp only [List.length_append, List.length_cons] at this ⊢
      omega
theorem runL_ends (fs : List Int) : ∀ (q a : List Int) (s : Nat), (runL fs q a s).2.2 = s + fs.length ∨ (runL fs q a s).1 = [] := by
  induction fs with
  | nil => intro q a s; exact .inl rfl
  | cons f fs ih =>
    intro q a s
    cases q with
    | nil => exact .inr rfl
    | cons n t =>
      simp only [runL, List.length_cons]
      rcases ih (t ++ fateQ f n) (a ++ fateA f n) (s + 1) with h | h
      · exact .inl (by omega)
      · exact .inr h
theorem runL_all (fs : List Int) : ∀ (q a : List Int) (s : Nat), (∀ f ∈ fs, 0 ≤ f ∧ f ≤ 3) → ∀ x, x ∈ q ∨ x ∈ a → x ∈ (runL fs q a s).1 ∨ x ∈ (runL fs q a s).2.1 := by
  induction fs with
  | nil => intro q a s _ x h; exact h
  | cons f fs ih =>
    intro q a s hf x h
    cases q with
    | nil => exact h
    | cons n t =>
      simp only [runL]
      refine ih _ _ _ (fun g hg => hf g (List.mem_cons_of_mem _ hg)) x ?_
      have hb := hf f (by simp)
      rcases h with h | h
      · rcases List.mem_cons.1 h with rfl | h
        · by_cases h1 : f = 1 ∨ f = 2
          · exact .inl (List.mem_append_right _ (by unfold fateQ; rw [if_pos h1]; simp))
          · refine .inr (List.mem_append_right _ ?_)
            unfold fateA
            by_cases h2 : f = 0 ∨ f = 2
            · rw [if_pos h2]; simp
            · rw [if_neg h2, if_pos (by omega)]; simp
        · exact .inl (List.mem_append_left _ h)
      · exact .inr (List.mem_append_left _ h)
theorem runL_mute (l : List Int) : ∀ (t a : List Int) (s : Nat), runL (List.replicate l.length 2) (l ++ t) a s = (t ++ l, a ++ l, s + l.length) := by
  induction l with
  | nil => intro t a s; simp [runL]
  | cons n l ih =>
    intro t a s
    rw [List.length_cons, List.replicate_succ, List.cons_append]
    simp only [runL]
    have e1 : fateQ 2 n = [n] := rfl
    have e2 : fateA 2 n = [n] := rfl
    rw [e1, e2, List.append_assoc, ih (t ++ [n])]
    simp
    omega
theorem runL_lost (fs : List Int) : ∀ (q a : List Int) (s : Nat), (∀ f ∈ fs, f = 1) → (runL fs q a s).2.1 = a := by
  induction fs with
  | nil => intro q a s _; rfl
  | cons f fs ih =>
    intro q a s h
    cases q with
    | nil => rfl
    | cons n t =>
      simp only [runL]
      rw [ih _ _ _ (fun g hg => h g (List.mem_cons_of_mem _ hg))]
      have e : fateA f n = [] := by rw [h f (by simp)]; rfl
      rw [e, List.append_nil]
/-- The queue, ascending. -/
theorem uak_perm {xs : List Int} {m : Int} (h : okK xs m = true) : (linkR xs m).1.Perm (uakV xs m) := by
  have hm := (okK_facts h).2.2
  obtain ⟨M, rfl⟩ := Int.eq_ofNat_of_zero_le hm.1
  simp only [uakV, h, if_true, Int.toNat_natCast]
  have hn : (linkR xs (M : Int)).1.Nodup := runL_q_nodup _ _ _ _ (by rw [Int.toNat_natCast]; exact iota_nodup M)
  have ha := selL_asc (fun n => (linkR xs (M : Int)).1.contains n) 0 M
  refine (List.perm_ext_iff_of_nodup hn (ha.imp (fun h => by intro e; omega))).2 fun x => ?_
  rw [selL_mem]
  constructor
  · intro hx
    have hi := runL_q_mem _ _ _ _ x hx
    rw [Int.toNat_natCast, iota_mem] at hi
    exact ⟨hi.1, by omega, by simpa using hx⟩
  · intro hx
    simpa using hx.2.2
theorem uak_asc (xs : List Int) (m : Int) : (uakV xs m).Pairwise (· < ·) := by
  unfold uakV
  split
  · exact selL_asc _ _ _
  · exact List.Pairwise.nil
theorem uak_sort {xs : List Int} {m : Int} (h : okK xs m = true) : ((linkR xs m).1.mergeSort fun x y => decide (x ≤ y)) = uakV xs m := by
  have hs : ((linkR xs m).1.mergeSort fun x y => decide (x ≤ y)).Pairwise (fun a b => decide (a ≤ b) = true) :=
    List.pairwise_mergeSort (by intro a b c h1 h2; simp at *; omega) (by intro a b; simp; omega) _
  have hp := (List.mergeSort_perm (linkR xs m).1 (fun x y => decide (x ≤ y))).trans (uak_perm h)
  refine hp.eq_of_pairwise (le := fun a b => decide (a ≤ b) = true) ?_ hs ((uak_asc xs m).imp (fun h => by simp; omega))
  intro a b _ _ h1 h2
  simp at h1 h2
  omega
theorem uak_mem {xs : List Int} {m x : Int} (h : okK xs m = true) : x ∈ uakV xs m ↔ x ∈ (linkR xs m).1 := (uak_perm h).mem_iff.symm
theorem uak_len {xs : List Int} {m : Int} (h : okK xs m = true) : (uakV xs m).length = (linkR xs m).1.length := (uak_perm h).length_eq.symm
theorem uak_f {xs : List Int} {m : Int} (h : okK xs m = false) : uakV xs m = [] := by simp [uakV, h]
theorem snd_ok {xs : List Int} {m : Int} (h : 0 ≤ sndV xs m) : okK xs m = true := by
  rcases hk : okK xs m with _ | _
  · rw [sndV_f hk] at h; omega
  · rfl
theorem uak_many {xs : List Int} {m : Int} (h : okK xs m = true) : ((uakV xs m).length : Int) ≤ m := by
  obtain ⟨_, _, hm, _⟩ := okK_facts h
  have h1 := (runL_len xs (iota m.toNat) [] 0).2.2
  rw [iota_len] at h1
  rw [uak_len h]
  unfold linkR
  omega
/-- All lost. -/
theorem okK_lost {xs : List Int} {m : Int} (h : okK xs m = true) : okK [1, 1, 1] m = true := by
  simp only [okK, Bool.and_eq_true] at h ⊢
  exact ⟨by decide, by decide, h.2.2⟩
theorem uak_lost {xs : List Int} {m : Int} (h : okK xs m = true) : ((uakV [1, 1, 1] m).length : Int) = m ∧ arrV [1, 1, 1] m = [] := by
  have hk := okK_lost h
  obtain ⟨_, _, hm, _⟩ := okK_facts h
  constructor
  · have hp : (uakV [1, 1, 1] m).Perm (iota m.toNat) := by
      refine (uak_perm hk).symm.trans ?_
      refine (List.perm_ext_iff_of_nodup (runL_q_nodup _ _ _ _ (iota_nodup _)) (iota_nodup _)).2 fun x => ?_
      exact runL_keep _ _ _ _ (by simp) x
    rw [hp.length_eq, iota_len]
    omega
  · unfold arrV
    rw [if_pos hk]
    exact runL_lost _ _ _ _ (by simp)
/-- Fewer fates leave more. -/
theorem uak_short {xs : List Int} {m : Int} (h : okK xs m = true) {k : Nat} (hk : k + 1 = xs.length) : (∀ x ∈ uakV xs m, x ∈ uakV (xs.take k) m) ∧ (uakV (xs.take k) m).length ≤ (uakV xs m).length + 1 := by
  have h2 := okK_take h k
  have e : linkR xs m = runL (xs.drop k) (linkR (xs.take k) m).1 (linkR (xs.take k) m).2.1 (linkR (xs.take k) m).2.2 := by
    unfold linkR
    rw [← runL_append, List.take_append_drop]
  constructor
  · intro x hx
    rw [uak_mem h, e] at hx
    rw [uak_mem h2]
    exact runL_q_mem _ _ _ _ x hx
  · rw [uak_len h, uak_len h2, e]
    have h3 := runL_shrink (xs.drop k) (linkR (xs.take k) m).1 (linkR (xs.take k) m).2.1 (linkR (xs.take k) m).2.2
    have h4 := (runL_len (xs.drop k) (linkR (xs.take k) m).1 (linkR (xs.take k) m).2.1 (linkR (xs.take k) m).2.2).2.1
    rw [List.length_drop] at h4
    omega
/-- What is acknowledged has arrived. -/
theorem uak_dlv {xs : List Int} {m i : Int} (h : okK xs m = true) (h0 : 0 ≤ i) (h1 : i < m) (hu : (uakV xs m).contains i = false) : (dlvV xs m).contains i = true := by
  obtain ⟨_, ha, hm, _⟩ := okK_facts h
  rw [dlv_arr]
  have hf : ∀ f ∈ xs, 0 ≤ f ∧ f ≤ 3 := fun f hf => by
    unfold allR at ha
    have := List.all_eq_true.1 ha f hf
    exact inR_iff.1 this
  have := runL_all xs (iota m.toNat) [] 0 hf i (.inl (by rw [iota_mem]; omega))
  rcases this with h2 | h2
  · have h3 : i ∈ uakV xs m := (uak_mem h).2 h2
    have : (uakV xs m).contains i = true := by simpa using h3
    rw [this] at hu; cases hu
  · unfold arrV
    rw [if_pos h]
    simpa [linkR] using h2
theorem nodup_len : ∀ (M : Nat) (l : List Int), l.Nodup → (∀ x ∈ l, 0 ≤ x ∧ x < (M : Int)) → l.length ≤ M := by
  intro M
  induction M with
  | zero =>
    intro l _ h
    cases l with
    | nil => simp
    | cons x l => have := h x (by simp); omega
  | succ M ih =>
    intro l hn h
    have h1 := ih (l.erase (M : Int)) (hn.erase _) (fun x hx => by
      have h2 := (hn.mem_erase_iff).1 hx
      have h3 := h x h2.2
      have h4 := h2.1
      omega)
    rw [List.length_erase] at h1
    split at h1 <;> omega
theorem dlv_many {xs : List Int} {m : Int} (h : okK xs m = true) : ((dlvV xs m).length : Int) ≤ m := by
  obtain ⟨_, _, hm, _⟩ := okK_facts h
  have hn := once_nodup (arrV xs m)
  have := nodup_len m.toNat (dlvV xs m) hn (fun x hx => by
    have := arr_mem ((once_mem _ _).1 hx)
    omega)
  omega
/-- All mute. -/
theorem mute_ok {M : Nat} (h : M ≤ 8) : okK (List.replicate M 2) (M : Int) = true := by
  have h1 : allR (List.replicate M 2) 0 3 = true := by
    unfold allR
    rw [List.all_eq_true]
    intro x hx
    rw [List.eq_of_mem_replicate hx]
    rfl
  simp only [okK, Bool.and_eq_true, decide_eq_true_eq, inR_iff, List.length_replicate]
  exact ⟨by omega, h1, by omega, by omega⟩
theorem mute_run (M : Nat) : linkR (List.replicate M 2) (M : Int) = (iota M, iota M, M) := by
  have h := runL_mute (iota M) [] [] 0
  rw [iota_len, List.append_nil] at h
  unfold linkR
  rw [Int.toNat_natCast, h]
  simp
theorem mute_facts {M : Nat} (h : M ≤ 8) : (dlvV (List.replicate M 2) (M : Int)).length = M ∧ (uakV (List.replicate M 2) (M : Int)).length = M := by
  constructor
  · unfold dlvV onceL arrV
    rw [if_pos (mute_ok h), mute_run, onceF_new _ _ (by simpa using iota_nodup M)]
    simp [iota_len]
  · rw [uak_len (mute_ok h), mute_run, iota_len]
/-- Fates are used while something is open. -/
theorem snd_facts {xs : List Int} {m : Int} (h : okK xs m = true) : sndV xs m ≤ (xs.length : Int) ∧ (sndV xs m = (xs.length : Int) ∨ uakV xs m = []) ∧ (m ≤ sndV xs m ∨ (xs.length : Int) ≤ sndV xs m) := by
  obtain ⟨_, _, hm, _⟩ := okK_facts h
  have h1 := (runL_len xs (iota m.toNat) [] 0).2.1
  have h2 := runL_ends xs (iota m.toNat) [] 0
  have h3 := runL_shrink xs (iota m.toNat) [] 0
  rw [iota_len] at h3
  have e : sndV xs m = ((runL xs (iota m.toNat) [] 0).2.2 : Int) := by simp [sndV, h, linkR]
  rw [e]
  refine ⟨by omega, ?_, ?_⟩
  · rcases h2 with h2 | h2
    · exact .inl (by omega)
    · refine .inr (List.eq_nil_of_length_eq_zero ?_)
      rw [uak_len h]
      unfold linkR
      rw [h2]; rfl
  · rcases h2 with h2 | h2
    · exact .inr (by omega)
    · rw [h2] at h3
      simp at h3
      exact .inl (by omega)
end Go.Proofs.Ythbdcindhkjboaa
