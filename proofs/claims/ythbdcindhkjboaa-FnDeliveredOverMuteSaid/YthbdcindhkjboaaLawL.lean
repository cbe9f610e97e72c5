/-
  Words and mathematics for the laws on links.
-/
import Derived.Test.YthbdcindhkjboaaLiU
import Derived.Test.YthbdcindhkjboaaDrawL
namespace Go.Proofs.Ythbdcindhkjboaa
open Go.RowKit

theorem IS.upto {w : World} {A : Option Addr} {n c m : Nat} {xs : List Int} (h : IS w A n c xs) (hm : m ≤ n) : IS w A m c (xs.take m) := by
  refine ⟨by rw [List.length_take]; have := h.len; omega, Nat.le_trans hm h.2.1, h.2.2.1, fun h0 => ?_, h.2.2.2.2⟩
  obtain ⟨b, off, e, hc⟩ := h.2.2.2.1 (by omega)
  refine ⟨b, off, e, fun j hj => ?_⟩
  rw [hc j (by omega), List.getD_eq_getElem?_getD, List.getD_eq_getElem?_getD, List.getElem?_take, if_pos hj]
theorem ints_at {P : Program} {f : FuncId} {args : Array Value} {T : Nat} {w : World} {l l' : List Int} (h : Calls P f args w (GaveInts T w l)) (e : l = l') : Calls P f args w (GaveInts T w l') := e ▸ h
theorem int_at {P : Program} {f : FuncId} {args : Array Value} {w : World} {a b : Int} {R : World → Prop} (h : Calls P f args w fun e w' => e = .returned (.int .i64 a) ∧ R w') (e : a = b) : Calls P f args w fun e w' => e = .returned (.int .i64 b) ∧ R w' := e ▸ h
theorem equalInts_same {A A' : Option Addr} {n c n' c' : Nat} {xs : List Int} (w : World) (h : IS w A n c xs) (h' : IS w A' n' c' xs) :
    Calls Try.prog 16 #[.slice A n c, .slice A' n' c'] w fun e w' => e = .returned (.bool true) ∧ Below w.heap.size w w' := by
  refine (laws_equalInts_any w h h').mono ?_
  rintro e w' ⟨rfl, m, rfl⟩
  exact ⟨ret_bool (decide_eq_true rfl), below_drewN (Below.refl _ _) m⟩
theorem below_of_same {P : Program} {f : FuncId} {args : Array Value} {w : World} {v : Value} (h : Calls P f args w fun e w' => e = .returned v ∧ w = w') : Calls P f args w fun e w' => e = .returned v ∧ Below w.heap.size w w' :=
  h.mono fun _ _ ⟨he, hw⟩ => ⟨he, hw ▸ Below.refl _ _⟩
theorem arrV_f {xs : List Int} {m : Int} (h : okK xs m = false) : arrV xs m = [] := by simp [arrV, h]
theorem sndV_f {xs : List Int} {m : Int} (h : okK xs m = false) : sndV xs m = -1 := by simp [sndV, h]
theorem okK_zero {xs : List Int} {m : Int} (h : okK xs m = true) : okK xs 0 = true := by
  simp only [okK, Bool.and_eq_true] at h ⊢
  exact ⟨h.1, h.2.1, by decide⟩
theorem okK_none {xs : List Int} {m : Int} (h : okK xs m = true) : okK [] m = true := by
  simp only [okK, Bool.and_eq_true] at h ⊢
  exact ⟨by decide, by decide, h.2.2⟩
theorem arr_zero (xs : List Int) : arrV xs 0 = [] := by
  unfold arrV linkR
  split
  · have e : iota (0 : Int).toNat = [] := rfl
    rw [e, runL_empty]
  · rfl
theorem snd_zero {xs : List Int} {m : Int} (h : okK xs m = true) : sndV xs 0 = 0 := by
  unfold sndV linkR
  rw [if_pos (okK_zero h)]
  have e : iota (0 : Int).toNat = [] := rfl
  rw [e, runL_empty]
  rfl
theorem arr_none (m : Int) : arrV [] m = [] := by
  unfold arrV linkR
  split <;> rfl
theorem snd_pos {xs : List Int} {m : Int} (h : okK xs m = true) : 0 ≤ sndV xs m := by
  unfold sndV
  rw [if_pos h]
  omega
theorem runL_mem (fs q a : List Int) (s : Nat) : ∀ x ∈ (runL fs q a s).2.1, x ∈ a ∨ x ∈ q := by
  induction fs generalizing q a s with
  | nil => intro x hx; exact .inl hx
  | cons f fs ih =>
    intro x hx
    cases q with
    | nil => exact .inl hx
    | cons n t =>
      simp only [runL] at hx
      have hA : ∀ y ∈ fateA f n, y = n := by
        intro y hy
        unfold fateA at hy
        split at hy
        · simpa using hy
        · split at hy
          · simpa using hy
          · cases hy
      have hQ : ∀ y ∈ fateQ f n, y = n := by
        intro y hy
        unfold fateQ at hy
        split at hy
        · simpa using hy
        · cases hy
      rcases ih _ _ _ x hx with h1 | h1
      · rcases List.mem_append.1 h1 with h2 | h2
        · exact .inl h2
        · exact .inr (by rw [hA x h2]; simp)
      · rcases List.mem_append.1 h1 with h2 | h2
        · exact .inr (by simp [h2])
        · exact .inr (by rw [hQ x h2]; simp)
theorem arr_mem {xs : List Int} {m x : Int} (h : x ∈ arrV xs m) : 0 ≤ x ∧ x < m := by
  unfold arrV linkR at h
  split at h
  · rename_i hk
    have hm := (okK_facts hk).2.2.1
    rcases runL_mem _ _ _ _ x h with h1 | h1
    · cases h1
    · rw [iota_mem] at h1
      omega
  · cases h
theorem runL_two (fs q a : List Int) (s : Nat) : (runL fs q a s).2.1.length + 2 * s ≤ a.length + 2 * (runL fs q a s).2.2 := by
  induction fs generalizing q a s with
  | nil => simp [runL]
  | cons f fs ih =>
    cases q with
    | nil => simp [runL]
    | cons n t =>
      simp only [runL]
      have h1 := ih (t ++ fateQ f n) (a ++ fateA f n) (s + 1)
      have h2 := fateA_len f n
      rw [List.length_append] at h1
      omega
theorem arr_two {xs : List Int} {m : Int} (h : okK xs m = true) : ((arrV xs m).length : Int) ≤ 2 * sndV xs m := by
  unfold arrV sndV linkR
  rw [if_pos h, if_pos h]
  have h1 := runL_two xs (iota m.toNat) [] 0
  simp at h1
  omega
theorem runL_append (l k q a : List Int) (s : Nat) : runL (l ++ k) q a s = runL k (runL l q a s).1 (runL l q a s).2.1 (runL l q a s).2.2 := by
  induction l generalizing q a s with
  | nil => rfl
  | cons f fs ih =>
    cases q with
    | nil => simp [runL, runL_empty]
    | cons n t =>
      simp only [List.cons_append, runL]
      exact ih _ _ _
theorem runL_prefix (fs q a : List Int) (s : Nat) : ∃ r, (runL fs q a s).2.1 = a ++ r := by
  induction fs generalizing q a s with
  | nil => exact ⟨[], by simp [runL]⟩
  | cons f fs ih =>
    cases q with
    | nil => exact ⟨[], by simp [runL]⟩
    | cons n t =>
      obtain ⟨r, hr⟩ := ih (t ++ fateQ f n) (a ++ fateA f n) (s + 1)
      exact ⟨fateA f n ++ r, by simp only [runL]; rw [hr, List.append_assoc]⟩
theorem okK_take {xs : List Int} {m : Int} (h : okK xs m = true) (k : Nat) : okK (xs.take k) m = true := by
  simp only [okK, Bool.and_eq_true, decide_eq_true_eq] at h ⊢
  refine ⟨?_, ?_, h.2.2⟩
  · have : (xs.take k).length ≤ xs.length := by rw [List.length_take]; omega
    omega
  · have h1 := h.2.1
    unfold allR at h1 ⊢
    rw [List.all_eq_true] at h1 ⊢
    exact fun x hx => h1 x (List.mem_of_mem_take hx)
/-- With fewer fates what arrives is a beginning. -/
theorem arr_short {xs : List Int} {m : Int} (h : okK xs m = true) (k : Nat) : arrV (xs.take k) m = (arrV xs m).take (arrV (xs.take k) m).length ∧ (arrV (xs.take k) m).length ≤ (arrV xs m).length := by
  have e : arrV xs m = (runL (xs.take k ++ xs.drop k) (iota m.toNat) [] 0).2.1 := by
    rw [List.take_append_drop]
    simp [arrV, h, linkR]
  have e2 : arrV (xs.take k) m = (runL (xs.take k) (iota m.toNat) [] 0).2.1 := by simp [arrV, okK_take h, linkR]
  rw [runL_append, ← e2] at e
  obtain ⟨r, hr⟩ := runL_prefix (xs.drop k) (runL (xs.take k) (iota m.toNat) [] 0).1 (arrV (xs.take k) m) (runL (xs.take k) (iota m.toNat) [] 0).2.2
  rw [e, hr]
  exact ⟨by simp, by simp⟩
end Go.Proofs.Ythbdcindhkjboaa
