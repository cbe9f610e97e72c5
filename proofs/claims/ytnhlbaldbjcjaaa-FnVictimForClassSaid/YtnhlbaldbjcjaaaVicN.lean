/-
  Mathematics of the laws on victims.
-/
import Derived.Test.YtnhlbaldbjcjaaaVicE
import Derived.Test.YtnhlbaldbjcjaaaQuR
namespace Go.Proofs.Ytnhlbaldbjcjaaa
open Go.RowKit

theorem vic_at {xs : List Tr} {cl v : Int} (he : validE xs = true) (h : vicV xs cl = v) (h0 : 0 ≤ v) :
    ∃ (k : Nat) (x : Tr), v = (k : Int) ∧ xs[k]? = some x ∧ cl < x.b ∧ (∀ (j : Nat) (y : Tr), xs[j]? = some y → y.b ≤ x.b ∧ (y.b = x.b → k ≤ j)) := by
  have hB : ∀ y ∈ xs, 0 ≤ y.b ∧ y.b ≤ 2 := fun y hy => ((validE_iff.1 he).at_ (x := y) hy).2.1
  have hW : ∀ c : Int, 0 ≤ firstC c xs → whereC c xs < xs.length := fun c hc => by
    rcases Nat.lt_or_ge (whereC c xs) xs.length with h1 | h1
    · exact h1
    · have := firstC_neg.2 (Nat.not_lt.2 h1); omega
  unfold vicV at h
  split at h
  · rename_i hc
    have hw := hW 2 hc.2
    obtain ⟨x, hx, hb⟩ := whereC_get hw
    rw [firstC_eq hw] at h
    refine ⟨_, x, h.symm, hx, by omega, fun j y hy => ⟨by have := hB y (List.mem_of_getElem? hy); omega, fun e => ?_⟩⟩
    rcases Nat.lt_or_ge j (whereC 2 xs) with h1 | h1
    · exact absurd (by omega : y.b = 2) (whereC_before h1 hy)
    · exact h1
  · rename_i hn
    split at h
    · rename_i hc
      have hw := hW 1 hc.2
      obtain ⟨x, hx, hb⟩ := whereC_get hw
      rw [firstC_eq hw] at h
      refine ⟨_, x, h.symm, hx, by omega, fun j y hy => ?_⟩
      have hy2 : y.b ≠ 2 := fun e => by
        have hlt : whereC 2 xs < xs.length := by
          rcases Nat.lt_or_ge (whereC 2 xs) xs.length with h1 | h1
          · exact h1
          · exact absurd e (whereC_before (by have := (List.getElem?_eq_some_iff.1 hy).1; omega) hy)
        exact hn ⟨by omega, by rw [firstC_eq hlt]; omega⟩
      have hyb := hB y (List.mem_of_getElem? hy)
      refine ⟨by omega, fun e => ?_⟩
      rcases Nat.lt_or_ge j (whereC 1 xs) with h1 | h1
      · exact absurd (by omega : y.b = 1) (whereC_before h1 hy)
      · exact h1
    · omega
theorem vic_ge (xs : List Tr) (cl : Int) : -1 ≤ vicV xs cl ∧ vicV xs cl < (xs.length : Int) := by
  have hF : ∀ c : Int, firstC c xs < (xs.length : Int) := fun c => by
    unfold firstC
    split <;> omega
  have h1 := hF 1
  have h2 := hF 2
  unfold vicV
  split
  · omega
  · split <;> omega
theorem victim_bd (xs : List Tr) (cl : Int) : -1 ≤ victimV xs cl ∧ victimV xs cl < (xs.length : Int) ∨ victimV xs cl = -1 := by
  rcases h1 : validE xs with _ | _
  · exact .inr (victimV_f (.inl h1))
  rcases h2 : inR cl 0 2 with _ | _
  · exact .inr (victimV_f (.inr h2))
  rw [victimV_t h1 h2]
  exact .inl (vic_ge xs cl)
theorem vic_two (xs : List Tr) : vicV xs 2 = -1 := by
  unfold vicV
  rw [if_neg (by omega), if_neg (by omega)]
theorem vic_class (xs : List Tr) (cl : Int) : vicV xs (cl + 1) = vicV xs cl ∨ vicV xs (cl + 1) = -1 := by
  unfold vicV
  split
  · left; rw [if_pos (by omega)]
  · split
    · left; rw [if_neg (by omega), if_pos (by omega)]
    · exact .inr rfl
theorem shed_pos {xs : List Tr} (h : ∀ x ∈ xs, 1 ≤ x.c ∧ x.c ≤ 20) {cl : Int} {x : Tr} (hx : x ∈ xs) (hc : cl < x.b) : 1 ≤ shedB xs cl := by
  induction xs with
  | nil => cases hx
  | cons y ys ih =>
    rw [shedB_cons]
    have h0 := (shedB_bd (fun z hz => h z (List.mem_cons_of_mem _ hz)) cl).1
    rcases List.mem_cons.1 hx with rfl | hx
    · have := h x (by simp)
      rw [if_pos hc]
      omega
    · have h1 := ih (fun z hz => h z (List.mem_cons_of_mem _ hz)) hx
      have h2 := h y (by simp)
      split <;> omega
theorem shed_zero {xs : List Tr} {cl : Int} (h : ∀ x ∈ xs, ¬ cl < x.b) : shedB xs cl = 0 := by
  induction xs with
  | nil => rfl
  | cons y ys ih =>
    rw [shedB_cons, ih (fun z hz => h z (List.mem_cons_of_mem _ hz)), if_neg (h y (by simp))]
    rfl
theorem vic_shed {xs : List Tr} {cl : Int} (he : validE xs = true) (hc : 0 ≤ cl) : vicV xs cl = -1 ↔ shedB xs cl = 0 := by
  have hC : ∀ x ∈ xs, 1 ≤ x.c ∧ x.c ≤ 20 := fun x hx => ((validE_iff.1 he).at_ (x := x) hx).2.2
  have hB : ∀ y ∈ xs, 0 ≤ y.b ∧ y.b ≤ 2 := fun y hy => ((validE_iff.1 he).at_ (x := y) hy).2.1
  constructor
  · intro h
    refine shed_zero fun x hx hlt => ?_
    have hF : ∀ c : Int, x.b = c → 0 ≤ firstC c xs := fun c e => by
      obtain ⟨i, hi, rfl⟩ := List.getElem_of_mem hx
      rcases Nat.lt_or_ge (whereC c xs) xs.length with h1 | h1
      · rw [firstC_eq h1]; omega
      · exact absurd e (whereC_before (by omega : i < whereC c xs) (List.getElem?_eq_getElem hi))
    have hxb := hB x hx
    unfold vicV at h
    rcases (show x.b = 1 ∨ x.b = 2 by omega) with e | e
    · have := hF 1 e
      split at h
      · omega
      · split at h <;> omega
    · have := hF 2 e
      split at h
      · omega
      · omega
  · intro h
    rcases Int.lt_or_le (vicV xs cl) 0 with h1 | h1
    · have := vic_ge xs cl; omega
    · obtain ⟨k, x, _, hx, hlt, _⟩ := vic_at he rfl h1
      have := shed_pos hC (List.mem_of_getElem? hx) hlt
      omega
end Go.Proofs.Ytnhlbaldbjcjaaa
