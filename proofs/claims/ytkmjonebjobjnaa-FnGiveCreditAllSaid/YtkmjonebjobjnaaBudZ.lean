/-
  Facts of budgets: what is kept stays; all is given back.
-/
import Derived.Test.YtkmjonebjobjnaaBudY
namespace Go.Proofs.Ytkmjonebjobjnaa
open Go.RowKit
theorem kept_ok {t : Int} {ks us : List Int} {cl : Int} {j : Nat} {k u : Int} (hv : validB t ks us = true) (hc : inR cl 0 2 = true) (hj : (j : Int) = cl) (hk : ks[j]? = some k) (hu : us[j]? = some u) :
    k - u ≤ roomL t ks us cl ∧ tcOK t ks us ((cl + 1) % 3) (roomL t ks us ((cl + 1) % 3)) = true ∧ k - u ≤ roomL t ks (addL us ((cl + 1) % 3) (roomL t ks us ((cl + 1) % 3))) cl ∧ validB t ks (addL us ((cl + 1) % 3) (roomL t ks us ((cl + 1) % 3))) = true := by
  subst hj
  have ho := cls_next hc
  have h1 := (room_all hv ho).1
  have hva := (tc_parts h1).2.2.2.2
  have hb := roomL_bd hv ho
  refine ⟨?_, h1, ?_, hva⟩
  · obtain ⟨a, b, c, x, y, z, rfl, rfl⟩ := valid3 hv
    have hh := valid3_iff.1 hv
    have hjj : j = 0 ∨ j = 1 ∨ j = 2 := by have := inR_iff.1 hc; omega
    rcases hjj with rfl | rfl | rfl
    · simp at hk hu; rw [show ((0 : Nat) : Int) = 0 from rfl, room3.1]; omega
    · simp at hk hu; rw [show ((1 : Nat) : Int) = 1 from rfl, room3.2.1]; omega
    · simp at hk hu; rw [show ((2 : Nat) : Int) = 2 from rfl, room3.2.2]; omega
  · generalize roomL t ks us (((j : Int) + 1) % 3) = R at hva ⊢
    clear h1 hb ho
    obtain ⟨a, b, c, x, y, z, rfl, rfl⟩ := valid3 hv
    have hjj : j = 0 ∨ j = 1 ∨ j = 2 := by have := inR_iff.1 hc; omega
    rcases hjj with rfl | rfl | rfl
    · rw [show (((0 : Nat) : Int) + 1) % 3 = 1 from rfl, add3.2.1] at hva ⊢
      have hh := valid3_iff.1 hva
      simp at hk hu
      rw [show ((0 : Nat) : Int) = 0 from rfl, room3.1]
      omega
    · rw [show (((1 : Nat) : Int) + 1) % 3 = 2 from rfl, add3.2.2] at hva ⊢
      have hh := valid3_iff.1 hva
      simp at hk hu
      rw [show ((1 : Nat) : Int) = 1 from rfl, room3.2.1]
      omega
    · rw [show (((2 : Nat) : Int) + 1) % 3 = 0 from rfl, add3.1] at hva ⊢
      have hh := valid3_iff.1 hva
      simp at hk hu
      rw [show ((2 : Nat) : Int) = 2 from rfl, room3.2.2]
      omega
/-- The first k of three numbers set to nothing. -/
def zap (us : List Int) (k : Nat) : List Int := List.replicate k 0 ++ us.drop k
theorem zap_next {t : Int} {ks us : List Int} {k : Nat} {v : Int} (hv : validB t ks us = true) (hz : validB t ks (zap us k) = true) (hk : k < 3) (hx : (zap us k)[k]? = some v) :
    gcOK t ks (zap us k) (k : Int) v = true ∧ addL (zap us k) (k : Int) (-v) = zap us (k + 1) ∧ validB t ks (zap us (k + 1)) = true := by
  have hc : inR (k : Int) 0 2 = true := inR_t (by omega) (by omega)
  obtain ⟨u, hu1, hu2, hu3, hu4⟩ := cnt_at (validB_iff.1 hz).2.2.1 hk
  obtain rfl : u = v := by rw [hu1] at hx; injection hx
  have h1 : gcOK t ks (zap us k) (k : Int) u = true := gcOK_iff.2 ⟨hz, hc, ⟨hu3, hu4⟩, by rw [Int.toNat_natCast, hu2]; exact Int.le_refl _⟩
  have e : addL (zap us k) (k : Int) (-u) = zap us (k + 1) := by
    obtain ⟨a, b, c, x, y, z, rfl, rfl⟩ := valid3 hv
    have hkk : k = 0 ∨ k = 1 ∨ k = 2 := by omega
    rcases hkk with rfl | rfl | rfl
    · simp [zap] at hu1 ⊢; rw [add3.1]; simp; omega
    · simp [zap] at hu1 ⊢; rw [add3.2.1]; simp; omega
    · simp [zap] at hu1 ⊢; rw [add3.2.2]; simp; omega
  exact ⟨h1, e, by rw [← e]; exact (gc_parts h1).2.2.2.2.2⟩
theorem zap_end {t : Int} {ks us : List Int} (hv : validB t ks us = true) (hz : validB t ks (zap us 3) = true) : usedV t ks (zap us 3) = 0 := by
  obtain ⟨a, b, c, x, y, z, rfl, rfl⟩ := valid3 hv
  simp only [usedV, hz, if_true]
  simp [zap]
end Go.Proofs.Ytkmjonebjobjnaa
