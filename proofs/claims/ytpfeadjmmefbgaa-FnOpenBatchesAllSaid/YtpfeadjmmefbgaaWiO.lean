/-
  The mathematics of acknowledging all open batches, the last one first.
-/
import Derived.Test.YtpfeadjmmefbgaaWiN
namespace Go.Proofs.Ytpfeadjmmefbgaa
open Go.RowKit

theorem all_ack {u nx m : Int} {ys os : List Int} {i : Nat} (hw : winV u nx ys = true) (hn : nx ≤ 1000) (ho : openL u nx ys = os.take (i + 1)) (hm : os[i]? = some m) (ha : os.Pairwise (· < ·)) :
    akOK u nx ys m = true ∧ winV (akU u nx ys m) nx (akL u nx ys m) = true ∧ openL (akU u nx ys m) nx (akL u nx ys m) = os.take i := by
  have hi : i < os.length := (List.getElem?_eq_some_iff.1 hm).1
  have hv : os[i] = m := (List.getElem?_eq_some_iff.1 hm).2
  have e1 : os.take (i + 1) = os.take i ++ [m] := by rw [List.take_succ_eq_append_getElem hi, hv]
  obtain ⟨l1, l2, l3⟩ := open_lt (b := u) (nx := nx) (xs := ys) (n := m) (by rw [ho, e1]; simp)
  obtain ⟨w1, w2, w3, w4, w5⟩ := winV_facts hw
  have hb := upR_bd (ackP ys m) u (akK u nx)
  have hok : akOK u nx ys m = true := by
    refine akOK_iff.2 ⟨hw, by omega, l2, ?_⟩
    unfold akU
    have : ((akK u nx : Nat) : Int) = nx - u := by unfold akK; omega
    omega
  obtain ⟨_, _, _, f1, f2, _⟩ := ak_facts hok
  refine ⟨hok, f1, ?_⟩
  rw [f2, ho, e1, List.filter_append]
  have e2 : (os.take i).filter (fun n => decide (n ≠ m)) = os.take i := by
    rw [List.filter_eq_self]
    intro y hy
    obtain ⟨j, hj, ej⟩ := List.getElem_of_mem hy
    rw [List.length_take] at hj
    rw [List.getElem_take] at ej
    have h1 := List.pairwise_iff_getElem.1 ha j i (by omega) hi (by omega)
    rw [ej, hv] at h1
    simp
    omega
  rw [e2]
  simp
theorem all_end {u nx : Int} {ys : List Int} (hw : winV u nx ys = true) (ho : openL u nx ys = []) : u = nx := by
  obtain ⟨w1, w2, w3, w4, w5⟩ := winV_facts hw
  rcases Int.lt_or_le u nx with h | h
  · obtain ⟨r, hr, _⟩ := open_head hw h
    rw [ho] at hr
    cases hr
  · omega
end Go.Proofs.Ytpfeadjmmefbgaa
