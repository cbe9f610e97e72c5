/-
  victimsFor of the program: the places of the entries that can be shed, as a heap.
-/
import Derived.Test.YtnhlbaldbjcjaaaVicM
namespace Go.Proofs.Ytnhlbaldbjcjaaa
open Go.RowKit
theorem upL_mem2 {xs : List Tr} {ps : List Int} {j : Nat} (hj : j < ps.length) {p : Int} (h : p ∈ ps) : p ∈ upL xs ps j := by
  induction j using Nat.strongRecOn generalizing ps with
  | _ j ih =>
    rw [upL]
    split
    · exact h
    · split
      · refine ih _ (by omega) (by simp; omega) ?_
        obtain ⟨i, hi, rfl⟩ := List.getElem_of_mem h
        have hK : (j - 1) / 2 < ps.length := by omega
        have G := getD_set2 (a := ps.getD ((j - 1) / 2) 0) (b := ps.getD j 0) hj hK
        have M : ∀ (L : List Int) (k : Nat), k < L.length → L.getD k 0 ∈ L := by
          intro L k hk
          rw [List.getD_eq_getElem?_getD, List.getElem?_eq_getElem hk]
          exact List.getElem_mem _
        have M := fun k hk => M ((ps.set j (ps.getD ((j - 1) / 2) 0)).set ((j - 1) / 2) (ps.getD j 0)) k (by rw [List.length_set, List.length_set]; exact hk)
        have e : ps[i] = ps.getD i 0 := by rw [List.getD_eq_getElem?_getD, List.getElem?_eq_getElem hi]; rfl
        rw [e]
        by_cases h1 : i = j
        · have := M ((j - 1) / 2) hK
          rw [G, if_pos rfl] at this
          rw [h1]; exact this
        · by_cases h2 : i = (j - 1) / 2
          · have := M j hj
            rw [G, if_neg (by omega), if_pos rfl] at this
            rw [h2]; exact this
          · have := M i hi
            rw [G, if_neg h2, if_neg h1] at this
            exact this
      · exact h
/-- The places below k of entries of a class above cl. -/
def Vic (xs : List Tr) (cl : Int) (k : Nat) (ps : List Int) : Prop := ∀ q : Int, q ∈ ps ↔ ∃ i : Nat, i < k ∧ q = (i : Int) ∧ ∃ x, xs[i]? = some x ∧ cl < x.b
theorem Vic.zero (xs : List Tr) (cl : Int) : Vic xs cl 0 [] := by intro q; simp
theorem Vic.no {xs : List Tr} {cl : Int} {k : Nat} {ps : List Int} {x : Tr} (h : Vic xs cl k ps) (hx : xs[k]? = some x) (hc : ¬ cl < x.b) : Vic xs cl (k + 1) ps := by
  intro q
  rw [h q]
  constructor
  · rintro ⟨i, hi, e, y⟩; exact ⟨i, by omega, e, y⟩
  · rintro ⟨i, hi, e, y, hy, hb⟩
    by_cases hik : i = k
    · subst hik; rw [hx] at hy; injection hy with hy; subst hy; exact absurd hb hc
    · exact ⟨i, by omega, e, y, hy, hb⟩
theorem Vic.yes {xs : List Tr} {cl : Int} {k : Nat} {ps : List Int} {x : Tr} (h : Vic xs cl k ps) (hx : xs[k]? = some x) (hc : cl < x.b) : Vic xs cl (k + 1) (upL xs (ps ++ [(k : Int)]) ps.length) := by
  have hl : ps.length < (ps ++ [(k : Int)]).length := by simp
  have A : ∀ q, q ∈ upL xs (ps ++ [(k : Int)]) ps.length ↔ q ∈ ps ++ [(k : Int)] := fun q => ⟨upL_mem (P := fun q => q ∈ ps ++ [(k : Int)]) hl (fun _ h => h) q, upL_mem2 hl⟩
  intro q
  rw [A, List.mem_append, List.mem_singleton, h q]
  constructor
  · rintro (⟨i, hi, e, y⟩ | rfl)
    · exact ⟨i, by omega, e, y⟩
    · exact ⟨k, by omega, rfl, x, hx, hc⟩
  · rintro ⟨i, hi, e, y⟩
    by_cases hik : i = k
    · subst hik; exact .inr e
    · exact .inl ⟨i, by omega, e, y⟩
set_option maxHeartbeats 4000000 in
theorem impl_victimsFor_any {m d : Nat} {B : Option Addr} {xs : List Tr} (cl : Int) (w : World) (hT : TS w B m d xs) (hm : m ≤ 800) :
    Calls Try.prog 15 #[.slice B m d, .int .i64 cl] w fun e w' => e = .returned (.pointer (some ⟨w.heap.size, 0, none⟩)) ∧ ∃ A n c ps, Blk w' w.heap.size 41 #[.slice B m d, .slice A n c] ∧ OW w' 3 w.heap.size A n c ps ∧ Disj (some ⟨w.heap.size, 0, none⟩) A ∧ Below w.heap.size w w' ∧ HeapL xs ps ∧ Vic xs cl m ps ∧ n ≤ m := by
  have HT := Lib.hid hT
  have hlen := hT.len
  have HL := Lib.hid hlen
  have P0 := Lib.hid (Blk.new w 41 #[.slice B m d, .slice none 0 0])
  have B0 := Lib.hid (below_new w (.cells #[.slice B m d, .slice none 0 0] 41))
  have O0 : Hid (OW (w.alloc (.cells #[.slice B m d, .slice none 0 0] 41)) 3 w.heap.size none 0 0 []) := Lib.hid (by refine ⟨rfl, .inl ⟨rfl, rfl⟩⟩)
  clear hT hlen
  go_enter Try.func15, Try.ntmps15
  go_wp2_with (fail)
  generalize w.alloc (.cells #[.slice B m d, .slice none 0 0] 41) = W at *
  go_loopw [13] (fun i wr => ∃ (k : Nat) (A : Option Addr) (n c : Nat) (ps : List Int), k ≤ m ∧ i = .int .i64 k ∧ Hid (Blk wr w.heap.size 41 #[.slice B m d, .slice A n c]) ∧ Hid (OW wr 3 w.heap.size A n c ps) ∧ Hid (Disj (some ⟨w.heap.size, 0, none⟩) A) ∧ Hid (Below w.heap.size w wr) ∧ Hid (HeapL xs ps) ∧ Hid (Vic xs cl k ps) ∧ n ≤ k) (fun i _ => m - (intOf i).toNat)
  case atStart => exact ⟨0, none, 0, 0, [], Nat.zero_le _, rfl, P0, O0, Lib.hid (fun p q _ h => by cases h), B0, Lib.hid (HeapL.nil xs), Lib.hid (Vic.zero xs cl), Nat.le_refl _⟩
  case round =>
    obtain ⟨k, A, n, c, ps, hk, rfl, hP, hO, hD, hB, hH, hV, hn⟩ := hrel
    by_cases hlt : k < m
    · obtain ⟨b, off, x, hBe, hx, ca, cb, cc⟩ := (HT.out.below hB.out (Nat.le_refl _)).at_ hlt
      have hki : (k : Int) < (m : Int) := by omega
      have HX := Lib.hid hx
      have hall : Hid (∀ q ∈ ps, 0 ≤ q ∧ q < (m : Int)) := Lib.hid (by
        intro q hq
        obtain ⟨i, hi, rfl, _⟩ := (hV.out q).1 hq
        omega)
      have hpl : Hid (ps.length = n) := Lib.hid hO.out.len
      clear hx
      subst hBe
      obtain ⟨xa, xb, xc⟩ := x
      by_cases hc : cl < xb
      · have hcd : decide (cl < xb) = true := decide_eq_true hc
        have HC := Lib.hid hc
        clear hc
        go_wp2_with (fail)
        refine (heap_Push_any k w _ (hP.out.alloc _) HT.out (hO.out.alloc _) (hB.out.alloc hB.out.size _) hD.out (Nat.le_refl _) hall.out (by omega) hlt).mono ?_
        rintro e w3 ⟨rfl, A1, c1, q1, q2, q3, q4⟩
        have Q1 := Lib.hid q1
        have Q2 := Lib.hid q2
        have Q3 := Lib.hid q3
        have Q4 := Lib.hid q4
        clear q1 q2 q3 q4
        go_wp2_with (fail)
        go_roundw
        case rel => exact ⟨k + 1, A1, n + 1, c1, _, by omega, by go_num, Q1, Q2, Q3, Q4, Lib.hid (by rw [← hpl.out]; exact hH.out.push _), Lib.hid (by rw [← hpl.out]; exact hV.out.yes HX.out HC.out), by omega⟩
        case measure => simp [intOf]; omega
      · have hcd : decide (cl < xb) = false := decide_eq_false hc
        have HC := Lib.hid hc
        clear hc
        go_wp2_with (fail)
        go_roundw
        case rel => exact ⟨k + 1, A, n, c, ps, by omega, by go_num, Lib.hid (hP.out.alloc _), Lib.hid (hO.out.alloc _), hD, Lib.hid (hB.out.alloc hB.out.size _), hH, Lib.hid (hV.out.no HX.out HC.out), by omega⟩
        case measure => simp [intOf]; omega
    · have hkm : k = m := by omega
      go_wp2_with (fail)
      go_ret
      exact ⟨rfl, A, n, c, ps, hP.out, hO.out, hD.out, hB.out, hH.out, by rw [← hkm]; exact hV.out, by omega⟩
end Go.Proofs.Ytnhlbaldbjcjaaa
