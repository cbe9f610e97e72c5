/-
  heap.Push over the victims.
-/
import Derived.Test.YtnhlbaldbjcjaaaVicB
namespace Go.Proofs.Ytnhlbaldbjcjaaa
open Go.RowKit
theorem upL_len (xs : List Tr) (ps : List Int) (j : Nat) : (upL xs ps j).length = ps.length := by
  induction j using Nat.strongRecOn generalizing ps with
  | _ j ih =>
    rw [upL]
    split
    · rfl
    · split
      · rw [ih _ (by omega)]; simp
      · rfl
theorem upL_mem {xs : List Tr} {ps : List Int} {j : Nat} {P : Int → Prop} (hj : j < ps.length) (h : ∀ p ∈ ps, P p) : ∀ p ∈ upL xs ps j, P p := by
  induction j using Nat.strongRecOn generalizing ps with
  | _ j ih =>
    rw [upL]
    split
    · exact h
    · split
      · refine ih _ (by omega) (by simp; omega) ?_
        intro r hr
        rcases List.mem_or_eq_of_mem_set hr with hr | rfl
        · rcases List.mem_or_eq_of_mem_set hr with hr | rfl
          · exact h r hr
          · rw [List.getD_eq_getElem?_getD, List.getElem?_eq_getElem (by omega)]
            exact h _ (List.getElem_mem _)
        · rw [List.getD_eq_getElem?_getD, List.getElem?_eq_getElem hj]
          exact h _ (List.getElem_mem _)
      · exact h
set_option maxHeartbeats 4000000 in
theorem heap_Push_any {g n c m d : Nat} {A B : Option Addr} {xs : List Tr} {ps : List Int} (p : Nat) (w0 w : World) (hP : Blk w g 41 #[.slice B m d, .slice A n c])
    (hT : TS w0 B m d xs) (hO : OW w 3 w0.heap.size A n c ps) (hB : Below w0.heap.size w0 w) (hD : Disj (some ⟨g, 0, none⟩) A) (hg : w0.heap.size ≤ g) (hall : ∀ p ∈ ps, 0 ≤ p ∧ p < (m : Int)) (hn : n ≤ 900) (hp : p < m) :
    Calls Try.prog 25 #[.iface 36 (.pointer (some ⟨g, 0, none⟩)), .iface 3 (.int .i64 (p : Int))] w fun e w' => e = .returned (.tuple #[]) ∧ ∃ A' c', Blk w' g 41 #[.slice B m d, .slice A' (n + 1) c'] ∧ OW w' 3 w0.heap.size A' (n + 1) c' (upL xs (ps ++ [(p : Int)]) n) ∧ Disj (some ⟨g, 0, none⟩) A' ∧ Below w0.heap.size w0 w' := by
  have HP := Lib.hid hP
  have HT := Lib.hid hT
  have HO := Lib.hid hO
  have HB := Lib.hid hB
  have HD := Lib.hid hD
  have HA : Hid (∀ q ∈ ps ++ [(p : Int)], 0 ≤ q ∧ q < (m : Int)) := Lib.hid (by
    intro q hq
    rcases List.mem_append.1 hq with h | h
    · exact hall q h
    · obtain rfl := List.mem_singleton.1 h
      omega)
  clear hP hT hO hB hD hall
  have m1 := mPush ⟨g, 0, none⟩
  have m2 := mLen ⟨g, 0, none⟩
  go_enter Try.func25, Try.ntmps25
  go_wp2_with (fail)
  refine (vic_Push_any (p : Int) _ HP.out HO.out HD.out (by omega) HB.out.size hg).mono ?_
  rintro e w1 ⟨rfl, A1, c1, hP1, hO1, hD1, hB1⟩
  have HP1 := Lib.hid hP1
  have HO1 := Lib.hid hO1
  have HD1 := Lib.hid hD1
  have HB1 := Lib.hid (HB.out.trans hB1)
  clear hP1 hO1 hD1 hB1
  go_wp2_with (fail)
  refine (vic_Len_any _ HP1.out).mono ?_
  rintro e w2 ⟨rfl, rfl⟩
  go_wp2_with (fail)
  obtain ⟨gp, rfl, _, _⟩ := HO1.out.pos (by omega)
  have hgp : g ≠ gp := fun e => HD1.out _ _ rfl rfl (by simpa using e)
  refine (heap_up_any (j := n) w0 _ HP1.out HT.out HO1.out HB1.out hgp HA.out (by omega) (by omega)).mono ?_
  rintro e w3 ⟨rfl, hP3, hO3, hB3⟩
  have HP3 := Lib.hid hP3
  have HO3 := Lib.hid hO3
  have HB3 := Lib.hid hB3
  clear hP3 hO3 hB3
  go_wp2_with (fail)
  refine bodyPost_end (v := .tuple #[]) (by simp [results, Try.results25, go_sem]) rfl ?_
  exact ⟨rfl, _, _, HP3.out, HO3.out, HD1.out, HB3.out⟩
end Go.Proofs.Ytnhlbaldbjcjaaa
