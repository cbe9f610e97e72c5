/-
  Drawn items: someItem, anyItem.
-/
import Derived.Test.YtehbkfgcbeldiaaGen
import Derived.Test.YtehbkfgcbeldiaaFrame
namespace Go.Proofs.Ytehbkfgcbeldiaa
open Go.RowKit

/-- A drawn item: a valid one. -/
def DrewItem (T R : TypeId) (w : World) (r N : Nat) (ok : Int → Int → List Int → Prop) (e : Ending) (w' : World) : Prop :=
  ∃ cl ky xs A n c, e = .returned (.agg #[.int .i64 cl, .int .i64 ky, .slice A n c]) ∧ ok cl ky xs ∧ n ≤ 10 ∧ OW w' T w.heap.size A n c xs ∧ RD w' R r N ∧ Rd w w' r
/-- What stands at the head of each round of someItem. -/
def SomeI (w wr : World) (r N j n c : Nat) (A : Option Addr) (xs : List Int) (cl ky : Int) (x : Nat) : Prop :=
  Blk wr x 26 #[.int .i64 cl, .int .i64 ky, .slice A n c] ∧ OW wr 3 (w.heap.size + 1) A n c xs ∧ allR xs 0 255 = true ∧ Blk wr w.heap.size 26 #[.int .i64 0, .int .i64 0, .slice none 0 0] ∧
    RD wr 46 r (N + 20 - 2 * j) ∧ Rd w wr r ∧ w.heap.size < x
set_option maxHeartbeats 4000000 in
theorem someItem_any (r N : Nat) (w : World) (h : RD w 46 r N) (hN : N ≤ 900000) :
    Calls Try.prog 29 #[.pointer (some ⟨r, 0, none⟩)] w (DrewItem 3 46 w r (N + 20) fun cl ky xs => validI cl ky xs = true) := by
  have hr := h.lt
  have H := Lib.hid h
  clear h
  go_enter Try.func29, Try.ntmps29
  go_wp2_with (fail)
  refine (pick_any r N 3 _ (H.out.below ((below_new w _).mono hr)) (by omega) (by omega)).mono ?_
  rintro e w1 ⟨cl, rfl, hcl0, hcl1, hr1, hw1⟩
  have hcl2 := hcl1 (by omega)
  clear hcl1
  have HR1 := Lib.hid hr1
  have HW1 := Lib.hid hw1
  have Q1 := Lib.hid ((Blk.new w 26 #[.int .i64 0, .int .i64 0, .slice none 0 0]).rd hw1 (by omega))
  have hz1 := hw1.size
  simp at hz1
  clear hr1 hw1
  go_wp2_with (fail)
  refine (pick_any r (N + 1) 250 _ HR1.out (by omega) (by omega)).mono ?_
  rintro e w2 ⟨k2, rfl, hk20, hk21, hr2, hw2⟩
  have hk22 := hk21 (by omega)
  clear hk21
  have HR2 := Lib.hid hr2
  have HW2 := Lib.hid (HW1.out.trans hw2)
  have Q2 := Lib.hid (Q1.out.rd hw2 (by omega))
  have hz2 := hw2.size
  clear hr2 hw2
  go_wp2_with (fail)
  refine (one_any (xs := [0, 7, 165, 255, k2]) (fun x => 0 ≤ x ∧ x ≤ 255) r (N + 1 + 1) _ (HR2.out.below ((below_new w2 _).mono (by omega))) (by omega) (by simpa using OW.lit w2 3 (r + 1) [0, 7, 165, 255, k2] (by omega) (by simp)) (by omega) (by omega) (by simp; omega)).mono ?_
  rintro e w3 ⟨ky, rfl, hky, hr3, hw3⟩
  have HR3 := Lib.hid hr3
  have HW3 := Lib.hid (HW2.out.trans ((Rd.of_below (below_new w2 _)).trans hw3))
  have Q3 := Lib.hid ((Q2.out.alloc _).rd hw3 (by omega))
  have hz3 := hw3.size
  simp at hz3
  obtain ⟨hky0, hky1⟩ := hky
  clear hr3 hw3
  go_wp2_with (fail)
  refine (one_any (xs := [2, 3, 1, 0, 8, 4]) (fun x => 0 ≤ x ∧ x ≤ 8) r (N + 1 + 1 + 1) _ (HR3.out.below ((((below_new w3 _).trans ((below_new _ _).mono (by simp))).trans ((below_new _ _).mono (by simp; try omega))).mono (by omega))) (by omega) (by simpa using OW.lit ((w3.alloc (.cells #[] 3)).alloc (.cells #[.int .i64 cl, .int .i64 ky, .slice (some ⟨w3.heap.size, 0, none⟩) 0 0] 26)) 3 (r + 1) [2, 3, 1, 0, 8, 4] (by simp; omega) (by simp)) (by omega) (by omega) (by simp)).mono ?_
  rintro e w4 ⟨j0, rfl, ⟨hj0, hj8⟩, hr4, hw4⟩
  obtain ⟨j, rfl⟩ := Int.eq_ofNat_of_zero_le hj0
  have HI : Hid (SomeI w w4 r N j 0 0 (some ⟨w3.heap.size, 0, none⟩) [] cl ky (w3.heap.size + 1)) := Lib.hid (by
    have b3 : Below w3.heap.size w3 (((w3.alloc (.cells #[] 3)).alloc (.cells #[.int .i64 cl, .int .i64 ky, .slice (some ⟨w3.heap.size, 0, none⟩) 0 0] 26)).alloc (.cells #[.int .i64 2, .int .i64 3, .int .i64 1, .int .i64 0, .int .i64 8, .int .i64 4] 3)) :=
      (((Below.refl _ _).alloc (Nat.le_refl _) _).alloc (by simp) _).alloc (by simp; try omega) _
    have x3 : Blk (((w3.alloc (.cells #[] 3)).alloc (.cells #[.int .i64 cl, .int .i64 ky, .slice (some ⟨w3.heap.size, 0, none⟩) 0 0] 26)).alloc (.cells #[.int .i64 2, .int .i64 3, .int .i64 1, .int .i64 0, .int .i64 8, .int .i64 4] 3)) (w3.heap.size + 1) 26 #[.int .i64 cl, .int .i64 ky, .slice (some ⟨w3.heap.size, 0, none⟩) 0 0] := by
      have h := (Blk.new (w3.alloc (.cells #[] 3)) 26 #[.int .i64 cl, .int .i64 ky, .slice (some ⟨w3.heap.size, 0, none⟩) 0 0]).alloc (.cells #[.int .i64 2, .int .i64 3, .int .i64 1, .int .i64 0, .int .i64 8, .int .i64 4] 3)
      simpa using h
    have o3 : OW (w3.alloc (.cells #[] 3)) 3 (w.heap.size + 1) (some ⟨w3.heap.size, 0, none⟩) 0 0 [] := by simpa using OW.lit w3 3 (w.heap.size + 1) [] (by omega) (by simp)
    refine ⟨x3.rd hw4 (by omega), ((o3.alloc _).alloc _).rd hw4 (by omega), by simp [allR], (Q3.out.on b3).rd hw4 (by omega), hr4.mono (by omega), ?_, by omega⟩
    exact (Rd.of_below (below_new w _)).trans (HW3.out.trans ((Rd.of_below b3).trans hw4)))
  clear hr4 hw4
  go_wp2_with (fail)
  go_loopw [4] (fun i wr => ∃ (j n c : Nat) (A : Option Addr) (xs : List Int), i = .int .i64 j ∧ j + n ≤ 8 ∧ Hid (SomeI w wr r N j n c A xs cl ky (w3.heap.size + 1))) (fun i _ => (intOf i).toNat)
  case atStart => exact ⟨j, 0, 0, _, [], rfl, by omega, HI⟩
  case round =>
    obtain ⟨j', n, c, A, xs, rfl, hjn, HS⟩ := hrel
    clear HI
    obtain ⟨x0, o0, a0, q0, r0, rw0, hx⟩ := HS.out
    have HX := Lib.hid x0
    have HO := Lib.hid o0
    have HA := Lib.hid a0
    have HQ := Lib.hid q0
    have HR := Lib.hid r0
    have HRW := Lib.hid rw0
    clear x0 o0 a0 q0 r0 rw0 HS
    obtain ⟨ka, kb, kc⟩ := HX.out.c3
    have hxl := HX.out.lt
    by_cases hlt : 0 < j'
    · go_wp2_with (fail)
      refine (spec_copyInts_any _ HO.out.is (by omega)).mono ?_
      clear ka kb kc
      rintro e w5 ⟨A5, n5, c5, rfl, o5, b5⟩
      have hn5 : n5 ≤ n := by have h1 := o5.len; have h2 := HO.out.len; omega
      have O5 := Lib.hid o5
      have B5 := Lib.hid b5
      have hz5 := b5.size
      clear o5 b5
      go_wp2_with (fail)
      refine (pick_any r _ 250 _ (HR.out.below (B5.out.mono (by have := HR.out.lt; omega))) (by omega) (by omega)).mono ?_
      rintro e w6 ⟨k6, rfl, hk60, hk61, hr6, hw6⟩
      have hk62 := hk61 (by omega)
      clear hk61
      have HR6 := Lib.hid hr6
      have HW6 := Lib.hid hw6
      have hz6 := hw6.size
      have hrl := HR.out.lt
      clear hr6 hw6
      go_wp2_with (fail)
      refine (one_any (xs := [0, 165, 255, k6, 1]) (fun x => 0 ≤ x ∧ x ≤ 255) r _ _ (HR6.out.below ((below_new w6 _).mono (by omega))) (by omega) (by simpa using OW.lit w6 3 (r + 1) [0, 165, 255, k6, 1] (by omega) (by simp)) (by omega) (by omega) (by simp; omega)).mono ?_
      rintro e w7 ⟨v, rfl, ⟨hv0, hv1⟩, hr7, hw7⟩
      have HR7 := Lib.hid hr7
      have HW7 := Lib.hid hw7
      have hz7 := hw7.size
      simp at hz7
      clear hr7 hw7
      have O7 := Lib.hid ((((O5.out.rd HW6.out (by omega)).alloc _).rd HW7.out (by omega)).alloc (.cells #[.int .i64 v] 3))
      have HSv : Hid (IS (w7.alloc (.cells #[.int .i64 v] 3)) (some ⟨w7.heap.size, 0, none⟩) 1 1 [v]) := Lib.hid (by simpa using (OW.lit w7 3 0 [v] (by simp) (by simp)).is)
      have X7 := Lib.hid (((((HX.out.on B5.out).rd HW6.out (by omega)).alloc _).rd HW7.out (by omega)).alloc (.cells #[.int .i64 v] 3))
      have Q7 := Lib.hid (((((HQ.out.on B5.out).rd HW6.out (by omega)).alloc _).rd HW7.out (by omega)).alloc (.cells #[.int .i64 v] 3))
      have R7 := Lib.hid (HR7.out.below ((below_new w7 (.cells #[.int .i64 v] 3)).mono (by omega)))
      have W7 := Lib.hid ((((HRW.out.trans (Rd.of_below B5.out)).trans HW6.out).alloc _ |>.trans HW7.out).alloc (.cells #[.int .i64 v] 3))
      have hql := HQ.out.lt
      go_wp2_with (at_builtin; go_must (refine wpList_append_is _ rfl (.tmp 23) (.tmp 29) _ rfl wr.heap.size 3 infoInt Try.underlying23 _ _ _ _ rfl O7.out _ _ _ _ rfl HSv.out (by omega) (by simp; omega) ?_); intro A8 c8 w8 hown8 hg8; have O8 := Lib.hid hown8; have G8 := Lib.hid (row_of hg8); have X8 := Lib.hid (X7.out.away G8.out (disj_box (by omega) O5.out.ge)); clear hown8 hg8; obtain ⟨k8a, k8b, k8c⟩ := X8.out.c3; have f8 := X8.out.frozen 2)
      clear k8a k8b k8c f8
      have Q8 := Lib.hid (Q7.out.away G8.out (disj_box (by omega) O5.out.ge))
      have R8 := Lib.hid (R7.out.row G8.out (O5.out.ge.mono (by omega)))
      have W8 := Lib.hid (W7.out.row G8.out (O5.out.ge.mono (by have := HRW.out.size; omega)))
      obtain ⟨i, rfl⟩ : ∃ i, j' = i + 1 := ⟨j' - 1, by omega⟩
      go_roundw
      case rel =>
        refine ⟨i, n5 + 1, c8, A8, xs ++ [v], by go_num, by omega, Lib.hid ⟨X8.out.set_ 2 _, ?_, ?_, ?_, ?_, ?_, hx⟩⟩
        · exact (O8.out.setCell (show w3.heap.size + 1 < wr.heap.size by omega) _).base_le (by have := HRW.out.size; omega)
        · rw [allR_append, HA.out, allR_cons, inR_t hv0 hv1]
          rfl
        · exact Q8.out.far (show w.heap.size ≠ w3.heap.size + 1 by omega) _
        · exact (R8.out.below ((Below.refl _ _).setCell (show r + 1 ≤ w3.heap.size + 1 by omega) _)).mono (by omega)
        · exact W8.out.setCell (show w.heap.size ≤ w3.heap.size + 1 by omega) _
      case measure => simp [intOf]
    · have ej : j' = 0 := by omega
      subst ej
      obtain ⟨qa, qb, qc⟩ := HQ.out.c3
      have f0 := HQ.out.frozen 0
      have f1 := HQ.out.frozen 1
      have f2 := HQ.out.frozen 2
      go_wp2_with (fail)
      refine bodyPost_ret (v := .agg #[.int .i64 cl, .int .i64 ky, .slice A n c]) (by simp [results, Try.results29, go_sem, qa, qb, qc]) rfl ?_
      refine ⟨cl, ky, xs, A, n, c, rfl, ?_, by omega, ?_, ?_, ?_⟩
      · have hl := HO.out.len
        exact validI_tt (inR_t hcl0 (by omega)) (inR_t hky0 hky1) (by rw [okB_short (by omega)]; exact HA.out)
      · refine OW.base_le ?_ (Nat.le_succ w.heap.size)
        repeat' (first | exact HO.out | refine OW.setCell ?_ ?_ _ | exact Nat.lt_succ_self _)
      · refine HR.out.below ?_
        repeat' (first | exact Below.refl _ _ | refine Below.setCell ?_ ?_ _ | exact hr)
      · repeat' (first | exact HRW.out | refine Rd.setCell ?_ ?_ _ | exact Nat.le_refl _)
end Go.Proofs.Ytehbkfgcbeldiaa
