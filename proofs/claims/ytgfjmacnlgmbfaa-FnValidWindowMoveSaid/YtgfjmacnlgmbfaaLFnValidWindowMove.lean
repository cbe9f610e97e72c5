/-
  The walk of FnValidWindowMove. (Its words were written by a program of my own.)
-/
import Derived.Deep.DrawnRows
import Derived.Test.YtgfjmacnlgmbfaaWiN
import Derived.Lib.QuietBelow
import Derived.Deep.DeepMust
namespace Go.Proofs.Ytgfjmacnlgmbfaa
open Go.RowKit
attribute [local go_sem ↓] Go.wp_at_zero Go.wp_at_succ
-- CALL: W s0
set_option maxHeartbeats 4000000 in
theorem walk_FnValidWindowMove {A : Option Addr} {n c : Nat} {zs : List Int} (w : World) (h : BS w A n c zs) :
    Calls Try.prog 12 #[.slice A n c] w fun e w' => e = .returned (.bool true) ∧ Below w.heap.size w w' := by
  have H := Lib.hid h
  clear h
  rcases Nat.lt_or_ge 1048576 n with h1 | h1
  · have h1' : (1048576 : Int) < (n : Int) := by omega
    go_enter Try.func12, Try.ntmps12
    go_wp2_with (fail)
    go_ret
    exact ⟨rfl, Below.refl _ _⟩
  have h1' : ¬ (1048576 : Int) < (n : Int) := by omega
  go_enter Try.func12, Try.ntmps12
  go_wp2_with (fail)
  refine (spec_DrawValidWindow_any w H.out h1).mono ?_
  rintro e w1 ⟨b, nx, xs, A1, n1, c1, rfl, ⟨hb0, hb1⟩, ⟨hx0, hx1⟩, hn1, hI1, hb⟩
  have B := Lib.hid hb
  have I1 := Lib.hid hI1
  clear hb hI1
  replace I1 := Lib.hid (I1.out.alloc (.cells #[.int .i64 b, .int .i64 nx, .slice A1 n1 c1] 25))
  replace B := Lib.hid (B.out.alloc B.out.size (.cells #[.int .i64 b, .int .i64 nx, .slice A1 n1 c1] 25))
  have Q := Lib.hid (Blk.new w1 25 #[.int .i64 b, .int .i64 nx, .slice A1 n1 c1])
  go_wp2_with (fail)
  refine (impl_ValidWindow_any b nx _ I1.out).mono ?_
  rintro e w2 ⟨rfl, hb⟩
  replace I1 := Lib.hid (I1.out.below hb (Nat.le_refl _))
  replace Q := Lib.hid (Q.out.on hb)
  replace B := Lib.hid (B.out.trans (hb.mono B.out.size))
  clear hb
  rcases hv : winV b nx xs with _ | _
  · skip
    obtain ⟨q0, q1, q2⟩ := Q.out.c3
    have ql := Q.out.lt
    go_wp2_with (fail)
    refine (call_bool (spec_ValidWindow_any b nx _ I1.out) hv).mono ?_
    clear q0 q1 q2 ql
    rintro e w3 ⟨rfl, hb⟩
    replace I1 := Lib.hid (I1.out.below hb (Nat.le_refl _))
    replace Q := Lib.hid (Q.out.on hb)
    replace B := Lib.hid (B.out.trans (hb.mono B.out.size))
    clear hb
    obtain ⟨q0, q1, q2⟩ := Q.out.c3
    have ql := Q.out.lt
    go_wp2_with (fail)
    refine (call_bool (spec_ValidWindow_any b nx _ I1.out) hv).mono ?_
    clear q0 q1 q2 ql
    rintro e w4 ⟨rfl, hb⟩
    replace I1 := Lib.hid (I1.out.below hb (Nat.le_refl _))
    replace Q := Lib.hid (Q.out.on hb)
    replace B := Lib.hid (B.out.trans (hb.mono B.out.size))
    clear hb
    go_wp2_with (fail)
    go_ret
    exact ⟨ret_bool (rfl), B.out⟩
  by_cases hb9 : b = 1000
  · skip
    have hb8 : (b == 1000) = true := by simp [hb9]
    clear hb9
    obtain ⟨q0, q1, q2⟩ := Q.out.c3
    have ql := Q.out.lt
    go_wp2_with (fail)
    refine (call_bool (spec_ValidWindow_any b nx _ I1.out) hv).mono ?_
    clear q0 q1 q2 ql
    rintro e w3 ⟨rfl, hb⟩
    replace I1 := Lib.hid (I1.out.below hb (Nat.le_refl _))
    replace Q := Lib.hid (Q.out.on hb)
    replace B := Lib.hid (B.out.trans (hb.mono B.out.size))
    clear hb
    obtain ⟨q0, q1, q2⟩ := Q.out.c3
    have ql := Q.out.lt
    go_wp2_with (fail)
    refine (call_bool (spec_ValidWindow_any b nx _ I1.out) hv).mono ?_
    clear q0 q1 q2 ql
    rintro e w4 ⟨rfl, hb⟩
    replace I1 := Lib.hid (I1.out.below hb (Nat.le_refl _))
    replace Q := Lib.hid (Q.out.on hb)
    replace B := Lib.hid (B.out.trans (hb.mono B.out.size))
    clear hb
    go_wp2_with (fail)
    go_ret
    exact ⟨ret_bool (rfl), B.out⟩
  have hb8 : (b == 1000) = false := by simp [hb9]
  obtain ⟨hv0, hv1, hv2, hv3, hok⟩ := winV_facts hv
  have hm1 : winV (b + 1) (nx + 1) (xs.map (· + 1)) = true := winV_of (by omega) (by omega) (by omega) (by omega) (okA_shift hok)
  have HM := Lib.hid hm1
  have HOK := Lib.hid (okA_mem hok)
  have hwb : IntKind.i64.wrap (b + 1) = b + 1 := by rw [IntKind.wrap_i64]; omega
  have hwn : IntKind.i64.wrap (nx + 1) = nx + 1 := by rw [IntKind.wrap_i64]; omega
  clear hb9 hok hm1
  obtain ⟨q0, q1, q2⟩ := Q.out.c3
  have ql := Q.out.lt
  go_wp2_with (fail)
  refine (call_bool (spec_ValidWindow_any b nx _ I1.out) hv).mono ?_
  clear q0 q1 q2 ql
  rintro e w3 ⟨rfl, hb⟩
  replace I1 := Lib.hid (I1.out.below hb (Nat.le_refl _))
  replace Q := Lib.hid (Q.out.on hb)
  replace B := Lib.hid (B.out.trans (hb.mono B.out.size))
  clear hb
  have HXL := Lib.hid I1.out.len
  obtain ⟨z0, z1, z2⟩ := Q.out.c3
  go_wp2_with (fail)
  clear z0 z1 z2
  have LO := Lib.hid (OW.lit w3 3 w3.heap.size [] (Nat.le_refl _) (by simp))
  have LB : Hid (Below w3.heap.size w3 (w3.alloc (.cells #[] 3))) := Lib.hid (below_new _ _)
  obtain ⟨wz, eW⟩ : ∃ v, v = w3.alloc (.cells #[] 3) := ⟨_, rfl⟩
  simp only [List.map_nil] at LO
  rw [← eW] at LO LB ⊢
  clear eW
  go_loopw [5, 6] (fun q i wr => ∃ (j p c' : Nat) (A' : Option Addr), j ≤ n1 ∧ p ≤ j ∧ i = .int .i64 (j : Int) ∧ q = .slice A' p c' ∧ Hid (OW wr 3 w3.heap.size A' p c' ((xs.take j).map (· + 1))) ∧ Hid (Below w3.heap.size w3 wr)) (fun _ i _ => n1 - (intOf i).toNat)
  case atStart => exact ⟨0, 0, 0, _, Nat.zero_le _, Nat.zero_le _, rfl, rfl, Lib.hid (by simpa using LO.out), LB⟩
  case round =>
    obtain ⟨j, p, c', A', hj, hp, rfl, rfl, O, BW⟩ := hrel
    have hsz := BW.out.size
    have P := Lib.hid (Q.out.on BW.out)
    have I := Lib.hid (I1.out.below BW.out (Nat.le_refl _))
    obtain ⟨p0, p1, p2⟩ := P.out.c3
    by_cases hlt : j < n1
    · obtain ⟨g, off, v, rfl, hx, hc⟩ := I.out.at_ hlt
      have HX := Lib.hid hx
      obtain ⟨hx8, hx9⟩ := HOK.out v (List.mem_of_getElem? hx)
      have hwv : IntKind.i64.wrap (v + 1) = v + 1 := by rw [IntKind.wrap_i64]; omega
      clear hx
      have O7 := Lib.hid (O.out.alloc (.cells #[.int .i64 (v + 1)] 3))
      have SV : Hid (IS (wr.alloc (.cells #[.int .i64 (v + 1)] 3)) (some ⟨wr.heap.size, 0, none⟩) 1 1 [(v + 1)]) := Lib.hid (by simpa using (OW.lit wr 3 0 [(v + 1)] (by simp) (by simp)).is)
      have B7 := Lib.hid (BW.out.alloc BW.out.size (.cells #[.int .i64 (v + 1)] 3))
      go_wp2_with (at_builtin; go_must (refine wpList_append_is _ rfl (.tmp 39) (.tmp 46) _ rfl w3.heap.size 3 infoInt Try.underlying23 _ _ _ _ rfl O7.out _ _ _ _ rfl SV.out (by omega) (by simp; omega) ?_); intro A8 c8 w8 hown8 hg8; have O8 := Lib.hid hown8; have B8 := Lib.hid (O7.out.below_grown hg8 B7.out (Nat.le_refl _) (by simp; omega)); clear hown8 hg8)
      go_roundw
      case rel => exact ⟨j + 1, p + 1, c8, A8, by omega, by omega, by first | rfl | go_num, rfl, Lib.hid (by
        have hk : j < xs.length := (List.getElem?_eq_some_iff.1 HX.out).1
        have e : xs[j] = v := (List.getElem?_eq_some_iff.1 HX.out).2
        rw [List.take_succ_eq_append_getElem hk, e, List.map_append]
        exact O8.out), B8⟩
      case measure => simp [intOf]; omega
    · have hO := O.out.is
      rw [List.take_of_length_le (by have := HXL.out; omega)] at hO
      have O9 := Lib.hid hO
      have BB := Lib.hid (B.out.trans (BW.out.mono B.out.size))
      clear hO
      go_wp2_with (fail)
      refine (call_bool (impl_ValidWindow_any (b + 1) (nx + 1) _ O9.out) HM.out).mono ?_
      rintro e wy ⟨rfl, hb⟩
      have B9 := Lib.hid (BB.out.trans (hb.mono BB.out.size))
      clear hb
      go_wp2_with (fail)
      go_ret
      exact ⟨rfl, B9.out⟩
end Go.Proofs.Ytgfjmacnlgmbfaa
