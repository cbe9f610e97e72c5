/-
  The walk of FnCheckOf.
-/
import Derived.Test.YtajfjeoklhkeiaaStreamA
namespace Go.Proofs.Ytajfjeoklhkeiaa
open Go.RowKit
theorem okB_take {xs : List Int} (h : okB xs 60 = true) (k : Nat) : chkOf (xs.take k) = chk (xs.take k) := by
  have e : okB (xs.take k) 60 = true := by
    have h60 : (xs.length : Int) ≤ 60 := by simp [okB] at h; exact h.1
    rw [okB_short (by rw [List.length_take]; omega)]
    simp only [okB, Bool.and_eq_true] at h
    simp only [allR, List.all_eq_true] at h ⊢
    exact fun x hx => h.2 x (List.mem_of_mem_take hx)
  unfold chkOf
  rw [e]
  rfl
-- CALL: W s0
set_option maxHeartbeats 2000000 in
theorem walk_FnCheckOf {A : Option Addr} {n c : Nat} {zs : List Int} (w : World) (h : BS w A n c zs) :
    Calls Try.prog 3 #[.slice A n c] w fun e w' => e = .returned (.bool true) ∧ Below w.heap.size w w' := by
  have H := Lib.hid h
  clear h
  rcases Nat.lt_or_ge 1048576 n with h1 | h1
  · have h1' : (1048576 : Int) < (n : Int) := by omega
    go_enter Try.func3, Try.ntmps3
    go_wp2_with (fail)
    go_ret
    exact ⟨rfl, Below.refl _ _⟩
  have h1' : ¬ (1048576 : Int) < (n : Int) := by omega
  go_enter Try.func3, Try.ntmps3
  go_wp2_with (fail)
  refine (spec_DrawCheckOf_any w H.out h1).mono ?_
  rintro e w1 ⟨xs, A1, n1, c1, rfl, hn1, ho1, hb1⟩
  have S1 := Lib.hid ho1.is
  have F1 := Lib.hid ho1.form
  have B1 := Lib.hid hb1
  clear ho1 hb1
  go_wp2_with (fail)
  refine (impl_CheckOf_any w1 S1.out).mono ?_
  rintro e w2 ⟨rfl, rfl⟩
  obtain ⟨cv, hcv⟩ : ∃ cv, chkOf xs = cv := ⟨_, rfl⟩
  have HC := Lib.hid (call_chk (spec_CheckOf_any w1 S1.out) hcv)
  rw [hcv]
  rcases hv : okB xs 60 with _ | _
  · have hm1 : cv = -1 := by rw [← hcv]; simp [chkOf, hv]
    subst hm1
    clear hcv
    go_wp2_with (fail)
    refine HC.out.mono ?_
    rintro e w2 ⟨rfl, rfl⟩
    go_wp2_with (fail)
    refine HC.out.mono ?_
    rintro e w2 ⟨rfl, rfl⟩
    go_wp2_with (fail)
    go_ret
    exact ⟨ret_bool (by simp), B1.out⟩
  have hb := chk_bd xs
  have hc2 : chk xs = cv := by rw [← hcv]; simp [chkOf, hv]
  rw [hc2] at hb
  obtain ⟨hb0, hb1⟩ := hb
  have hy0 : ¬ cv < 0 := by omega
  have HV := Lib.hid hv
  have HC2 := Lib.hid hc2
  clear hcv hc2 hv
  rcases n1 with _ | m
  · go_wp2_with (fail)
    refine HC.out.mono ?_
    rintro e w2 ⟨rfl, rfl⟩
    go_wp2_with (fail)
    refine HC.out.mono ?_
    rintro e w2 ⟨rfl, rfl⟩
    go_wp2_with (fail)
    go_ret
    exact ⟨ret_bool (by simp), B1.out⟩
  obtain ⟨g, rfl⟩ : ∃ g, A1 = some ⟨g, 0, none⟩ := by
    rcases F1.out with ⟨_, e, _⟩ | ⟨g, e, _⟩
    · omega
    · exact ⟨g, e⟩
  obtain ⟨b', o', v, eB, hx, hc⟩ := S1.out.at_ (k := m) (by omega)
  simp only [Option.some.injEq, Addr.mk.injEq, and_true] at eB
  obtain ⟨rfl, rfl⟩ := eB
  simp only [Nat.zero_add] at hc
  have hal : allR xs 0 255 = true := by have h := HV.out; simp [okB] at h; exact h.2
  obtain ⟨hv0, hv1⟩ := allR_at hx hal
  obtain ⟨p, hp⟩ : ∃ p, chk (xs.take m) = p := ⟨_, rfl⟩
  have hpb := chk_bd (xs.take m)
  rw [hp] at hpb
  obtain ⟨hp0, hp1⟩ := hpb
  have hfull : (31 * p + v) % 251 = cv := by
    have h := chk_snoc hx
    rw [hp, List.take_of_length_le (by have := S1.out.len; omega), HC2.out] at h
    exact h.symm
  have hcp := S1.out.2.1
  have hnil : chkOf [] = 17 := by decide
  have I2 : IS w1 (some ⟨g, 0, none⟩) m c1 (xs.take m) := by simpa using S1.out.cut (lo := 0) (hi := m) (by omega) (by omega)
  have V1 := Lib.hid (fun (d : Nat) (os : Array Obj) => call_chk (impl_CheckOf_any _ (I2.regrown d os)) ((okB_take HV.out m).trans hp))
  have V2 := Lib.hid (fun (d : Nat) (os : Array Obj) => call_chk (impl_CheckOf_any _ (IS.nil (Go.Sort.grow (redrawn w1 d) os))) hnil)
  clear I2 hx hal hp
  have hne2 : ((m : Int) + 1 == 0) = false := by have : ¬ (m : Int) + 1 = 0 := by omega
                                                 simpa using this
  have hx1 : IntKind.i64.wrap ((m : Int) + 1 - 1) = (m : Int) := by rw [IntWalk.i64_in _ (by omega)]; omega
  have hx3 : (m : Int) ≤ (c1 : Int) := by omega
  have hx4 : (m : Int) < (m : Int) + 1 := by omega
  have hw1 : IntKind.i64.wrap (31 * p) = 31 * p := IntWalk.i64_in _ (by omega)
  have hw2 : IntKind.i64.wrap (31 * p + v) = 31 * p + v := IntWalk.i64_in _ (by omega)
  have hw3 : Int.tmod (31 * p + v) 251 = cv := by rw [Int.tmod_eq_emod_of_nonneg (by omega)]; exact hfull
  have hw4 : IntKind.i64.wrap cv = cv := IntWalk.i64_in _ (by omega)
  have pc := fun d os => cell_regrown hc d os
  go_wp2_with (fail)
  refine HC.out.mono ?_
  rintro e w2 ⟨rfl, rfl⟩
  go_wp2_with (fail)
  refine wp_region_quiet_below (by kernel_rfl) (by kernel_rfl) ?_
  repeat (first | go_big_quiet_step ((go_at_call 12; first | with_reducible exact regrown_same (V1.out _ _) | with_reducible exact regrown_same (V2.out _ _))) | quiet_step ((go_at_call 12; first | with_reducible exact regrown_same (V1.out _ _) | with_reducible exact regrown_same (V2.out _ _))))
  refine wpQuiet_nil ?_
  intro wq hw'
  have hbq : Below w1.heap.size w1 wq := by obtain ⟨p, rfl⟩ := hw'; exact below_regrown _ _ _
  have BQ := Lib.hid (B1.out.trans (hbq.mono B1.out.size))
  clear hw' hbq pc
  go_wp2_with (fail)
  go_ret
  exact ⟨ret_bool (by simp), BQ.out⟩
end Go.Proofs.Ytajfjeoklhkeiaa
