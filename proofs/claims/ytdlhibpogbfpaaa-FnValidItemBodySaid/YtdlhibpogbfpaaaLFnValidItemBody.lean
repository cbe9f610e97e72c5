/-
  The walk of FnValidItemBody.
-/
import Derived.Test.YtdlhibpogbfpaaaLaw
namespace Go.Proofs.Ytdlhibpogbfpaaa
open Go.RowKit
theorem allR_part {xs : List Int} {lo hi : Int} (h : allR xs lo hi = true) (a b : Nat) : allR ((xs.take a).drop b) lo hi = true := by
  simp only [allR, List.all_eq_true] at h ⊢
  exact fun x hx => h x (List.mem_of_mem_take (List.mem_of_mem_drop hx))
theorem validI_part {cl ky : Int} {xs : List Int} (h : validI cl ky xs = true) (a b : Nat) : validI cl ky ((xs.take a).drop b) = true := by
  obtain ⟨h1, h2, h3, h4, h5, h6⟩ := validI_parts h
  refine validI_tt (inR_t h1 h2) (inR_t h3 h4) ?_
  rw [okB_short (by rw [List.length_drop, List.length_take]; omega)]
  exact allR_part h6 a b
-- CALL: W s0
set_option maxHeartbeats 2000000 in
theorem walk_FnValidItemBody {A : Option Addr} {n c : Nat} {zs : List Int} (w : World) (h : BS w A n c zs) :
    Calls Try.prog 6 #[.slice A n c] w fun e w' => e = .returned (.bool true) ∧ Below w.heap.size w w' := by
  have H := Lib.hid h
  clear h
  rcases Nat.lt_or_ge 1048576 n with h1 | h1
  · have h1' : (1048576 : Int) < (n : Int) := by omega
    go_enter Try.func6, Try.ntmps6
    go_wp2_with (fail)
    go_ret
    exact ⟨rfl, Below.refl _ _⟩
  have h1' : ¬ (1048576 : Int) < (n : Int) := by omega
  go_enter Try.func6, Try.ntmps6
  go_wp2_with (fail)
  refine (spec_DrawValidItem_any w H.out h1).mono ?_
  rintro e w1 ⟨cl, ky, xs, A1, n1, c1, rfl, hn1, ho1, hb1⟩
  have F1 := Lib.hid ho1.form
  have S1 := Lib.hid (ho1.is.alloc (.cells #[.int .i64 cl, .int .i64 ky, .slice A1 n1 c1] 25))
  have Q1 := Lib.hid (Blk.new w1 25 #[.int .i64 cl, .int .i64 ky, .slice A1 n1 c1])
  have B1 := Lib.hid (hb1.trans ((below_new w1 (.cells #[.int .i64 cl, .int .i64 ky, .slice A1 n1 c1] 25)).mono hb1.size))
  clear ho1 hb1
  go_wp2_with (fail)
  refine (impl_ValidItem_any cl ky _ S1.out).mono ?_
  rintro e w2 ⟨rfl, hb2⟩
  have S2 := Lib.hid (S1.out.below hb2 (Nat.le_refl _))
  have Q2 := Lib.hid (Q1.out.on hb2)
  have B2 := Lib.hid (B1.out.trans (hb2.mono B1.out.size))
  clear hb2 S1 Q1 B1
  obtain ⟨qa, qb, qc⟩ := Q2.out.c3
  rcases hv : validI cl ky xs with _ | _
  · go_wp2_with (fail)
    refine (spec_ValidItem_any cl ky _ S2.out).mono ?_
    clear qa qb qc
    rintro e w3 ⟨rfl, hb3⟩
    have S3 := Lib.hid (S2.out.below hb3 (Nat.le_refl _))
    have Q3 := Lib.hid (Q2.out.on hb3)
    have B3 := Lib.hid (B2.out.trans (hb3.mono B2.out.size))
    clear hb3 S2 Q2 B2
    obtain ⟨qa, qb, qc⟩ := Q3.out.c3
    go_wp2_with (fail)
    refine (spec_ValidItem_any cl ky _ S3.out).mono ?_
    rintro e w4 ⟨rfl, hb4⟩
    have B4 := Lib.hid (B3.out.trans (hb4.mono B3.out.size))
    clear hb4
    go_wp2_with (fail)
    go_ret
    exact ⟨ret_bool (by simp [hv]), B4.out⟩
  go_wp2_with (fail)
  refine (spec_ValidItem_any cl ky _ S2.out).mono ?_
  clear qa qb qc
  rintro e w3 ⟨rfl, hb3⟩
  have S3 := Lib.hid (S2.out.below hb3 (Nat.le_refl _))
  have Q3 := Lib.hid (Q2.out.on hb3)
  have B3 := Lib.hid (B2.out.trans (hb3.mono B2.out.size))
  clear hb3 S2 Q2 B2
  obtain ⟨qa, qb, qc⟩ := Q3.out.c3
  rcases n1 with _ | m
  · go_wp2_with (fail)
    refine (spec_ValidItem_any cl ky _ S3.out).mono ?_
    rintro e w4 ⟨rfl, hb4⟩
    have B4 := Lib.hid (B3.out.trans (hb4.mono B3.out.size))
    clear hb4
    go_wp2_with (fail)
    go_ret
    exact ⟨ret_bool (by simp [hv]), B4.out⟩
  obtain ⟨g, rfl⟩ : ∃ g, A1 = some ⟨g, 0, none⟩ := by
    rcases F1.out with ⟨_, e, _⟩ | ⟨g, e, _⟩
    · omega
    · exact ⟨g, e⟩
  have hcp := S3.out.2.1
  have hne : ¬ ((m : Int) + 1 = 0) := by omega
  have hne2 : ((m : Int) + 1 == 0) = false := by simpa using hne
  have hx1 : IntKind.i64.wrap ((m : Int) + 1 - 1) = (m : Int) := by rw [IntWalk.i64_in _ (by omega)]; omega
  have hx2 : (1 : Int) ≤ (m : Int) + 1 := by omega
  have hx3 : (m : Int) ≤ (c1 : Int) := by omega
  have hx4 : (m : Int) + 1 ≤ (c1 : Int) := by omega
  have I1 : IS w3 (if c1 = 1 then some ⟨g, 0, none⟩ else some ⟨g, 1, none⟩) m (c1 - 1) ((xs.take (m + 1)).drop 1) := by
    have hl3 := S3.out.len
    split
    · have hm0 : m = 0 := by omega
      subst hm0
      have e : (xs.take (0 + 1)).drop 1 = [] := by simp
      rw [e]
      refine IS.empty w3 _ (by simp only [maxLen]; omega) (fun h => by cases h)
    · exact S3.out.cut (lo := 1) (hi := m + 1) (by omega) (Nat.le_refl _)
  have I2 : IS w3 (some ⟨g, 0, none⟩) m c1 ((xs.take m).drop 0) := S3.out.cut (lo := 0) (hi := m) (by omega) (by omega)
  have V1 := Lib.hid (fun (d : Nat) (os : Array Obj) => call_true (impl_ValidItem_any cl ky _ (I1.regrown d os)) (validI_part hv _ _))
  have V2 := Lib.hid (fun (d : Nat) (os : Array Obj) => call_true (impl_ValidItem_any cl ky _ (I2.regrown d os)) (validI_part hv _ _))
  clear I1 I2
  have pa := fun d os => cell_regrown qa d os
  have pb := fun d os => cell_regrown qb d os
  have pc := fun d os => cell_regrown qc d os
  go_wp2_with (fail)
  refine wp_region_quiet_below (by kernel_rfl) (by kernel_rfl) ?_
  repeat (first | go_big_quiet_step ((go_at_call 10; first | with_reducible exact Calls.regrown_of (V1.out _ _) | with_reducible exact Calls.regrown_of (V2.out _ _))) | quiet_step ((go_at_call 10; first | with_reducible exact Calls.regrown_of (V1.out _ _) | with_reducible exact Calls.regrown_of (V2.out _ _))))
  all_goals
    refine wpQuiet_nil ?_
    intro wq hw'
    have hbq : Below w3.heap.size w3 wq := by obtain ⟨p, rfl⟩ := hw'; exact below_regrown _ _ _
    have BQ := Lib.hid (B3.out.trans (hbq.mono B3.out.size))
    clear hw' hbq pa pb pc
    go_wp2_with (fail)
    all_goals
      go_ret
      exact ⟨ret_bool (by simp), BQ.out⟩
end Go.Proofs.Ytdlhibpogbfpaaa
