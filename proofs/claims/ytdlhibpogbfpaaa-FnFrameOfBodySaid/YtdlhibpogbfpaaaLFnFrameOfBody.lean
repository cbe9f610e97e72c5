/-
  The walk of FnFrameOfBody.
-/
import Derived.Test.YtdlhibpogbfpaaaLaw
namespace Go.Proofs.Ytdlhibpogbfpaaa
open Go.RowKit
-- CALL: W s0
set_option maxHeartbeats 1500000 in
theorem walk_FnFrameOfBody {A : Option Addr} {n c : Nat} {zs : List Int} (w : World) (h : BS w A n c zs) :
    Calls Try.prog 7 #[.slice A n c] w fun e w' => e = .returned (.bool true) ∧ Below w.heap.size w w' := by
  have H := Lib.hid h
  clear h
  rcases Nat.lt_or_ge 1048576 n with h1 | h1
  · have h1' : (1048576 : Int) < (n : Int) := by omega
    go_enter Try.func7, Try.ntmps7
    go_wp2_with (fail)
    go_ret
    exact ⟨rfl, Below.refl _ _⟩
  have h1' : ¬ (1048576 : Int) < (n : Int) := by omega
  go_enter Try.func7, Try.ntmps7
  go_wp2_with (fail)
  refine (spec_DrawFrameOf_any w H.out h1).mono ?_
  rintro e w1 ⟨cl, ky, xs, A1, n1, c1, rfl, hn1, ho1, hb1⟩
  have S1 := Lib.hid (ho1.is.alloc (.cells #[.int .i64 cl, .int .i64 ky, .slice A1 n1 c1] 25))
  have Q1 := Lib.hid (Blk.new w1 25 #[.int .i64 cl, .int .i64 ky, .slice A1 n1 c1])
  have B1 := Lib.hid (hb1.trans ((below_new w1 (.cells #[.int .i64 cl, .int .i64 ky, .slice A1 n1 c1] 25)).mono hb1.size))
  clear ho1 hb1
  go_wp2_with (fail)
  refine (impl_FrameOf_any cl ky _ S1.out).mono ?_
  rintro e w2 ⟨A2, n2, c2, rfl, ho2, hb2⟩
  have S2 := Lib.hid (S1.out.below hb2 (Nat.le_refl _))
  have Q2 := Lib.hid (Q1.out.on hb2)
  have B2 := Lib.hid (B1.out.trans (hb2.mono B1.out.size))
  have F2 := Lib.hid ho2.is
  have G2 := Lib.hid ho2.form
  have L2 := Lib.hid ho2.len
  clear hb2 ho2 Q1 B1
  obtain ⟨qa, qb, qc⟩ := Q2.out.c3
  go_wp2_with (fail)
  refine (spec_FrameOf_any cl ky _ S2.out).mono ?_
  clear qa qb qc
  rintro e w3 ⟨A3, n3, c3, rfl, ho3, hb3⟩
  have S3 := Lib.hid (S2.out.below hb3 (Nat.le_refl _))
  have Q3 := Lib.hid (Q2.out.on hb3)
  have B3 := Lib.hid (B2.out.trans (hb3.mono B2.out.size))
  have F3 := Lib.hid (F2.out.below hb3 (Nat.le_refl _))
  have E3 := Lib.hid ho3.is
  clear hb3 ho3 S1 S2 Q2 B2 F2
  go_wp2_with (fail)
  refine (laws_equalInts_any _ F3.out E3.out).mono ?_
  rintro e w4 ⟨rfl, m4, rfl⟩
  have S4 := Lib.hid (S3.out.drewN m4)
  have Q4 := Lib.hid (Q3.out.drewN m4)
  have B4 := Lib.hid (below_drewN B3.out m4)
  have F4 := Lib.hid (F3.out.drewN m4)
  clear S3 Q3 B3 F3 E3
  have heq : (decide (frameOfL cl ky xs = frameOfL cl ky xs)) = true := by simp
  obtain ⟨w4', hw4'⟩ : ∃ u, u = w3.drewN m4 := ⟨_, rfl⟩
  rw [← hw4'] at S4 Q4 B4 F4
  rw [← hw4']
  clear hw4'
  obtain ⟨qa, qb, qc⟩ := Q4.out.c3
  rcases hv : validI cl ky xs with _ | _
  · have hn2 : n2 = 0 := by rw [← L2.out, frameOfL_f hv]; rfl
    subst hn2
    go_wp2_with (fail)
    refine (spec_FrameOf_any cl ky _ S4.out).mono ?_
    clear qa qb qc
    rintro e w5 ⟨A5, n5, c5, rfl, ho5, hb5⟩
    have B5 := Lib.hid (B4.out.trans (hb5.mono B4.out.size))
    have F5 := Lib.hid (F4.out.below hb5 (Nat.le_refl _))
    have E5 := Lib.hid ho5.is
    clear ho5 hb5
    go_wp2_with (fail)
    refine (laws_equalInts_any _ F5.out E5.out).mono ?_
    rintro e w6 ⟨rfl, m6, rfl⟩
    go_wp2_with (fail)
    go_ret
    exact ⟨ret_bool (by simp), below_drewN B5.out m6⟩
  have hl1 := S4.out.len
  subst hl1
  have hn2 : n2 = 4 + xs.length + 1 := by rw [← L2.out, frameOfL_t hv, frameL_len]; omega
  subst hn2
  obtain ⟨g, rfl⟩ : ∃ g, A2 = some ⟨g, 0, none⟩ := by
    rcases G2.out with ⟨_, e, _⟩ | ⟨g, e, _⟩
    · omega
    · exact ⟨g, e⟩
  obtain ⟨m, hm⟩ : ∃ m, m = xs.length := ⟨_, rfl⟩
  have FF : Hid (IS w4' (some ⟨g, 0, none⟩) (4 + m + 1) c2 (frameL cl ky xs)) := Lib.hid (by rw [hm, ← frameOfL_t hv]; exact F4.out)
  have hck : chkOf (bodyL cl ky xs) = chk (bodyL cl ky xs) := chkOf_body hv
  obtain ⟨ck, hcv⟩ : ∃ cv, chk (bodyL cl ky xs) = cv := ⟨_, rfl⟩
  have z2 := FF.out.cell_is (k := 2) (by omega) (frameL_2 cl ky xs)
  have z3 := FF.out.cell_is (k := 3) (by omega) (frameL_3 cl ky xs)
  have zn := FF.out.cell_is (k := 4 + m) (v := ck) (by omega) (by rw [hm, ← hcv]; exact frameL_n cl ky xs)
  simp only [Nat.zero_add] at z2 z3 zn
  have T1 : Hid (IS w4' (some ⟨g, 4, none⟩) m (c2 - 4) xs) := Lib.hid (by
    have h := FF.out.cut (lo := 4) (hi := 4 + m) (by omega) (by omega)
    have e : 4 + m - 4 = m := by omega
    rw [e, hm, frameL_body] at h
    rw [hm]
    simpa using h)
  have T2 : Hid (IS w4' (some ⟨g, 1, none⟩) (3 + m) (c2 - 1) (bodyL cl ky xs)) := Lib.hid (by
    have h := FF.out.cut (lo := 1) (hi := 4 + m) (by omega) (by omega)
    have e : 4 + m - 1 = 3 + m := by omega
    rw [e, hm, frameL_run] at h
    rw [hm]
    simpa using h)
  have SS : Hid (IS w4' A1 m c1 xs) := Lib.hid (by rw [hm]; exact S4.out)
  have V1 := Lib.hid (fun (d : Nat) (os : Array Obj) => call_drewN (laws_equalInts_any _ (T1.out.regrown d os) (SS.out.regrown d os)) (by simp))
  have V2 := Lib.hid (fun (d : Nat) (os : Array Obj) => call_val (impl_CheckOf_any _ (T2.out.regrown d os)) (hck.trans hcv))
  have hcp := FF.out.2.1
  rw [← hm] at qc ⊢
  have hm8 : m ≤ 10 := by omega
  have hm9 := Lib.hid hm
  clear hm hck hcv S4 F4 L2 G2 heq hn1
  have hx1 : IntKind.i64.wrap (4 + (m : Int) + 1 - 1) = 4 + (m : Int) := by rw [IntWalk.i64_in _ (by omega)]; omega
  have hx2 : (4 : Int) ≤ 4 + (m : Int) := by omega
  have hx3 : 4 + (m : Int) ≤ (c2 : Int) := by omega
  have hx4 : (1 : Int) ≤ 4 + (m : Int) := by omega
  have hx5 : ¬ 4 + (m : Int) + 1 < 5 := by omega
  have hx6 : 4 + (m : Int) < 4 + (m : Int) + 1 := by omega
  have hx7 : (0 : Int) ≤ 4 + (m : Int) := by omega
  have hx8 : (2 : Int) < 4 + (m : Int) + 1 := by omega
  have hx9 : (3 : Int) < 4 + (m : Int) + 1 := by omega
  have hy1 : (4 + (m : Int)).toNat = 4 + m := by omega
  have pa := fun d os => cell_regrown qa d os
  have pb := fun d os => cell_regrown qb d os
  have pc := fun d os => cell_regrown qc d os
  have p2 := fun d os => cell_regrown z2 d os
  have p3 := fun d os => cell_regrown z3 d os
  have pn := fun d os => cell_regrown zn d os
  go_wp2_with (fail)
  refine wp_region_quiet_below (by kernel_rfl) (by kernel_rfl) ?_
  repeat (first | go_big_quiet_step ((first | (go_at_call 14; exact Calls.regrown_of (V1.out _ _)) | (go_at_call 18; exact regrown_same (V2.out _ _)))) | quiet_step ((first | (go_at_call 14; exact Calls.regrown_of (V1.out _ _)) | (go_at_call 18; exact regrown_same (V2.out _ _)))))
  refine wpQuiet_nil ?_
  intro wq hw'
  have hbq : Below w4'.heap.size w4' wq := by obtain ⟨p, rfl⟩ := hw'; exact below_regrown _ _ _
  have BQ := Lib.hid (B4.out.trans (hbq.mono B4.out.size))
  clear hw' hbq pa pb pc p2 p3 pn
  go_wp2_with (fail)
  go_ret
  exact ⟨ret_bool (by simp), BQ.out⟩
end Go.Proofs.Ytdlhibpogbfpaaa
