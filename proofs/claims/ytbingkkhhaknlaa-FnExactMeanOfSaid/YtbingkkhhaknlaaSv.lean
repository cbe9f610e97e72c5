/-
  ValidSums and MeanOf of the program and of the model. (Its words were written by a program of my own.)
-/
import Derived.Test.YtbingkkhhaknlaaSuM
import Derived.Deep.DeepMust
import Derived.Deep.QuietTactic
import Derived.BigQuiet
namespace Go.Proofs.Ytbingkkhhaknlaa
open Go.RowKit

theorem Blk.c5 {w : World} {g : Nat} {t : TypeId} {a b c d e : Value} (h : Blk w g t #[a, b, c, d, e]) : w.cell? ⟨g, 0, none⟩ = some a ∧ w.cell? ⟨g, 1, none⟩ = some b ∧ w.cell? ⟨g, 2, none⟩ = some c ∧ w.cell? ⟨g, 3, none⟩ = some d ∧ w.cell? ⟨g, 4, none⟩ = some e := ⟨h.cell 0, h.cell 1, h.cell 2, h.cell 3, h.cell 4⟩
theorem call_bool {P : Program} {f : FuncId} {args : Array Value} {w : World} {b b' : Bool} {R : World → Prop} (h : Calls P f args w fun e w' => e = .returned (.bool b) ∧ R w') (hb : b = b') :
    Calls P f args w fun e w' => e = .returned (.bool b') ∧ R w' := hb ▸ h
set_option maxHeartbeats 1600000 in
theorem impl_validValues_any (x : Su) (w : World) :
    Calls Try.prog 15 #[.agg #[.int .i64 x.a, .int .i64 x.b, .int .i64 x.c, .int .i64 x.d, .int .i64 x.e]] w fun e w' => e = .returned (.bool (okV x)) ∧ Below w.heap.size w w' := by
  rcases h1 : inR x.b 1 100 with _ | _
  · go_enter Try.func15, Try.ntmps15
    go_wp2_with (go_at_call 14; refine (impl_within_any _ _ _ _).mono ?_; rintro e w' ⟨rfl, rfl⟩)
    go_ret
    exact ⟨ret_bool (by simp [okV, h1]), below_new _ _⟩
  rcases h2 : inR x.d 0 255 with _ | _
  · go_enter Try.func15, Try.ntmps15
    go_wp2_with (go_at_call 14; refine (impl_within_any _ _ _ _).mono ?_; rintro e w' ⟨rfl, rfl⟩)
    go_ret
    exact ⟨ret_bool (by simp [okV, h2]), below_new _ _⟩
  rcases h3 : inR x.e x.d 255 with _ | _
  · go_enter Try.func15, Try.ntmps15
    go_wp2_with (go_at_call 14; refine (impl_within_any _ _ _ _).mono ?_; rintro e w' ⟨rfl, rfl⟩)
    go_ret
    exact ⟨ret_bool (by simp [okV, h3]), below_new _ _⟩
  have e1 := inR_iff.1 h1
  have e2 := inR_iff.1 h2
  have e3 := inR_iff.1 h3
  have m1 := mul_bd5 (a := x.d) (b := x.b) (m := 255) (n := 100) (by omega) (by omega) (by omega) (by omega)
  have m2 := mul_bd5 (a := x.e) (b := x.b) (m := 255) (n := 100) (by omega) (by omega) (by omega) (by omega)
  have hw1 : IntKind.i64.wrap (x.d * x.b) = x.d * x.b := by rw [IntKind.wrap_i64]; omega
  have hw2 : IntKind.i64.wrap (x.e * x.b) = x.e * x.b := by rw [IntKind.wrap_i64]; omega
  clear m1 m2 e1 e2 e3
  go_enter Try.func15, Try.ntmps15
  go_wp2_with (go_at_call 14; refine (impl_within_any _ _ _ _).mono ?_; rintro e w' ⟨rfl, rfl⟩)
  go_ret
  exact ⟨ret_bool (by simp [okV, h1, h2, h3]), below_new _ _⟩
set_option maxHeartbeats 1600000 in
theorem impl_ValidSums_any {A : Option Addr} {n c : Nat} {xs : List Su} (w : World) (h : SS w A n c xs) :
    Calls Try.prog 8 #[.slice A n c] w fun e w' => e = .returned (.bool (validS xs)) ∧ Below w.heap.size w w' := by
  have hcap := h.cap
  have HL := Lib.hid h.len
  have H0 := Lib.hid h
  clear h
  by_cases h8 : n ≤ 8
  rotate_left
  · have h8' : (8 : Int) < (n : Int) := by omega
    have HQ : Hid (validS xs = false) := Lib.hid (validS_long (by have := HL.out; omega))
    clear h8
    go_enter Try.func8, Try.ntmps8
    go_wp2_with (fail)
    go_ret
    exact ⟨ret_bool HQ.out.symm, Below.refl _ _⟩
  have h8' : ¬ (8 : Int) < (n : Int) := by omega
  go_enter Try.func8, Try.ntmps8
  go_wp2_with (fail)
  go_loopw [3, 11] (fun q i wr => ∃ (k : Nat) (B : Int), k ≤ n ∧ -1 ≤ B ∧ B ≤ 255 ∧ i = .int .i64 (k : Int) ∧ q = .int .i64 B ∧ Hid (okF (-1) (xs.take k) = true) ∧ Hid (lastS (-1) (xs.take k) = B) ∧ Hid (Below w.heap.size w wr)) (fun _ i _ => n - (intOf i).toNat)
  case atStart => exact ⟨0, -1, Nat.zero_le _, by omega, by omega, rfl, rfl, Lib.hid rfl, Lib.hid rfl, Lib.hid (Below.refl _ _)⟩
  case round =>
    obtain ⟨k, B, hk, hB0, hB1, rfl, rfl, hO, hLs, HB⟩ := hrel
    by_cases hlt : k < n
    · have hlt' : (k : Int) < (n : Int) := by omega
      have hat := (H0.out.below HB.out (Nat.le_refl _)).at_ hlt
      obtain ⟨g, off, x, rfl, hx, ca, cb, cc, cd, ce⟩ := hat
      have hst := okF_step hx
      rw [hO.out, hLs.out, Bool.true_and] at hst
      have HST := Lib.hid hst
      have hw1 : IntKind.i64.wrap (B + 1) = B + 1 := by rw [IntKind.wrap_i64]; omega
      clear hx hst
      have PB := Lib.hid (Blk.new wr 33 #[.int .i64 x.a, .int .i64 x.b, .int .i64 x.c, .int .i64 x.d, .int .i64 x.e])
      have BN := Lib.hid (HB.out.alloc HB.out.size (.cells #[.int .i64 x.a, .int .i64 x.b, .int .i64 x.c, .int .i64 x.d, .int .i64 x.e] 33))
      rcases h1 : inR x.a (B + 1) 255 with _ | _
      · have HQ : Hid (validS xs = false) := Lib.hid (validS_bad (okF_bad (k := k + 1) (by rw [HST.out.1, h1, Bool.false_and])))
        go_wp2_with (go_at_call 14; refine (call_b (impl_within_any _ _ _ _) h1).mono ?_; rintro e w' ⟨rfl, rfl⟩)
        go_ret
        exact ⟨ret_bool HQ.out.symm, BN.out⟩
      have ha := inR_iff.1 h1
      rcases h2 : okV x with _ | _
      · have HQ : Hid (validS xs = false) := Lib.hid (validS_bad (okF_bad (k := k + 1) (by rw [HST.out.1, h2, Bool.and_false])))
        go_wp2_with (go_at_call 14; refine (call_b (impl_within_any _ _ _ _) h1).mono ?_; rintro e w' ⟨rfl, rfl⟩)
        refine (call_bool (impl_validValues_any x _) h2).mono ?_
        rintro e w2 ⟨rfl, hb⟩
        have B2 := Lib.hid (BN.out.trans (hb.mono BN.out.size))
        clear hb
        go_wp2_with (fail)
        go_ret
        exact ⟨ret_bool HQ.out.symm, B2.out⟩
      have HN : Hid (okF (-1) (xs.take (k + 1)) = true) := Lib.hid (by rw [HST.out.1, h1, h2]; rfl)
      go_wp2_with (go_at_call 14; refine (call_b (impl_within_any _ _ _ _) h1).mono ?_; rintro e w' ⟨rfl, rfl⟩)
      refine (call_bool (impl_validValues_any x _) h2).mono ?_
      rintro e w2 ⟨rfl, hb⟩
      have B2 := Lib.hid (BN.out.trans (hb.mono BN.out.size))
      have P2 := Lib.hid (PB.out.on hb)
      clear hb ca cb cc cd ce
      obtain ⟨p0, p1, p2, p3, p4⟩ := P2.out.c5
      go_wp2_with (fail)
      go_roundw
      case rel => exact ⟨k + 1, x.a, by omega, by omega, by omega, by first | rfl | go_num, rfl, HN, Lib.hid HST.out.2, B2⟩
      case measure => simp [intOf]; omega
    · have hlt' : ¬ (k : Int) < (n : Int) := by omega
      obtain rfl : k = n := by omega
      go_wp2_with (fail)
      go_ret
      have ht := hO.out
      rw [List.take_of_length_le (by have := HL.out; omega)] at ht
      have HQ : validS xs = true := by simp only [validS, ht, Bool.and_true, decide_eq_true_eq]; have := HL.out; omega
      exact ⟨ret_bool HQ.symm, HB.out⟩
set_option maxRecDepth 100000 in
set_option maxHeartbeats 3200000 in
theorem spec_validSums_any {A : Option Addr} {n c : Nat} {xs : List Su} (w : World) (h : SS w A n c xs) :
    Calls Try.prog 12 #[.slice A n c] w fun e w' => e = .returned (.bool (validS xs)) ∧ Below w.heap.size w w' := by
  have hcap := h.cap
  have HL := Lib.hid h.len
  have H0 := Lib.hid h
  clear h
  go_enter Try.func12, Try.ntmps12
  go_wp2_with (fail)
  go_loopw [3] (fun i wr => ∃ (k : Nat) (B : Int), k ≤ n ∧ -1 ≤ B ∧ B ≤ 255 ∧ i = .int .i64 (k : Int) ∧ Hid (okF (-1) (xs.take k) = true) ∧ Hid (lastS (-1) (xs.take k) = B) ∧ Hid (Below w.heap.size w wr)) (fun i _ => n - (intOf i).toNat)
  case atStart => exact ⟨0, -1, Nat.zero_le _, by omega, by omega, rfl, Lib.hid rfl, Lib.hid rfl, Lib.hid (Below.refl _ _)⟩
  case round =>
    obtain ⟨k, B, hk, hB0, hB1, rfl, hO, hLs, HB⟩ := hrel
    by_cases hlt : k < n
    · have hlt' : (k : Int) < (n : Int) := by omega
      have hk0 : (0 : Int) ≤ (k : Int) := by omega
      have hat := (H0.out.below HB.out (Nat.le_refl _)).at_ hlt
      obtain ⟨g, off, x, rfl, hx, ca, cb, cc, cd, ce⟩ := hat
      have hst := okF_step hx
      rw [hO.out, hLs.out, Bool.true_and] at hst
      have HST := Lib.hid hst
      clear hx hst
      have PB := Lib.hid (Blk.new wr 33 #[.int .i64 x.a, .int .i64 x.b, .int .i64 x.c, .int .i64 x.d, .int .i64 x.e])
      have BN := Lib.hid (HB.out.alloc HB.out.size (.cells #[.int .i64 x.a, .int .i64 x.b, .int .i64 x.c, .int .i64 x.d, .int .i64 x.e] 33))
      have BADV : Hid (okV x = false → validS xs = false) := Lib.hid (fun h => validS_bad (okF_bad (k := k + 1) (by rw [HST.out.1, h, Bool.and_false])))
      have BADA : Hid (inR x.a (B + 1) 255 = false → validS xs = false) := Lib.hid (fun h => validS_bad (okF_bad (k := k + 1) (by rw [HST.out.1, h, Bool.false_and])))
      have PREV : Hid (∀ p, k = p + 1 → ∃ y, (wr.alloc (.cells #[.int .i64 x.a, .int .i64 x.b, .int .i64 x.c, .int .i64 x.d, .int .i64 x.e] 33)).cell? ⟨g, off + p * 5, none⟩ = some (.int .i64 B) ∧ y = p) := Lib.hid (fun p hp => by
        have hat := ((H0.out.below HB.out (Nat.le_refl _)).alloc (.cells #[.int .i64 x.a, .int .i64 x.b, .int .i64 x.c, .int .i64 x.d, .int .i64 x.e] 33)).at_ (k := p) (by omega)
        obtain ⟨g', off', y, e, hy, c1, _⟩ := hat
        simp only [Option.some.injEq, Addr.mk.injEq, and_true] at e
        obtain ⟨rfl, rfl⟩ := e
        have h2 := (okF_step hy).2
        have h3 := hLs.out
        rw [hp, h2] at h3
        exact ⟨p, by rw [c1, h3], rfl⟩)
      rcases h1 : inR x.a 0 255 with _ | _
      · have HQ : Hid (validS xs = false) := Lib.hid (BADA.out (by rcases Int.lt_or_le x.a 0 with h | h; exact inR_l (by omega); rcases Int.lt_or_le 255 x.a with h2 | h2; exact inR_h h2; rw [inR_t h h2] at h1; cases h1))
        go_wp2_with (fail)
        obtain ⟨W, eW⟩ : ∃ vv : World, vv = wr.alloc (.cells #[.int .i64 x.a, .int .i64 x.b, .int .i64 x.c, .int .i64 x.d, .int .i64 x.e] 33) := ⟨_, rfl⟩
        rw [← eW] at PB BN PREV ⊢
        clear eW ca cb cc cd ce
        obtain ⟨p0, p1, p2, p3, p4⟩ := PB.out.c5
        go_quiet ((go_at_call 17; (first | (with_reducible refine (call_b (spec_inRange_any _ _ _ _) h1).mono ?_)); rintro e w' ⟨rfl, rfl⟩; exact ⟨rfl, _, rfl⟩))
        go_wp2_with (fail)
        go_ret
        exact ⟨ret_bool HQ.out.symm, by first | exact BN.out | exact below_drewN BN.out _⟩
      rcases h2 : inR x.b 1 100 with _ | _
      · have HQ : Hid (validS xs = false) := Lib.hid (BADV.out (by simp [okV, h2]))
        go_wp2_with (fail)
        obtain ⟨W, eW⟩ : ∃ vv : World, vv = wr.alloc (.cells #[.int .i64 x.a, .int .i64 x.b, .int .i64 x.c, .int .i64 x.d, .int .i64 x.e] 33) := ⟨_, rfl⟩
        rw [← eW] at PB BN PREV ⊢
        clear eW ca cb cc cd ce
        obtain ⟨p0, p1, p2, p3, p4⟩ := PB.out.c5
        go_quiet ((go_at_call 17; (first | (with_reducible refine (call_b (spec_inRange_any _ _ _ _) h1).mono ?_) | (with_reducible refine (call_b (spec_inRange_any _ _ _ _) h2).mono ?_)); rintro e w' ⟨rfl, rfl⟩; exact ⟨rfl, _, rfl⟩))
        go_wp2_with (fail)
        go_ret
        exact ⟨ret_bool HQ.out.symm, by first | exact BN.out | exact below_drewN BN.out _⟩
      rcases h3 : inR x.d 0 255 with _ | _
      · have HQ : Hid (validS xs = false) := Lib.hid (BADV.out (by simp [okV, h3]))
        go_wp2_with (fail)
        obtain ⟨W, eW⟩ : ∃ vv : World, vv = wr.alloc (.cells #[.int .i64 x.a, .int .i64 x.b, .int .i64 x.c, .int .i64 x.d, .int .i64 x.e] 33) := ⟨_, rfl⟩
        rw [← eW] at PB BN PREV ⊢
        clear eW ca cb cc cd ce
        obtain ⟨p0, p1, p2, p3, p4⟩ := PB.out.c5
        go_quiet ((go_at_call 17; (first | (with_reducible refine (call_b (spec_inRange_any _ _ _ _) h1).mono ?_) | (with_reducible refine (call_b (spec_inRange_any _ _ _ _) h2).mono ?_) | (with_reducible refine (call_b (spec_inRange_any _ _ _ _) h3).mono ?_)); rintro e w' ⟨rfl, rfl⟩; exact ⟨rfl, _, rfl⟩))
        go_wp2_with (fail)
        go_ret
        exact ⟨ret_bool HQ.out.symm, by first | exact BN.out | exact below_drewN BN.out _⟩
      rcases h4 : inR x.e x.d 255 with _ | _
      · have HQ : Hid (validS xs = false) := Lib.hid (BADV.out (by simp [okV, h4]))
        go_wp2_with (fail)
        obtain ⟨W, eW⟩ : ∃ vv : World, vv = wr.alloc (.cells #[.int .i64 x.a, .int .i64 x.b, .int .i64 x.c, .int .i64 x.d, .int .i64 x.e] 33) := ⟨_, rfl⟩
        rw [← eW] at PB BN PREV ⊢
        clear eW ca cb cc cd ce
        obtain ⟨p0, p1, p2, p3, p4⟩ := PB.out.c5
        go_quiet ((go_at_call 17; (first | (with_reducible refine (call_b (spec_inRange_any _ _ _ _) h1).mono ?_) | (with_reducible refine (call_b (spec_inRange_any _ _ _ _) h2).mono ?_) | (with_reducible refine (call_b (spec_inRange_any _ _ _ _) h3).mono ?_) | (with_reducible refine (call_b (spec_inRange_any _ _ _ _) h4).mono ?_)); rintro e w' ⟨rfl, rfl⟩; exact ⟨rfl, _, rfl⟩))
        go_wp2_with (fail)
        go_ret
        exact ⟨ret_bool HQ.out.symm, by first | exact BN.out | exact below_drewN BN.out _⟩
      have e2 := inR_iff.1 h2
      have e3 := inR_iff.1 h3
      have e4 := inR_iff.1 h4
      have m1 := mul_bd5 (a := x.d) (b := x.b) (m := 255) (n := 100) (by omega) (by omega) (by omega) (by omega)
      have m2 := mul_bd5 (a := x.e) (b := x.b) (m := 255) (n := 100) (by omega) (by omega) (by omega) (by omega)
      have hw1 : IntKind.i64.wrap (x.d * x.b) = x.d * x.b := by rw [IntKind.wrap_i64]; omega
      have hw2 : IntKind.i64.wrap (x.e * x.b) = x.e * x.b := by rw [IntKind.wrap_i64]; omega
      clear m1 m2 e2 e3 e4
      rcases h5 : inR x.c (x.d * x.b) (x.e * x.b) with _ | _
      · have HQ : Hid (validS xs = false) := Lib.hid (BADV.out (by simp [okV, h5]))
        go_wp2_with (fail)
        obtain ⟨W, eW⟩ : ∃ vv : World, vv = wr.alloc (.cells #[.int .i64 x.a, .int .i64 x.b, .int .i64 x.c, .int .i64 x.d, .int .i64 x.e] 33) := ⟨_, rfl⟩
        rw [← eW] at PB BN PREV ⊢
        clear eW ca cb cc cd ce
        obtain ⟨p0, p1, p2, p3, p4⟩ := PB.out.c5
        go_quiet ((go_at_call 17; (first | (with_reducible refine (call_b (spec_inRange_any _ _ _ _) h1).mono ?_) | (with_reducible refine (call_b (spec_inRange_any _ _ _ _) h2).mono ?_) | (with_reducible refine (call_b (spec_inRange_any _ _ _ _) h3).mono ?_) | (with_reducible refine (call_b (spec_inRange_any _ _ _ _) h4).mono ?_) | (with_reducible refine (call_b (spec_inRange_any _ _ _ _) h5).mono ?_)); rintro e w' ⟨rfl, rfl⟩; exact ⟨rfl, _, rfl⟩))
        go_wp2_with (fail)
        go_ret
        exact ⟨ret_bool HQ.out.symm, by first | exact BN.out | exact below_drewN BN.out _⟩
      have hv : okV x = true := by simp [okV, h2, h3, h4, h5]
      have HVX := Lib.hid hv
      clear hv
      have ha := inR_iff.1 h1
      by_cases hkz : k = 0
      · have hkp : decide ((0 : Int) < (k : Int)) = false := by simp; omega
        have hkp2 : ¬ 0 < k := by omega
        have hkp3 : decide (0 < k) = false := by simp; omega
        have hBz : B = -1 := by rw [← hLs.out, hkz]; rfl
        have HN : Hid (okF (-1) (xs.take (k + 1)) = true) := Lib.hid (by rw [HST.out.1, HVX.out, inR_t (by omega) ha.2]; rfl)
        clear hBz hkz
        go_wp2_with (fail)
        obtain ⟨W, eW⟩ : ∃ vv : World, vv = wr.alloc (.cells #[.int .i64 x.a, .int .i64 x.b, .int .i64 x.c, .int .i64 x.d, .int .i64 x.e] 33) := ⟨_, rfl⟩
        rw [← eW] at PB BN PREV ⊢
        clear eW ca cb cc cd ce
        obtain ⟨p0, p1, p2, p3, p4⟩ := PB.out.c5
        go_quiet ((go_at_call 17; (first | (with_reducible refine (call_b (spec_inRange_any _ _ _ _) h1).mono ?_) | (with_reducible refine (call_b (spec_inRange_any _ _ _ _) h2).mono ?_) | (with_reducible refine (call_b (spec_inRange_any _ _ _ _) h3).mono ?_) | (with_reducible refine (call_b (spec_inRange_any _ _ _ _) h4).mono ?_) | (with_reducible refine (call_b (spec_inRange_any _ _ _ _) h5).mono ?_)); rintro e w' ⟨rfl, rfl⟩; exact ⟨rfl, _, rfl⟩))
        go_wp2_with (fail)
        go_roundw
        case rel => exact ⟨k + 1, x.a, by omega, by omega, by omega, by first | rfl | go_num, HN, Lib.hid HST.out.2, by first | exact BN | exact Lib.hid (below_drewN BN.out _)⟩
        case measure => simp [intOf]; omega

      obtain ⟨p, hp⟩ : ∃ p, k = p + 1 := ⟨k - 1, by omega⟩
      have hw3 : IntKind.i64.wrap ((k : Int) - 1) = (p : Int) := by rw [IntKind.wrap_i64]; omega
      have hkp : 0 < k := by omega
      have hkp1 : (0 : Int) < (k : Int) := by omega
      have hkp3 : decide (0 < k) = true := by simp; omega
      have hp0 : (0 : Int) ≤ (p : Int) := by omega
      have hp1 : (p : Int) < (n : Int) := by omega
      have hp2 : p < n := by omega
      have HPK := Lib.hid hp
      clear hp hkz
      by_cases hle : x.a ≤ B
      · have HQ : Hid (validS xs = false) := Lib.hid (BADA.out (inR_l (by omega)))
        go_wp2_with (fail)
        obtain ⟨W, eW⟩ : ∃ vv : World, vv = wr.alloc (.cells #[.int .i64 x.a, .int .i64 x.b, .int .i64 x.c, .int .i64 x.d, .int .i64 x.e] 33) := ⟨_, rfl⟩
        rw [← eW] at PB BN PREV ⊢
        clear eW ca cb cc cd ce
        obtain ⟨p0, p1, p2, p3, p4⟩ := PB.out.c5
        obtain ⟨_, cp, _⟩ := PREV.out p HPK.out
        go_quiet ((go_at_call 17; (first | (with_reducible refine (call_b (spec_inRange_any _ _ _ _) h1).mono ?_) | (with_reducible refine (call_b (spec_inRange_any _ _ _ _) h2).mono ?_) | (with_reducible refine (call_b (spec_inRange_any _ _ _ _) h3).mono ?_) | (with_reducible refine (call_b (spec_inRange_any _ _ _ _) h4).mono ?_) | (with_reducible refine (call_b (spec_inRange_any _ _ _ _) h5).mono ?_)); rintro e w' ⟨rfl, rfl⟩; exact ⟨rfl, _, rfl⟩))
        go_wp2_with (fail)
        go_ret
        exact ⟨ret_bool HQ.out.symm, by first | exact BN.out | exact below_drewN BN.out _⟩

      have hle' : decide (x.a ≤ B) = false := by simp; omega
      have HN : Hid (okF (-1) (xs.take (k + 1)) = true) := Lib.hid (by rw [HST.out.1, HVX.out, inR_t (by omega) ha.2]; rfl)
      go_wp2_with (fail)
      obtain ⟨W, eW⟩ : ∃ vv : World, vv = wr.alloc (.cells #[.int .i64 x.a, .int .i64 x.b, .int .i64 x.c, .int .i64 x.d, .int .i64 x.e] 33) := ⟨_, rfl⟩
      rw [← eW] at PB BN PREV ⊢
      clear eW ca cb cc cd ce
      obtain ⟨p0, p1, p2, p3, p4⟩ := PB.out.c5
      obtain ⟨_, cp, _⟩ := PREV.out p HPK.out
      go_quiet ((go_at_call 17; (first | (with_reducible refine (call_b (spec_inRange_any _ _ _ _) h1).mono ?_) | (with_reducible refine (call_b (spec_inRange_any _ _ _ _) h2).mono ?_) | (with_reducible refine (call_b (spec_inRange_any _ _ _ _) h3).mono ?_) | (with_reducible refine (call_b (spec_inRange_any _ _ _ _) h4).mono ?_) | (with_reducible refine (call_b (spec_inRange_any _ _ _ _) h5).mono ?_)); rintro e w' ⟨rfl, rfl⟩; exact ⟨rfl, _, rfl⟩))
      go_wp2_with (fail)
      go_roundw
      case rel => exact ⟨k + 1, x.a, by omega, by omega, by omega, by first | rfl | go_num, HN, Lib.hid HST.out.2, by first | exact BN | exact Lib.hid (below_drewN BN.out _)⟩
      case measure => simp [intOf]; omega
    · have hlt' : ¬ (k : Int) < (n : Int) := by omega
      obtain rfl : k = n := by omega
      have ht := hO.out
      rw [List.take_of_length_le (by have := HL.out; omega)] at ht
      have HT := Lib.hid ht
      clear ht
      go_wp2_with (fail)
      go_ret
      exact ⟨ret_bool (by have h1 := HL.out; have h2 := HT.out; rw [Bool.eq_iff_iff]; simp [validS, h2]; omega), HB.out⟩
theorem spec_ValidSums_any {A : Option Addr} {n c : Nat} {xs : List Su} (w : World) (h : SS w A n c xs) :
    Calls Try.prog 6 #[.slice A n c] w fun e w' => e = .returned (.bool (validS xs)) ∧ Below w.heap.size w w' := by
  have H0 := Lib.hid h
  clear h
  go_enter Try.func6, Try.ntmps6
  go_wp2_with (fail)
  refine (spec_validSums_any _ H0.out).mono ?_
  rintro e w1 ⟨rfl, hb⟩
  have B1 := Lib.hid hb
  clear hb
  go_wp2_with (fail)
  go_ret
  exact ⟨rfl, B1.out⟩
end Go.Proofs.Ytbingkkhhaknlaa
