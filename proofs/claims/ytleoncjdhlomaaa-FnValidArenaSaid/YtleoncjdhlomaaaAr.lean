/-
  Contracts of arenas: validity on both sides.
-/
import Derived.Test.YtleoncjdhlomaaaOwn
import Derived.Test.YtleoncjdhlomaaaArM
import Derived.Lib.QuietBelow
import Derived.IntWalk
import Derived.Deep.DeepMust
namespace Go.Proofs.Ytleoncjdhlomaaa
open Go.RowKit
set_option maxHeartbeats 4000000 in
theorem spec_validArena_any {A : Option Addr} {n c : Nat} {xs : List Tr} (s : Int) (w : World) (h : TS w A n c xs) :
    Calls Try.prog 39 #[.agg #[.int .i64 s, .slice A n c]] w fun e w' => e = .returned (.bool (validA s xs)) ∧ Below w.heap.size w w' := by
  have hcap := h.cap
  have hl := h.len
  have HL := Lib.hid hl
  have H := Lib.hid (h.alloc (.cells #[.int .i64 s, .slice A n c] 25))
  have B0 := Lib.hid (below_new w (.cells #[.int .i64 s, .slice A n c] 25))
  have X0 := Lib.hid (Blk.new w 25 #[.int .i64 s, .slice A n c])
  clear h hl
  go_enter Try.func39, Try.ntmps39
  go_wp2_with (fail)
  generalize w.alloc (.cells #[.int .i64 s, .slice A n c] 25) = W at *
  go_loopw [3, 4] (fun e i wr => ∃ (k : Nat) (E : Int), k ≤ n ∧ i = .int .i64 k ∧ e = .int .i64 E ∧ 0 ≤ E ∧ E ≤ 64 ∧ Hid (endT (xs.take k) = E) ∧ Hid (okPre 64 xs k) ∧ Hid (Below W.heap.size W wr)) (fun _ i _ => n - (intOf i).toNat)
  case atStart => exact ⟨0, 0, Nat.zero_le _, rfl, rfl, by omega, by omega, Lib.hid (by simp [endT]), Lib.hid (okPre_zero _ _), Lib.hid (Below.refl _ _)⟩
  case round =>
    obtain ⟨k, E, hk, rfl, rfl, hE0, hE1, hE, hP, hB⟩ := hrel
    have BB := Lib.hid (below_then B0.out (hB.out.mono (Nat.le_refl _)))
    obtain ⟨a0, a1⟩ := (X0.out.on hB.out).c2
    have al := (X0.out.on hB.out).lt
    by_cases hlt : k < n
    · obtain ⟨b, off, x, rfl, hx, ca, cb, cc⟩ := (H.out.below hB.out (Nat.le_refl _)).at_ hlt
      have HX := Lib.hid hx
      clear hx
      have BN := Lib.hid (below_then BB.out (below_new wr (.cells #[.int .i64 x.a, .int .i64 x.b, .int .i64 x.c] 39)))
      have hkl : Hid (k < xs.length) := Lib.hid (by have := HL.out; omega)
      rcases h1 : inR x.b E 64 with _ | _
      · go_wp2_with (go_at_call 45; refine (call_b (spec_inRange_any _ _ _ _) h1).mono ?_; rintro e w' ⟨rfl, rfl⟩)
        go_ret
        exact ⟨ret_bool (validA_f (validA_bad hkl.out (fun hh => by have h2 := (hh x HX.out).2.2.1; rw [hE.out] at h2; have := inR_t h2.1 h2.2; rw [h1] at this; cases this))).symm, BN.out⟩
      obtain ⟨hb0, hb1⟩ := inR_iff.1 h1
      have hw1 : IntKind.i64.wrap (64 - x.b) = 64 - x.b := IntWalk.i64_in _ (by omega)
      rcases h2 : inR x.c 1 (64 - x.b) with _ | _
      · go_wp2_with (first | (go_at_call 45; ((with_reducible refine (call_b (spec_inRange_any x.b E 64 _) h1).mono ?_); rintro e w' ⟨rfl, rfl⟩)) | (go_at_call 45; ((with_reducible refine (call_b (spec_inRange_any x.c 1 (64 - x.b) _) h2).mono ?_); rintro e w' ⟨rfl, rfl⟩)))
        go_ret
        exact ⟨ret_bool (validA_f (validA_bad hkl.out (fun hh => by have h3 := (hh x HX.out).2.2.2; have := inR_t h3.1 h3.2; rw [h2] at this; cases this))).symm, BN.out⟩
      obtain ⟨hc0, hc1⟩ := inR_iff.1 h2
      have H1 := Lib.hid h1
      have H2 := Lib.hid h2
      have al2 : w.heap.size < wr.heap.size := al
      have bl : b < wr.heap.size := World.block_lt_of_cell? wr _ ca
      have TT := Lib.hid (H.out.below hB.out (Nat.le_refl _))
      clear h1 h2
      go_wp2_with (first | (go_at_call 45; ((with_reducible refine (call_b (spec_inRange_any x.b E 64 _) H1.out).mono ?_); rintro e w' ⟨rfl, rfl⟩)) | (go_at_call 45; ((with_reducible refine (call_b (spec_inRange_any x.c 1 (64 - x.b) _) H2.out).mono ?_); rintro e w' ⟨rfl, rfl⟩)))
      obtain ⟨wz, eW⟩ : ∃ v : World, v = wr.alloc (.cells #[.int .i64 x.a, .int .i64 x.b, .int .i64 x.c] 39) := ⟨_, rfl⟩
      rw [← eW]
      have BL : Hid (Blk wz wr.heap.size 39 #[.int .i64 x.a, .int .i64 x.b, .int .i64 x.c]) := Lib.hid (by rw [eW]; exact Blk.new _ _ _)
      have TZ : Hid (TS wz (some ⟨b, off, none⟩) n c xs) := Lib.hid (by rw [eW]; exact TT.out.alloc _)
      have AZ : Hid (Blk wz w.heap.size 25 #[.int .i64 s, .slice (some ⟨b, off, none⟩) n c]) := Lib.hid (by rw [eW]; exact (X0.out.on hB.out).alloc _)
      have BZ : Hid (Below W.heap.size W wz) := Lib.hid (by rw [eW]; exact hB.out.alloc hB.out.size _)
      have BY := Lib.hid (below_then B0.out (BZ.out.mono (Nat.le_refl _)))
      clear eW a0 a1 al ca cb cc BN TT
      go_loopw [6] (fun i2 w2 => ∃ m d : Nat, m ≤ k ∧ i2 = .int .i64 m ∧ w2 = wz.drewN d ∧ Hid (∀ y ∈ xs.take m, y.a ≠ x.a)) (fun i2 _ => k - (intOf i2).toNat)
      case atStart => exact ⟨0, 0, Nat.zero_le _, rfl, rfl, Lib.hid (by simp)⟩
      case round =>
        obtain ⟨m, d, hm, rfl, rfl, hN⟩ := hrel
        obtain ⟨a0, a1⟩ := AZ.out.c2
        obtain ⟨l0, l1, l2⟩ := BL.out.c3
        by_cases hlm : m < k
        · obtain ⟨b2, off2, y, e2, hy, ya, yb, yc⟩ := TZ.out.at_ (k := m) (by omega)
          simp only [Option.some.injEq, Addr.mk.injEq, and_true] at e2
          obtain ⟨rfl, rfl⟩ := e2
          have HY := Lib.hid hy
          clear hy yb yc
          have hmi : (m : Int) < (k : Int) := by omega
          have hmn : (m : Int) < (n : Int) := by omega
          by_cases hya : y.a = x.a
          · have hyb : (y.a == x.a) = true := by simp [hya]
            have HYA := Lib.hid hya
            clear hya
            go_wp2_with (fail)
            go_quiet (fail)
            go_wp2_with (fail)
            go_ret
            exact ⟨ret_bool (validA_f (validA_bad hkl.out (fun hh => (hh x HX.out).2.1 y (by
              have h5 : (xs.take k)[m]? = some y := by rw [List.getElem?_take, if_pos hlm]; exact HY.out
              exact List.mem_of_getElem? h5) HYA.out))).symm, by first | exact below_drewN BY.out _ | exact below_drewN (below_drewN BY.out _) _⟩
          · have hyb : (y.a == x.a) = false := by simp [hya]
            have HYA := Lib.hid hya
            clear hya
            go_wp2_with (fail)
            go_quiet (fail)
            go_wp2_with (fail)
            go_roundw
            case rel =>
              refine ⟨m + 1, _, by omega, by go_num, rfl, Lib.hid (fun z hz => ?_)⟩
              rw [List.take_succ_eq_append_getElem (List.getElem?_eq_some_iff.1 HY.out).1, (List.getElem?_eq_some_iff.1 HY.out).2] at hz
              rcases List.mem_append.1 hz with hz | hz
              · exact hN.out z hz
              · simp at hz; subst hz; exact HYA.out
            case measure => simp [intOf]; omega
        · have em : m = k := by omega
          subst em
          rcases h3 : inR x.a 0 99 with _ | _
          · go_wp2_with (go_at_call 45; refine (call_b (spec_inRange_any _ _ _ _) h3).mono ?_; rintro e w' ⟨rfl, rfl⟩)
            go_ret
            exact ⟨ret_bool (validA_f (validA_bad hkl.out (fun hh => by have h2 := (hh x HX.out).1; have := inR_t h2.1 h2.2; rw [h3] at this; cases this))).symm, below_drewN BY.out _⟩
          · have H3 := Lib.hid h3
            clear h3
            go_wp2_with (go_at_call 45; refine (call_b (spec_inRange_any _ _ _ _) H3.out).mono ?_; rintro e w' ⟨rfl, rfl⟩)
            go_roundw
            case rel =>
              refine ⟨m + 1, x.b + x.c, by omega, by go_num, by go_num, by omega, by omega, Lib.hid (endT_next HX.out), Lib.hid (okPre_next hP.out (fun z hz => ?_)), Lib.hid (below_drewN BZ.out _)⟩
              obtain rfl : x = z := by rw [HX.out] at hz; injection hz
              exact ⟨inR_iff.1 H3.out, hN.out, by rw [hE.out]; exact inR_iff.1 H1.out, inR_iff.1 H2.out⟩
            case measure => simp [intOf]; omega
    · have ek : k = n := by omega
      subst ek
      have e1 : xs.take k = xs := List.take_of_length_le (by have := HL.out; omega)
      have hEE : Hid (endT xs = E) := Lib.hid (by rw [← e1]; exact hE.out)
      have hPP : Hid (okPre 64 xs xs.length) := Lib.hid (by rw [HL.out]; exact hP.out)
      clear e1
      rcases Int.lt_or_le 10 (k : Int) with h10 | h10
      · have hd : decide ((k : Int) ≤ 10) = false := decide_eq_false (by omega)
        go_wp2_with (fail)
        go_ret
        exact ⟨ret_bool (by rw [validA_f (fun hv => by have := hv.2.1; have := HL.out; omega)]), BB.out⟩
      · rcases h5 : inR s E 64 with _ | _
        · go_wp2_with (go_at_call 45; refine (call_b (spec_inRange_any _ _ _ _) h5).mono ?_; rintro e w' ⟨rfl, rfl⟩)
          go_ret
          exact ⟨ret_bool (by rw [validA_f (fun hv => by have h6 := (validA_spec hPP.out).1 hv; rw [hEE.out] at h6; have := inR_t h6.2.1 h6.2.2; rw [h5] at this; cases this)]; try (first | rfl | (simp; done) | (simp; omega))), BB.out⟩
        · go_wp2_with (go_at_call 45; refine (call_b (spec_inRange_any _ _ _ _) h5).mono ?_; rintro e w' ⟨rfl, rfl⟩)
          go_ret
          exact ⟨ret_bool (by rw [validA_t ((validA_spec hPP.out).2 ⟨by have := HL.out; omega, by rw [hEE.out]; exact (inR_iff.1 h5).1, (inR_iff.1 h5).2⟩)]; try (first | rfl | (simp; done) | (simp; omega))), BB.out⟩
end Go.Proofs.Ytleoncjdhlomaaa
