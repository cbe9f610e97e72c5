/-
  Contracts of entries and queues: validity by the model.
-/
import Derived.Test.YtmlnaijpbfddaaaQuV
import Derived.IntWalk
namespace Go.Proofs.Ytmlnaijpbfddaaa
open Go.RowKit
set_option maxHeartbeats 8000000 in
theorem spec_validQueue_any {A A2 A3 : Option Addr} {n c n2 c2 n3 c3 : Nat} {xs : List Tr} {sh db : List Int} (t : Int) (w : World) (h : TS w A n c xs) (h2 : IS w A2 n2 c2 sh) (h3 : IS w A3 n3 c3 db) :
    Calls Try.prog 21 #[.agg #[.slice A n c, .slice A2 n2 c2, .slice A3 n3 c3, .int .i64 t]] w fun e w' => e = .returned (.bool (validQ xs sh db t)) ∧ Below w.heap.size w w' := by
  have hcap := h.cap
  have hl := h.len
  have hl2 := h2.len
  have hl3 := h3.len
  have hcap2 := h2.cap
  have hcap3 := h3.cap
  have HL := Lib.hid hl
  have HL2 := Lib.hid hl2
  have HL3 := Lib.hid hl3
  have H := Lib.hid (h.alloc (.cells #[.slice A n c, .slice A2 n2 c2, .slice A3 n3 c3, .int .i64 t] 26))
  have H2 := Lib.hid (h2.alloc (.cells #[.slice A n c, .slice A2 n2 c2, .slice A3 n3 c3, .int .i64 t] 26))
  have H3 := Lib.hid (h3.alloc (.cells #[.slice A n c, .slice A2 n2 c2, .slice A3 n3 c3, .int .i64 t] 26))
  have B0 := Lib.hid (below_new w (.cells #[.slice A n c, .slice A2 n2 c2, .slice A3 n3 c3, .int .i64 t] 26))
  have X0 := Lib.hid (Blk.new w 26 #[.slice A n c, .slice A2 n2 c2, .slice A3 n3 c3, .int .i64 t])
  clear h h2 h3 hl hl2 hl3
  have KN := Lib.hid (show ¬ ValidE xs → false = validQ xs sh db t from fun hv => by simp [validQ, validE_f hv])
  have KY := Lib.hid (show okEs xs xs.length → validQ xs sh db t = (decide (xs.length ≤ 10) && decide (sh.length = 3) && allR sh 1 20 && decide (db.length = 3) && allR db 0 40 && inR t 0 2) from fun hv => by
    have e : validE xs = decide (xs.length ≤ 10) := by
      rw [Bool.eq_iff_iff, validE_iff, decide_eq_true_eq]
      exact ⟨fun h => h.1, fun h => ⟨h, hv⟩⟩
    simp only [validQ, cnt, e, Bool.and_assoc])
  go_enter Try.func21, Try.ntmps21
  go_wp2_with (fail)
  generalize w.alloc (.cells #[.slice A n c, .slice A2 n2 c2, .slice A3 n3 c3, .int .i64 t] 26) = W at *
  go_loopw [3] (fun i wr => ∃ (k : Nat), k ≤ n ∧ i = .int .i64 k ∧ Hid (okEs xs k) ∧ Hid (Below W.heap.size W wr)) (fun i _ => n - (intOf i).toNat)
  case atStart => exact ⟨0, Nat.zero_le _, rfl, Lib.hid (okEs_zero _), Lib.hid (Below.refl _ _)⟩
  case round =>
    obtain ⟨k, hk, rfl, hP, hB⟩ := hrel
    have BB := Lib.hid (below_then B0.out (hB.out.mono (Nat.le_refl _)))
    obtain ⟨a0, a1, a2, a3⟩ := (X0.out.on hB.out).c4
    have al := (X0.out.on hB.out).lt
    by_cases hlt : k < n
    · obtain ⟨b, off, x, rfl, hx, ca, cb, cc⟩ := (H.out.below hB.out (Nat.le_refl _)).at_ hlt
      have HX := Lib.hid hx
      clear hx
      have BN := Lib.hid (below_then BB.out (below_new wr (.cells #[.int .i64 x.a, .int .i64 x.b, .int .i64 x.c] 28)))
      have hkl : Hid (k < xs.length) := Lib.hid (by have := HL.out; omega)
      rcases h1 : inR x.b 0 2 with _ | _
      · go_wp2_with (go_at_call 32; refine (call_b (spec_inRange_any _ _ _ _) h1).mono ?_; rintro e w' ⟨rfl, rfl⟩)
        go_ret
        exact ⟨ret_bool (KN.out (validE_bad hkl.out (fun hh => by have h2 := (hh x HX.out).2.2.1; have := inR_t h2.1 h2.2; rw [h1] at this; cases this))), BN.out⟩
      have K1 := Lib.hid h1
      clear h1
      rcases h2 : inR x.c 1 20 with _ | _
      · go_wp2_with (first | (go_at_call 32; ((with_reducible refine (call_b (spec_inRange_any x.b 0 2 _) K1.out).mono ?_); rintro e w' ⟨rfl, rfl⟩)) | (go_at_call 32; ((with_reducible refine (call_b (spec_inRange_any x.c 1 20 _) h2).mono ?_); rintro e w' ⟨rfl, rfl⟩)))
        go_ret
        exact ⟨ret_bool (KN.out (validE_bad hkl.out (fun hh => by have h3 := (hh x HX.out).2.2.2; have := inR_t h3.1 h3.2; rw [h2] at this; cases this))), BN.out⟩
      have K2 := Lib.hid h2
      clear h2
      rcases h3 : inR x.a 0 99 with _ | _
      · go_wp2_with (first | (go_at_call 32; ((with_reducible refine (call_b (spec_inRange_any x.b 0 2 _) K1.out).mono ?_); rintro e w' ⟨rfl, rfl⟩)) | (go_at_call 32; ((with_reducible refine (call_b (spec_inRange_any x.c 1 20 _) K2.out).mono ?_); rintro e w' ⟨rfl, rfl⟩)) | (go_at_call 32; ((with_reducible refine (call_b (spec_inRange_any x.a 0 99 _) h3).mono ?_); rintro e w' ⟨rfl, rfl⟩)))
        go_ret
        exact ⟨ret_bool (KN.out (validE_bad hkl.out (fun hh => by have h4 := (hh x HX.out).1; have := inR_t h4.1 h4.2; rw [h3] at this; cases this))), BN.out⟩
      have K3 := Lib.hid h3
      clear h3
      have al2 : w.heap.size < wr.heap.size := al
      have bl : b < wr.heap.size := World.block_lt_of_cell? wr _ ca
      have TT := Lib.hid (H.out.below hB.out (Nat.le_refl _))
      go_wp2_with (first | (go_at_call 32; ((with_reducible refine (call_b (spec_inRange_any x.b 0 2 _) K1.out).mono ?_); rintro e w' ⟨rfl, rfl⟩)) | (go_at_call 32; ((with_reducible refine (call_b (spec_inRange_any x.c 1 20 _) K2.out).mono ?_); rintro e w' ⟨rfl, rfl⟩)) | (go_at_call 32; ((with_reducible refine (call_b (spec_inRange_any x.a 0 99 _) K3.out).mono ?_); rintro e w' ⟨rfl, rfl⟩)))
      obtain ⟨wz, eW⟩ : ∃ v : World, v = wr.alloc (.cells #[.int .i64 x.a, .int .i64 x.b, .int .i64 x.c] 28) := ⟨_, rfl⟩
      rw [← eW]
      have BL : Hid (Blk wz wr.heap.size 28 #[.int .i64 x.a, .int .i64 x.b, .int .i64 x.c]) := Lib.hid (by rw [eW]; exact Blk.new _ _ _)
      have TZ : Hid (TS wz (some ⟨b, off, none⟩) n c xs) := Lib.hid (by rw [eW]; exact TT.out.alloc _)
      have AZ : Hid (Blk wz w.heap.size 26 #[.slice (some ⟨b, off, none⟩) n c, .slice A2 n2 c2, .slice A3 n3 c3, .int .i64 t]) := Lib.hid (by rw [eW]; exact (X0.out.on hB.out).alloc _)
      have BZ : Hid (Below W.heap.size W wz) := Lib.hid (by rw [eW]; exact hB.out.alloc hB.out.size _)
      have BY := Lib.hid (below_then B0.out (BZ.out.mono (Nat.le_refl _)))
      clear eW a0 a1 a2 a3 al ca cb cc BN TT
      go_loopw [5] (fun i2 w2 => ∃ m d : Nat, m ≤ k ∧ i2 = .int .i64 m ∧ w2 = wz.drewN d ∧ Hid (∀ y ∈ xs.take m, y.a ≠ x.a)) (fun i2 _ => k - (intOf i2).toNat)
      case atStart => exact ⟨0, 0, Nat.zero_le _, rfl, rfl, Lib.hid (by simp)⟩
      case round =>
        obtain ⟨m, d, hm, rfl, rfl, hN⟩ := hrel
        obtain ⟨a0, a1, a2, a3⟩ := AZ.out.c4
        obtain ⟨l0, l1, l2⟩ := BL.out.c3
        by_cases hlm : m < k
        · obtain ⟨b2, off2, y, e2, hy, ya, yb, yc⟩ := TZ.out.at_ (k := m) (by omega)
          simp only [Option.some.injEq, Addr.mk.injEq, and_true] at e2
          obtain ⟨rfl, rfl⟩ := e2
          have HY := Lib.hid hy
          clear hy yb yc
          have hmi : (m : Int) < (k : Int) := by omega
          have hmn : (m : Int) < (n : Int) := by omega
          by_cases hya : y.a = x.a
          · have hyb : (y.a == x.a) = true := by simp [hya]
            have HYA := Lib.hid hya
            clear hya
            go_wp2_with (fail)
            go_quiet (fail)
            go_wp2_with (fail)
            go_ret
            exact ⟨ret_bool (KN.out (validE_bad hkl.out (fun hh => (hh x HX.out).2.1 y (by
              have h5 : (xs.take k)[m]? = some y := by rw [List.getElem?_take, if_pos hlm]; exact HY.out
              exact List.mem_of_getElem? h5) HYA.out))), by first | exact below_drewN BY.out _ | exact below_drewN (below_drewN BY.out _) _⟩
          · have hyb : (y.a == x.a) = false := by simp [hya]
            have HYA := Lib.hid hya
            clear hya
            go_wp2_with (fail)
            go_quiet (fail)
            go_wp2_with (fail)
            go_roundw
            case rel =>
              refine ⟨m + 1, _, by omega, by go_num, rfl, Lib.hid (fun z hz => ?_)⟩
              rw [List.take_succ_eq_append_getElem (List.getElem?_eq_some_iff.1 HY.out).1, (List.getElem?_eq_some_iff.1 HY.out).2] at hz
              rcases List.mem_append.1 hz with hz | hz
              · exact hN.out z hz
              · simp at hz; subst hz; exact HYA.out
            case measure => simp [intOf]; omega
        · have em : m = k := by omega
          subst em
          go_wp2_with (fail)
          go_roundw
          case rel =>
            refine ⟨m + 1, by omega, by go_num, Lib.hid (okEs_next hP.out (fun z hz => ?_)), Lib.hid (below_drewN BZ.out _)⟩
            obtain rfl : x = z := by rw [HX.out] at hz; injection hz
            exact ⟨inR_iff.1 K3.out, hN.out, inR_iff.1 K1.out, inR_iff.1 K2.out⟩
          case measure => simp [intOf]; omega
    · have ek : k = n := by omega
      subst ek
      have KK := Lib.hid (KY.out (by rw [HL.out]; exact hP.out))
      have I2 := Lib.hid (H2.out.below hB.out (Nat.le_refl _))
      have I3 := Lib.hid (H3.out.below hB.out (Nat.le_refl _))
      rcases Int.lt_or_le 10 (k : Int) with h10 | h10
      · have hd : decide ((k : Int) ≤ 10) = false := decide_eq_false (by omega)
        go_wp2_with (fail)
        go_ret
        exact ⟨ret_bool (by rw [KK.out, HL.out]; simp; omega), BB.out⟩
      have hd : decide ((k : Int) ≤ 10) = true := decide_eq_true h10
      have D10 : Hid (decide (xs.length ≤ 10) = true) := Lib.hid (decide_eq_true (by rw [HL.out]; omega))
      by_cases e3 : n2 = 3
      case neg =>
        have hf : ((n2 : Int) == 3) = false := by simp; omega
        have F3 : Hid (decide (sh.length = 3) = false) := Lib.hid (decide_eq_false (by rw [HL2.out]; exact e3))
        clear e3
        go_wp2_with (fail)
        go_ret
        exact ⟨ret_bool (by rw [KK.out, F3.out]; simp), BB.out⟩
      have hf : ((n2 : Int) == 3) = true := by simp; omega
      have F3 : Hid (decide (sh.length = 3) = true) := Lib.hid (decide_eq_true (by rw [HL2.out]; exact e3))
      clear e3
      rcases g1 : allR sh 1 20 with _ | _
      · go_wp2_with (go_at_call 33; ((with_reducible refine (call_b (spec_allIn_any 1 20 _ I2.out) g1).mono ?_); rintro e w' ⟨rfl, rfl⟩))
        go_ret
        exact ⟨ret_bool (by rw [KK.out, g1]; simp), BB.out⟩
      have G1 := Lib.hid g1
      clear g1
      by_cases e4 : n3 = 3
      case neg =>
        have hf2 : ((n3 : Int) == 3) = false := by simp; omega
        have F4 : Hid (decide (db.length = 3) = false) := Lib.hid (decide_eq_false (by rw [HL3.out]; exact e4))
        clear e4
        go_wp2_with (go_at_call 33; ((with_reducible refine (call_b (spec_allIn_any 1 20 _ I2.out) G1.out).mono ?_); rintro e w' ⟨rfl, rfl⟩))
        go_ret
        exact ⟨ret_bool (by rw [KK.out, F4.out]; simp), BB.out⟩
      have hf2 : ((n3 : Int) == 3) = true := by simp; omega
      have F4 : Hid (decide (db.length = 3) = true) := Lib.hid (decide_eq_true (by rw [HL3.out]; exact e4))
      clear e4
      rcases g2 : allR db 0 40 with _ | _
      · go_wp2_with (first | (go_at_call 33; ((with_reducible refine (call_b (spec_allIn_any 1 20 _ I2.out) G1.out).mono ?_); rintro e w' ⟨rfl, rfl⟩)) | (go_at_call 33; ((with_reducible refine (call_b (spec_allIn_any 0 40 _ I3.out) g2).mono ?_); rintro e w' ⟨rfl, rfl⟩)))
        go_ret
        exact ⟨ret_bool (by rw [KK.out, g2]; simp), BB.out⟩
      have G2 := Lib.hid g2
      clear g2
      go_wp2_with (first | (go_at_call 33; ((with_reducible refine (call_b (spec_allIn_any 1 20 _ I2.out) G1.out).mono ?_); rintro e w' ⟨rfl, rfl⟩)) | (go_at_call 33; ((with_reducible refine (call_b (spec_allIn_any 0 40 _ I3.out) G2.out).mono ?_); rintro e w' ⟨rfl, rfl⟩)) | (go_at_call 32; ((with_reducible refine (spec_inRange_any t 0 2 _).mono ?_); rintro e w' ⟨rfl, rfl⟩)))
      go_ret
      exact ⟨ret_bool (by rw [KK.out, D10.out, F3.out, G1.out, F4.out, G2.out]; simp), BB.out⟩
theorem validQ_entries (xs : List Tr) : validQ xs [1, 1, 1] [0, 0, 0] 0 = validE xs := by
  have h1 : cnt [1, 1, 1] 1 20 = true := by decide
  have h2 : cnt [0, 0, 0] 0 40 = true := by decide
  have h3 : inR 0 0 2 = true := by decide
  simp [validQ, h1, h2, h3]
end Go.Proofs.Ytmlnaijpbfddaaa
