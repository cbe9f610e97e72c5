/-
  Contracts of entries and queues: validity by the program.
-/
import Derived.Test.YtmlnaijpbfddaaaArI
import Derived.Test.YtmlnaijpbfddaaaQuM
namespace Go.Proofs.Ytmlnaijpbfddaaa
open Go.RowKit
set_option maxHeartbeats 4000000 in
theorem impl_validList_any {A : Option Addr} {n c : Nat} {xs : List Tr} (w : World) (h : TS w A n c xs) :
    Calls Try.prog 29 #[.slice A n c] w fun e w' => e = .returned (.bool (validE xs)) ∧ Below w.heap.size w w' := by
  have hcap := h.cap
  have hl := h.len
  have HL := Lib.hid hl
  have H := Lib.hid h
  have BLT : Hid (0 < n → Lt A w.heap.size) := Lib.hid (fun hn p hp => by
    obtain ⟨b, off, x, e, _, hc, _⟩ := h.at_ hn
    rw [e] at hp
    cases hp
    exact World.block_lt_of_cell? w _ hc)
  clear h hl
  rcases Int.lt_or_le 10 (n : Int) with h10 | h10
  · have hd : decide (10 < (n : Int)) = true := decide_eq_true h10
    go_enter Try.func29, Try.ntmps29
    go_wp2_with (fail)
    go_ret
    exact ⟨ret_bool (validE_f (fun hv => by have := hv.1; have := HL.out; omega)).symm, Below.refl _ _⟩
  have hd : decide (10 < (n : Int)) = false := decide_eq_false (by omega)
  obtain ⟨zs, hzs, hzr⟩ : ∃ zs : Array Value, zs = Array.replicate 100 (.bool false) ∧ ∀ W, (zeroValue 57).run Try.prog W = .ok (.agg zs) W := ⟨_, rfl, fun W => by kernel_rfl⟩
  have hne : ¬ zs = #[] := by rw [hzs]; simp
  have NN : Hid (Named (w.alloc (.cells zs 57)) 57 w.heap.size xs 0) := Lib.hid (by rw [hzs]; exact Named.new w 57 xs)
  have HZ := Lib.hid hzs
  have BN := Lib.hid (below_new w (.cells zs 57))
  have TN := Lib.hid (H.out.alloc (.cells zs 57))
  clear hzs
  go_enter Try.func29, Try.ntmps29
  go_wp2_with (fail)
  obtain ⟨wz, eW⟩ : ∃ v : World, v = w.alloc (.cells zs 57) := ⟨_, rfl⟩
  rw [← eW] at NN BN TN ⊢
  clear eW hzr hne HZ H
  go_loopw [11] (fun i wr => ∃ (k : Nat), k ≤ n ∧ i = .int .i64 k ∧ Hid (okEs xs k) ∧ Hid (Below w.heap.size w wr ∧ TS wr A n c xs ∧ Named wr 57 w.heap.size xs k)) (fun i _ => n - (intOf i).toNat)
  case atStart => exact ⟨0, Nat.zero_le _, rfl, Lib.hid (okEs_zero _), Lib.hid ⟨BN.out, TN.out, NN.out⟩⟩
  case round =>
    obtain ⟨k, hk, rfl, hP, HH⟩ := hrel
    clear BN TN NN
    obtain ⟨bx, t0, n0⟩ := HH.out
    have B := Lib.hid bx
    have TT := Lib.hid t0
    have N := Lib.hid n0
    have nl := n0.lt
    clear bx t0 n0 HH
    by_cases hlt : k < n
    · obtain ⟨b, off, x, rfl, hx, ca, cb, cc⟩ := TT.out.at_ hlt
      have HX := Lib.hid hx
      clear hx
      have hkl : Hid (k < xs.length) := Lib.hid (by have := HL.out; omega)
      have hki : (k : Int) < (n : Int) := by omega
      have bl : b < wr.heap.size := World.block_lt_of_cell? wr _ ca
      have B1 := Lib.hid (B.out.alloc B.out.size (.cells #[.int .i64 x.a, .int .i64 x.b, .int .i64 x.c] 28))
      rcases h1 : inR x.a 0 99 with _ | _
      · go_wp2_with (go_at_call 36; refine (call_b (impl_within_any _ _ _ _) h1).mono ?_; rintro e w' ⟨rfl, rfl⟩)
        go_ret
        exact ⟨ret_bool (validE_f (validE_bad hkl.out (fun hh => by have h2 := (hh x HX.out).1; have := inR_t h2.1 h2.2; rw [h1] at this; cases this))).symm, B1.out⟩
      obtain ⟨v0, v1⟩ := inR_iff.1 h1
      obtain ⟨v, hv⟩ := Int.eq_ofNat_of_zero_le v0
      have hv100 : v < 100 := by omega
      obtain ⟨nc, nf⟩ := N.out.at_ hv100
      have HV := Lib.hid hv
      have K1 := Lib.hid h1
      clear h1
      rw [hv] at v0 v1 ca K1
      obtain ⟨xa, hxa⟩ : ∃ y : Int, y = (v : Int) := ⟨_, rfl⟩
      rcases hsn : seen xs k v with _ | _
      case true =>
        rw [hsn] at nc
        rw [HV.out] at B1
        go_wp2_with (go_at_call 36; refine (call_b (impl_within_any _ _ _ _) K1.out).mono ?_; rintro e w' ⟨rfl, rfl⟩)
        go_ret
        exact ⟨ret_bool (validE_f (validE_bad hkl.out (fun hh => seen_t hsn HV.out (hh x HX.out).2.1))).symm, B1.out⟩
      rw [hsn] at nc
      rw [HV.out] at B1
      have SF := Lib.hid (seen_f hsn HV.out)
      clear hsn
      rcases h2 : inR x.b 0 2 with _ | _
      · go_wp2_with (first | (go_at_call 36; ((with_reducible refine (call_b (impl_within_any (v : Int) 0 99 _) K1.out).mono ?_); rintro e w' ⟨rfl, rfl⟩)) | (go_at_call 31; ((with_reducible refine (call_b (impl_validClass_any x.b _) h2).mono ?_); rintro e w' ⟨rfl, rfl⟩)))
        go_ret
        exact ⟨ret_bool (validE_f (validE_bad hkl.out (fun hh => by have h3 := (hh x HX.out).2.2.1; have := inR_t h3.1 h3.2; rw [h2] at this; cases this))).symm, B1.out⟩
      have K2 := Lib.hid h2
      clear h2
      rcases h3 : inR x.c 1 20 with _ | _
      · go_wp2_with (first | (go_at_call 36; ((with_reducible refine (call_b (impl_within_any (v : Int) 0 99 _) K1.out).mono ?_); rintro e w' ⟨rfl, rfl⟩)) | (go_at_call 31; ((with_reducible refine (call_b (impl_validClass_any x.b _) K2.out).mono ?_); rintro e w' ⟨rfl, rfl⟩)) | (go_at_call 36; ((with_reducible refine (call_b (impl_within_any x.c 1 20 _) h3).mono ?_); rintro e w' ⟨rfl, rfl⟩)))
        go_ret
        exact ⟨ret_bool (validE_f (validE_bad hkl.out (fun hh => by have h4 := (hh x HX.out).2.2.2; have := inR_t h4.1 h4.2; rw [h3] at this; cases this))).symm, B1.out⟩
      have K3 := Lib.hid h3
      clear h3
      have n0 := HV.out
      have BX := Lib.hid ((B.out.setCell (p := ⟨w.heap.size, v, none⟩) (by show w.heap.size ≤ w.heap.size; omega) (.bool true)).alloc (by simpa [World.setCell] using B.out.size) (.cells #[.int .i64 (v : Int), .int .i64 x.b, .int .i64 x.c] 28))
      clear n0
      go_wp2_with (first | (go_at_call 36; ((with_reducible refine (call_b (impl_within_any (v : Int) 0 99 _) K1.out).mono ?_); rintro e w' ⟨rfl, rfl⟩)) | (go_at_call 31; ((with_reducible refine (call_b (impl_validClass_any x.b _) K2.out).mono ?_); rintro e w' ⟨rfl, rfl⟩)) | (go_at_call 36; ((with_reducible refine (call_b (impl_within_any x.c 1 20 _) K3.out).mono ?_); rintro e w' ⟨rfl, rfl⟩)))
      go_roundw
      case rel =>
        have hbw : b < w.heap.size := BLT.out (by omega) _ rfl
        refine ⟨k + 1, by omega, by go_num, Lib.hid (okEs_next hP.out (fun z hz => ?_)), Lib.hid ⟨BX.out, (TT.out.setCell (p := ⟨w.heap.size, v, none⟩) (fun p q hp hq => by cases hp; cases hq; show w.heap.size ≠ b; omega) _).alloc _, (N.out.next HX.out HV.out hv100).on (below_new _ _)⟩⟩
        obtain rfl : x = z := by rw [HX.out] at hz; injection hz
        exact ⟨by have := inR_iff.1 K1.out; have := HV.out; omega, SF.out, inR_iff.1 K2.out, inR_iff.1 K3.out⟩
      case measure => simp [intOf]; omega
    · have ek : k = n := by omega
      subst ek
      go_wp2_with (fail)
      go_ret
      exact ⟨ret_bool (validE_t ⟨by have := HL.out; omega, by rw [HL.out]; exact hP.out⟩).symm, B.out⟩
theorem Blk.c4 {w : World} {g : Nat} {t : TypeId} {a b c d : Value} (h : Blk w g t #[a, b, c, d]) : w.cell? ⟨g, 0, none⟩ = some a ∧ w.cell? ⟨g, 1, none⟩ = some b ∧ w.cell? ⟨g, 2, none⟩ = some c ∧ w.cell? ⟨g, 3, none⟩ = some d := ⟨h.cell 0, h.cell 1, h.cell 2, h.cell 3⟩
set_option maxHeartbeats 2000000 in
theorem impl_ValidQueue_any {A A2 A3 : Option Addr} {n c n2 c2 n3 c3 : Nat} {xs : List Tr} {sh db : List Int} (t : Int) (w : World) (h : TS w A n c xs) (h2 : IS w A2 n2 c2 sh) (h3 : IS w A3 n3 c3 db) :
    Calls Try.prog 20 #[.agg #[.slice A n c, .slice A2 n2 c2, .slice A3 n3 c3, .int .i64 t]] w fun e w' => e = .returned (.bool (validQ xs sh db t)) ∧ Below w.heap.size w w' := by
  have H := Lib.hid (h.alloc (.cells #[.slice A n c, .slice A2 n2 c2, .slice A3 n3 c3, .int .i64 t] 26))
  have H2 := Lib.hid (h2.alloc (.cells #[.slice A n c, .slice A2 n2 c2, .slice A3 n3 c3, .int .i64 t] 26))
  have H3 := Lib.hid (h3.alloc (.cells #[.slice A n c, .slice A2 n2 c2, .slice A3 n3 c3, .int .i64 t] 26))
  have B0 := Lib.hid (below_new w (.cells #[.slice A n c, .slice A2 n2 c2, .slice A3 n3 c3, .int .i64 t] 26))
  have X0 := Lib.hid (Blk.new w 26 #[.slice A n c, .slice A2 n2 c2, .slice A3 n3 c3, .int .i64 t])
  clear h h2 h3
  have KE := Lib.hid (show ∀ b, b = validE xs → validQ xs sh db t = (b && cnt sh 1 20 && cnt db 0 40 && inR t 0 2) from fun b hb => by rw [hb]; rfl)
  rcases hv : validE xs with _ | _
  · have KV := Lib.hid (KE.out false hv.symm)
    clear KE
    go_enter Try.func20, Try.ntmps20
    go_wp2_with (fail)
    refine (call_b (impl_validList_any _ H.out) hv).mono ?_
    rintro e w1 ⟨rfl, hb⟩
    have BB := Lib.hid (below_then B0.out hb)
    clear hb
    go_wp2_with (fail)
    go_ret
    exact ⟨ret_bool (by rw [KV.out]; rfl), BB.out⟩
  have KV := Lib.hid (KE.out true hv.symm)
  have HV := Lib.hid hv
  clear KE hv
  rcases h1 : cnt sh 1 20 with _ | _
  · go_enter Try.func20, Try.ntmps20
    go_wp2_with (fail)
    refine (call_b (impl_validList_any _ H.out) HV.out).mono ?_
    rintro e w1 ⟨rfl, hb⟩
    have X1 := Lib.hid (X0.out.on hb)
    have BB := Lib.hid (below_then B0.out hb)
    have I2 := Lib.hid (H2.out.below hb (Nat.le_refl _))
    clear hb
    obtain ⟨k0, k1, k2, k3⟩ := X1.out.c4
    have kl := X1.out.lt
    go_wp2_with (go_at_call 30; ((with_reducible refine (call_b (impl_validCounters_any 1 20 _ I2.out) h1).mono ?_); rintro e w' ⟨rfl, rfl⟩))
    go_ret
    exact ⟨ret_bool (by rw [KV.out, h1]; rfl), BB.out⟩
  have H1 := Lib.hid h1
  clear h1
  rcases h2 : cnt db 0 40 with _ | _
  · go_enter Try.func20, Try.ntmps20
    go_wp2_with (fail)
    refine (call_b (impl_validList_any _ H.out) HV.out).mono ?_
    rintro e w1 ⟨rfl, hb⟩
    have X1 := Lib.hid (X0.out.on hb)
    have BB := Lib.hid (below_then B0.out hb)
    have I2 := Lib.hid (H2.out.below hb (Nat.le_refl _))
    have I3 := Lib.hid (H3.out.below hb (Nat.le_refl _))
    clear hb
    obtain ⟨k0, k1, k2, k3⟩ := X1.out.c4
    have kl := X1.out.lt
    go_wp2_with (first | (go_at_call 30; ((with_reducible refine (call_b (impl_validCounters_any 1 20 _ I2.out) H1.out).mono ?_); rintro e w' ⟨rfl, rfl⟩)) | (go_at_call 30; ((with_reducible refine (call_b (impl_validCounters_any 0 40 _ I3.out) h2).mono ?_); rintro e w' ⟨rfl, rfl⟩)))
    go_ret
    exact ⟨ret_bool (by rw [KV.out, H1.out, h2]; rfl), BB.out⟩
  have H4 := Lib.hid h2
  clear h2
  go_enter Try.func20, Try.ntmps20
  go_wp2_with (fail)
  refine (call_b (impl_validList_any _ H.out) HV.out).mono ?_
  rintro e w1 ⟨rfl, hb⟩
  have X1 := Lib.hid (X0.out.on hb)
  have BB := Lib.hid (below_then B0.out hb)
  have I2 := Lib.hid (H2.out.below hb (Nat.le_refl _))
  have I3 := Lib.hid (H3.out.below hb (Nat.le_refl _))
  clear hb
  obtain ⟨k0, k1, k2, k3⟩ := X1.out.c4
  have kl := X1.out.lt
  go_wp2_with (first | (go_at_call 30; ((with_reducible refine (call_b (impl_validCounters_any 1 20 _ I2.out) H1.out).mono ?_); rintro e w' ⟨rfl, rfl⟩)) | (go_at_call 30; ((with_reducible refine (call_b (impl_validCounters_any 0 40 _ I3.out) H4.out).mono ?_); rintro e w' ⟨rfl, rfl⟩)) | (go_at_call 31; ((with_reducible refine (impl_validClass_any t _).mono ?_); rintro e w' ⟨rfl, rfl⟩)))
  go_ret
  exact ⟨ret_bool (by rw [KV.out, H1.out, H4.out]; simp), BB.out⟩
end Go.Proofs.Ytmlnaijpbfddaaa
