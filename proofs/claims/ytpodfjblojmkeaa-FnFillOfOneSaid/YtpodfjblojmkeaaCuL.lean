/-
  The model's functions on sizes of batches; FillOf of the program.
-/
import Derived.Test.YtpodfjblojmkeaaCuK
namespace Go.Proofs.Ytpodfjblojmkeaa
open Go.RowKit

/-- What stands at the head of each round of cut: g sizes are in the batch that is being made. -/
def CutI (bytes : Int) (M : Nat) (xs : List Int) (i g : Nat) (got : Int) (out : List Int) : Prop :=
  g ≤ i ∧ got = ((xs.drop (i - g)).take g).sum ∧ out ++ cntL (BB bytes M (xs.drop (i - g))) = cntL (BB bytes M xs) ∧ fitN bytes M (xs.drop (i - g)) = g + fitN (bytes - got) (M - g) (xs.drop i) ∧ g ≤ M
theorem cut_start (bytes : Int) (M : Nat) (xs : List Int) : CutI bytes M xs 0 0 0 [] := ⟨Nat.le_refl _, by simp, by simp, by simp, Nat.zero_le _⟩
theorem take_snoc {xs : List Int} {s g : Nat} {v : Int} (h : xs[s + g]? = some v) : ((xs.drop s).take (g + 1)).sum = ((xs.drop s).take g).sum + v := by
  have e : (xs.drop s)[g]? = some v := by rw [List.getElem?_drop]; exact h
  exact sum_snoc e
section
variable {bytes : Int} {M : Nat} {xs : List Int} {i g : Nat} {got : Int} {out : List Int} {v : Int}
/-- The next size goes into the batch. -/
theorem cut_more (h : CutI bytes M xs i g got out) (hx : xs[i]? = some v) (hg : g < M) (hf : got + v ≤ bytes) : CutI bytes M xs (i + 1) (g + 1) (got + v) out := by
  obtain ⟨h1, h2, h3, h4, h6⟩ := h
  have e : i + 1 - (g + 1) = i - g := by omega
  refine ⟨by omega, ?_, by rw [e]; exact h3, ?_, by omega⟩
  · rw [e, take_snoc (s := i - g) (g := g) (v := v) (by have e2 : i - g + g = i := by omega
                                                        rw [e2]; exact hx), h2]
  · rw [e, h4, fit_yes hx (by omega) (by omega)]
    have e2 : bytes - got - v = bytes - (got + v) := by omega
    have e3 : M - g - 1 = M - (g + 1) := by omega
    rw [e2, e3]
    omega
/-- The batch is full: its number is put behind the others, and the next size is the first one of the next batch. -/
theorem cut_full (h : CutI bytes M xs i g got out) (hx : xs[i]? = some v) (hr : allR xs 1 20 = true) (hb : 20 ≤ bytes) (hM : 1 ≤ M) (hg : g = M ∨ bytes < got + v) (hg0 : 0 < g) : CutI bytes M xs i 0 0 (out ++ [(g : Int)]) := by
  obtain ⟨h1, h2, h3, h4, h6⟩ := h
  have hN : fitN (bytes - got) (M - g) (xs.drop i) = 0 := by
    rcases hg with e | e
    · have : M - g = 0 := by omega
      rw [this]; simp [fitN]
    · exact fit_no hx (by omega)
  rw [hN, Nat.add_zero] at h4
  have hil : i < xs.length := (List.getElem?_eq_some_iff.1 hx).1
  have hne : xs.drop (i - g) ≠ [] := by
    intro e
    have e2 := congrArg List.length e
    rw [List.length_drop] at e2
    simp at e2
    omega
  have hn := BB_next hne (allR_drop hr _) hb hM
  rw [h4, List.drop_drop] at hn
  have e : i - g + g = i := by omega
  rw [e] at hn
  refine ⟨Nat.zero_le _, by simp, ?_, by simp, Nat.zero_le _⟩
  rw [hn] at h3
  rw [Nat.sub_zero, ← h3, List.append_assoc]
  congr 1
  have hl : ((xs.drop (i - g)).take g).length = g := by rw [List.length_take, List.length_drop]; omega
  simp [cntL, hl]
theorem cut_end (h : CutI bytes M xs i g got out) (hi : i = xs.length) (hr : allR xs 1 20 = true) (hb : 20 ≤ bytes) (hM : 1 ≤ M) : (0 < g → out ++ [(g : Int)] = cntL (BB bytes M xs)) ∧ (g = 0 → out = cntL (BB bytes M xs)) := by
  obtain ⟨h1, h2, h3, h4, h6⟩ := h
  constructor
  · intro hg
    have hne : xs.drop (i - g) ≠ [] := by
      intro e
      have e2 := congrArg List.length e
      rw [List.length_drop] at e2
      simp at e2
      omega
    have hn := BB_next hne (allR_drop hr _) hb hM
    have hd : xs.drop i = [] := List.drop_of_length_le (by omega)
    rw [h4, hd, fit_nil, Nat.add_zero, List.drop_drop] at hn
    have e : i - g + g = i := by omega
    rw [e, hd, BB_nil] at hn
    rw [← h3, hn]
    have hl : ((xs.drop (i - g)).take g).length = g := by rw [List.length_take, List.length_drop]; omega
    simp [cntL, hl]
  · intro hg
    subst hg
    have hd : xs.drop i = [] := List.drop_of_length_le (by omega)
    rw [Nat.sub_zero, hd, BB_nil] at h3
    simpa [cntL] using h3
end

set_option maxHeartbeats 8000000 in
theorem spec_cut_any {A : Option Addr} {n c : Nat} {xs : List Int} (bytes : Int) (M : Nat) (w : World) (h : IS w A n c xs) (hr : allR xs 1 20 = true) (h12 : n ≤ 12) (hb0 : 20 ≤ bytes) (hb1 : bytes ≤ 200) (hM1 : 1 ≤ M) (hM12 : M ≤ 12) :
    Calls Try.prog 36 #[.slice A n c, .int .i64 bytes, .int .i64 (M : Int)] w (GaveInts 3 w (cntL (BB bytes M xs))) := by
  have HL := Lib.hid h.len
  have H := Lib.hid h
  have HR := Lib.hid hr
  have hO : OW (w.alloc (.cells #[] 3)) 3 w.heap.size (some ⟨w.heap.size, 0, none⟩) 0 0 [] := by simpa using OW.lit w 3 w.heap.size [] (Nat.le_refl _) (by simp)
  have O0 := Lib.hid hO
  have B0 := Lib.hid (below_new w (.cells #[] 3))
  have C0 := Lib.hid (cut_start bytes M xs)
  clear h hr hO
  go_enter Try.func36, Try.ntmps36
  go_wp2_with (fail)
  go_loopw [7, 8, 9, 10] (fun l gv tv iv wr => ∃ (i g : Nat) (got : Int) (out : List Int) (A1 : Option Addr) (n1 c1 : Nat), i ≤ n ∧ n1 + g ≤ i ∧ g ≤ M ∧ 0 ≤ got ∧ got ≤ 20 * g ∧ (0 < i → 0 < g) ∧ iv = .int .i64 (i : Int) ∧ gv = .int .i64 (g : Int) ∧ tv = .int .i64 got ∧ l = .slice A1 n1 c1 ∧ Hid (CutI bytes M xs i g got out) ∧ Hid (OW wr 3 w.heap.size A1 n1 c1 out) ∧ Hid (Below w.heap.size w wr)) (fun _ _ _ i _ => n - (intOf i).toNat)
  case atStart => exact ⟨0, 0, 0, [], _, 0, 0, Nat.zero_le _, Nat.le_refl _, Nat.zero_le _, by omega, by omega, fun h => h, rfl, rfl, rfl, rfl, C0, O0, B0⟩
  case round =>
    obtain ⟨i, g, got, out, A1, n1, c1, hi, hng, hgM, ht0, ht1, hig, rfl, rfl, rfl, rfl, hC, ho, hb⟩ := hrel
    clear C0 O0 B0
    have hsz := hb.out.size
    by_cases hlt : i < n
    · have hlt' : (i : Int) < (n : Int) := by omega
      obtain ⟨b, off, v, rfl, hx, hc⟩ := (H.out.below hb.out (Nat.le_refl _)).at_ hlt
      obtain ⟨v0, v1⟩ := allR_at hx HR.out
      have HX := Lib.hid hx
      clear hx
      have zi : (0 : Int) ≤ (i : Int) := by omega
      have hwa : IntKind.i64.wrap (got + v) = got + v := by rw [IntKind.wrap_i64]; omega
      have O7 := Lib.hid (ho.out.alloc (.cells #[.int .i64 (g : Int)] 3))
      have SV : Hid (IS (wr.alloc (.cells #[.int .i64 (g : Int)] 3)) (some ⟨wr.heap.size, 0, none⟩) 1 1 [(g : Int)]) := Lib.hid (by simpa using (OW.lit wr 3 0 [(g : Int)] (by simp) (by simp)).is)
      have B7 := Lib.hid (hb.out.alloc hsz (.cells #[.int .i64 (g : Int)] 3))
      rcases Nat.eq_zero_or_pos g with hg0 | hg0
      · subst hg0
        have hC2 := Lib.hid (cut_more hC.out HX.out (by omega) (by
          have h2 := hC.out.2.1
          simp at h2
          omega))
        go_wp2_with (fail)
        go_roundw
        case rel => exact ⟨i + 1, 1, got + v, out, A1, n1, c1, by omega, by omega, by omega, by omega, by omega, fun _ => Nat.one_pos, by go_num, by first | rfl | go_num, by go_num, rfl, hC2, ho, hb⟩
        case measure => simp [intOf]; omega
      have hg0' : (0 : Int) < (g : Int) := by omega
      have hgn : ¬ g = 0 := by omega
      rcases Nat.lt_or_ge g M with hM | hM
      · have hgm : ((g : Int) == (M : Int)) = false := by simp; omega
        have hgm2 : (g == M) = false := by simp; omega
        rcases Int.lt_or_le bytes (got + v) with hf | hf
        · have hf' : bytes < got + v := hf
          skip
          have hC1 := cut_full hC.out HX.out HR.out hb0 hM1 (.inr hf) hg0
          have hC2 := Lib.hid (cut_more hC1 HX.out (by omega) (by omega))
          have HCA : Hid (∀ w', Below w.heap.size w w' → w'.cell? ⟨b, off + i, none⟩ = some (.int .i64 v)) := Lib.hid fun w' hbw => by
            obtain ⟨b', off', v', e', hx3, hc3⟩ := (H.out.below hbw (Nat.le_refl _)).at_ hlt
            simp only [Option.some.injEq, Addr.mk.injEq, and_true] at e'
            obtain ⟨rfl, rfl⟩ := e'
            rw [HX.out] at hx3
            cases hx3
            exact hc3
          go_wp2_with (at_builtin; go_must (refine wpList_append_is _ rfl (.tmp 35) (.tmp 37) _ rfl w.heap.size 3 infoInt Try.underlying23 _ _ _ _ rfl O7.out _ _ _ _ rfl SV.out (by omega) (by simp; omega) ?_); intro A8 c8 w8 hown8 hg8; have O8 := Lib.hid hown8; have B8 := Lib.hid (O7.out.below_grown hg8 B7.out (Nat.le_refl _) (by simp; omega)); clear hown8 hg8; have hc8 := HCA.out _ B8.out)
          go_roundw
          case rel => exact ⟨i + 1, 1, v, out ++ [(g : Int)], A8, n1 + 1, c8, by omega, by omega, by omega, by omega, by omega, fun _ => Nat.one_pos, by go_num, by first | rfl | go_num, by first | rfl | go_num, rfl, by simpa using hC2, O8, B8⟩
          case measure => simp [intOf]; omega
        · have hf' : ¬ bytes < got + v := by omega
          have hC2 := Lib.hid (cut_more hC.out HX.out hM hf)
          go_wp2_with (fail)
          go_roundw
          case rel => exact ⟨i + 1, g + 1, got + v, out, A1, n1, c1, by omega, by omega, by omega, by omega, by omega, fun _ => Nat.succ_pos _, by go_num, by go_num, by go_num, rfl, hC2, ho, hb⟩
          case measure => simp [intOf]; omega
      · have hgm : ((g : Int) == (M : Int)) = true := by simp; omega
        have hgm2 : (g == M) = true := by simp; omega
        skip
        have hC1 := cut_full hC.out HX.out HR.out hb0 hM1 (.inl (by omega)) hg0
        have hC2 := Lib.hid (cut_more hC1 HX.out (by omega) (by omega))
        have HCA : Hid (∀ w', Below w.heap.size w w' → w'.cell? ⟨b, off + i, none⟩ = some (.int .i64 v)) := Lib.hid fun w' hbw => by
          obtain ⟨b', off', v', e', hx3, hc3⟩ := (H.out.below hbw (Nat.le_refl _)).at_ hlt
          simp only [Option.some.injEq, Addr.mk.injEq, and_true] at e'
          obtain ⟨rfl, rfl⟩ := e'
          rw [HX.out] at hx3
          cases hx3
          exact hc3
        go_wp2_with (at_builtin; go_must (refine wpList_append_is _ rfl (.tmp 35) (.tmp 37) _ rfl w.heap.size 3 infoInt Try.underlying23 _ _ _ _ rfl O7.out _ _ _ _ rfl SV.out (by omega) (by simp; omega) ?_); intro A8 c8 w8 hown8 hg8; have O8 := Lib.hid hown8; have B8 := Lib.hid (O7.out.below_grown hg8 B7.out (Nat.le_refl _) (by simp; omega)); clear hown8 hg8; have hc8 := HCA.out _ B8.out)
        go_roundw
        case rel => exact ⟨i + 1, 1, v, out ++ [(g : Int)], A8, n1 + 1, c8, by omega, by omega, by omega, by omega, by omega, fun _ => Nat.one_pos, by go_num, by first | rfl | go_num, by first | rfl | go_num, rfl, by simpa using hC2, O8, B8⟩
        case measure => simp [intOf]; omega
    · have hlt' : ¬ (i : Int) < (n : Int) := by omega
      obtain rfl : i = n := by omega
      obtain ⟨e1, e2⟩ := cut_end hC.out HL.out.symm HR.out hb0 hM1
      rcases Nat.eq_zero_or_pos g with hg0 | hg0
      · have E := Lib.hid (e2 hg0)
        subst hg0
        clear e1 e2
        go_wp2_with (fail)
        go_ret
        exact ⟨_, _, _, rfl, by rw [← E.out]; exact ho.out, hb.out⟩
      · have E := Lib.hid (e1 hg0)
        have hg0' : (0 : Int) < (g : Int) := by omega
        clear e1 e2
        have O7 := Lib.hid (ho.out.alloc (.cells #[.int .i64 (g : Int)] 3))
        have SV : Hid (IS (wr.alloc (.cells #[.int .i64 (g : Int)] 3)) (some ⟨wr.heap.size, 0, none⟩) 1 1 [(g : Int)]) := Lib.hid (by simpa using (OW.lit wr 3 0 [(g : Int)] (by simp) (by simp)).is)
        have B7 := Lib.hid (hb.out.alloc hsz (.cells #[.int .i64 (g : Int)] 3))
        go_wp2_with (at_builtin; go_must (refine wpList_append_is _ rfl (.tmp 49) (.tmp 51) _ rfl w.heap.size 3 infoInt Try.underlying23 _ _ _ _ rfl O7.out _ _ _ _ rfl SV.out (by omega) (by simp; omega) ?_); intro A8 c8 w8 hown8 hg8; have O8 := Lib.hid hown8; have B8 := Lib.hid (O7.out.below_grown hg8 B7.out (Nat.le_refl _) (by simp; omega)); clear hown8 hg8)
        go_ret
        exact ⟨_, _, _, rfl, by rw [← E.out]; exact O8.out, B8.out⟩
theorem spec_CutBatches_any {A : Option Addr} {n c : Nat} {xs : List Int} (bytes many : Int) (w : World) (h : IS w A n c xs) :
    Calls Try.prog 18 #[.slice A n c, .int .i64 bytes, .int .i64 many] w (GaveInts 3 w (cbV xs bytes many)) := by
  have HL := Lib.hid h.len
  have H := Lib.hid h
  clear h
  rcases hok : cutOK xs bytes many with _ | _
  · go_enter Try.func18, Try.ntmps18
    go_wp2_with (go_at_call 35; refine (call_b (spec_validSizes_any _ _ _ H.out) hok).mono ?_; rintro e w' ⟨rfl, rfl⟩)
    go_ret
    exact ⟨_, _, _, rfl, by rw [cbV_no hok]; exact OW.none _ _ _, Below.refl _ _⟩
  obtain ⟨h12, hr, hb, hm⟩ := cut_in hok
  obtain ⟨hb0, hb1⟩ := inR_iff.1 hb
  obtain ⟨hm0, hm1⟩ := inR_iff.1 hm
  obtain ⟨M, rfl⟩ := Int.eq_ofNat_of_zero_le (show 0 ≤ many by omega)
  have HE : Hid (cntL (BB bytes M xs) = cbV xs bytes (M : Int)) := Lib.hid (by simp [cbV, bbV, hok])
  have HOK := Lib.hid hok
  have HC := Lib.hid (spec_cut_any bytes M w H.out hr (by have := HL.out; omega) hb0 hb1 (by omega) (by omega))
  clear hok h12 hr hb hm
  go_enter Try.func18, Try.ntmps18
  go_wp2_with (first | (go_at_call 35; refine (call_b (spec_validSizes_any _ _ _ H.out) HOK.out).mono ?_; rintro e w' ⟨rfl, rfl⟩) | (go_at_call 36; refine HC.out.mono ?_; rintro e w2 ⟨A2, n2, c2, rfl, ho, hb2⟩; have O2 := Lib.hid ho; have B2 := Lib.hid hb2; clear ho hb2))
  go_ret
  exact ⟨_, _, _, rfl, by rw [← HE.out]; exact O2.out, B2.out⟩
end Go.Proofs.Ytpodfjblojmkeaa
