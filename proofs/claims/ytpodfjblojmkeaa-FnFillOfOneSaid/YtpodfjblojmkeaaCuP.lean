/-
  Mathematics of the laws on sizes of batches; the laws' sum.
-/
import Derived.Test.YtpodfjblojmkeaaCuO
namespace Go.Proofs.Ytpodfjblojmkeaa
open Go.RowKit

set_option maxHeartbeats 400000 in
theorem laws_sum_any {A : Option Addr} {n c : Nat} {xs : List Int} (w : World) (h : IS w A n c xs) (hr : allR xs 0 1000 = true) (hn : n ≤ 1000000) :
    Calls Try.prog 19 #[.slice A n c] w fun e w' => e = .returned (.int .i64 xs.sum) ∧ w = w' := by
  have H := Lib.hid h
  clear h
  have HR := Lib.hid hr
  clear hr
  go_enter Try.func19, Try.ntmps19
  go_wp2_with (fail)
  go_loop [3, 4] (fun t i => ∃ k : Nat, ∃ m : Int, k ≤ n ∧ 0 ≤ m ∧ m ≤ 1000 * (k : Int) ∧ i = .int .i64 k ∧ t = .int .i64 m ∧ Hid ((xs.take k).sum = m)) (fun _ i => n - (intOf i).toNat)
  case atStart => exact ⟨0, 0, Nat.zero_le _, by omega, by omega, rfl, rfl, Lib.hid (by simp)⟩
  case round =>
    obtain ⟨k, m, hk, hm0, hm1, rfl, rfl, ha⟩ := hrel
    by_cases hlt : k < n
    · obtain ⟨b, off, v, rfl, hx, hc⟩ := H.out.at_ hlt
      obtain ⟨hv0, hv1⟩ := allR_at hx HR.out
      have HX := Lib.hid hx
      clear hx
      go_wp2_with (fail)
      go_round
      case rel => exact ⟨k + 1, m + v, by omega, by omega, by omega, by go_num, by go_num, Lib.hid (by rw [sum_snoc HX.out, ha.out])⟩
      case measure => simp [intOf]; omega
    · go_wp2_with (fail)
      go_ret
      have ht := ha.out
      rw [List.take_of_length_le (by have := H.out.len; omega)] at ht
      exact ⟨ret_int ht.symm, rfl⟩
theorem allR_cons' {x : Int} {l : List Int} {lo hi : Int} (h : allR (x :: l) lo hi = true) : (lo ≤ x ∧ x ≤ hi) ∧ allR l lo hi = true := by
  unfold allR at *
  simp at h
  exact ⟨inR_iff.1 h.1, by rw [List.all_eq_true]; exact h.2⟩
theorem at_bd {xs : List Int} {lo hi : Int} (h : allR xs lo hi = true) {k : Nat} (hk : k < xs.length) : lo ≤ xs.getD k 0 ∧ xs.getD k 0 ≤ hi :=
  allR_at (k := k) (by rw [List.getElem?_eq_getElem hk, List.getD_eq_getElem?_getD, List.getElem?_eq_getElem hk]; rfl) h
theorem fit_sum : ∀ (m : Nat) (left : Int) (xs : List Int), 0 ≤ left → (xs.take (fitN left m xs)).sum ≤ left
  | 0, left, _, h => by simpa [fitN] using h
  | _ + 1, left, [], h => by simpa [fitN] using h
  | m + 1, left, x :: l, h => by
    simp only [fitN]
    split
    · have := fit_sum m (left - x) l (by omega)
      rw [List.take_succ_cons, List.sum_cons]
      omega
    · simpa using h
theorem fit_stop : ∀ (m : Nat) (left : Int) (xs : List Int), fitN left m xs < m → fitN left m xs < xs.length → left < (xs.take (fitN left m xs)).sum + xs.getD (fitN left m xs) 0
  | 0, _, _, h, _ => by omega
  | _ + 1, _, [], _, h => by simp at h
  | m + 1, left, x :: l, h1, h2 => by
    simp only [fitN] at h1 h2 ⊢
    split at h1
    · rename_i hx
      rw [if_pos hx] at h2 ⊢
      simp only [List.length_cons] at h2
      have := fit_stop m (left - x) l (by omega) (by omega)
      rw [List.take_succ_cons, List.sum_cons, List.getD_cons_succ]
      omega
    · rename_i hx
      rw [if_neg hx]
      simp
      omega
theorem fit_mono : ∀ (m m' : Nat) (b b' : Int) (xs : List Int), b ≤ b' → m ≤ m' → fitN b m xs ≤ fitN b' m' xs
  | 0, _, _, _, _, _, _ => by simp [fitN]
  | m + 1, 0, _, _, _, _, h => by omega
  | _ + 1, _ + 1, _, _, [], _, _ => by simp [fitN]
  | m + 1, m' + 1, b, b', x :: l, h1, h2 => by
    have := fit_mono m m' (b - x) (b' - x) l (by omega) (by omega)
    simp only [fitN]
    split
    · rw [if_pos (by omega)]; omega
    · omega
theorem fit_ahead {m : Nat} {b b' : Int} (hb : b ≤ b') : ∀ (d : Nat) (xs : List Int), allR xs 1 20 = true → fitN b m xs ≤ d + fitN b' m (xs.drop d)
  | 0, xs, _ => by rw [Nat.zero_add, List.drop_zero]; exact fit_mono m m b b' xs hb (Nat.le_refl _)
  | d + 1, [], _ => by simp [fit_nil]
  | d + 1, x :: l, h => by
    obtain ⟨hx, hl⟩ := allR_cons' h
    have h2 := fit_ahead (m := m) hb d l hl
    rw [List.drop_succ_cons]
    cases m with
    | zero => simp [fitN]
    | succ m =>
      have h3 := fit_mono m (m + 1) (b - x) b l (by omega) (by omega)
      simp only [fitN]
      split
      · omega
      · omega
theorem BB_more {M : Nat} {b b' : Int} (hb0 : 20 ≤ b) (hb : b ≤ b') (hM : 1 ≤ M) : ∀ (n : Nat) (ys : List Int) (d : Nat), ys.length ≤ n → allR ys 1 20 = true → (BB b' M (ys.drop d)).length ≤ (BB b M ys).length
  | 0, ys, d, h, _ => by
    obtain rfl : ys = [] := List.eq_nil_of_length_eq_zero (by omega)
    simp [BB_nil]
  | n + 1, ys, d, h, hr => by
    by_cases e : ys.drop d = []
    · rw [e, BB_nil]; simp
    · have h0 : ys ≠ [] := by rintro rfl; simp at e
      have hp := fit_pos h0 hr hb0 hM
      have ha := fit_ahead (m := M) hb d ys hr
      rw [BB_next h0 hr hb0 hM, BB_next e (allR_drop hr d) (by omega) hM, List.length_cons, List.length_cons]
      have ih := BB_more hb0 hb hM n (ys.drop (fitN b M ys)) (d + fitN b' M (ys.drop d) - fitN b M ys) (by rw [List.length_drop]; omega) (allR_drop hr _)
      rw [List.drop_drop] at ih ⊢
      have e2 : fitN b M ys + (d + fitN b' M (ys.drop d) - fitN b M ys) = d + fitN b' M (ys.drop d) := by omega
      rw [e2] at ih
      omega
section
variable {b : Int} {M : Nat}
theorem cnt_all (hb : 20 ≤ b) (hM : 1 ≤ M) {ys : List Int} (hr : allR ys 1 20 = true) : allR (cntL (BB b M ys)) 1 M = true := by
  refine bb_ind hb hM (P := fun ys => allR (cntL (BB b M ys)) 1 M = true) (by simp [BB_nil, cntL, allR]) ?_ _ ys (Nat.le_refl _) hr
  intro ys h hr ih
  have hp := fit_pos h hr hb hM
  obtain ⟨h1, h2⟩ := fit_le M b ys
  rw [BB_next h hr hb hM]
  have e : ((ys.take (fitN b M ys)).length : Int) = (fitN b M ys : Int) := by rw [List.length_take]; omega
  unfold allR at *
  simp only [cntL, List.map_cons, List.all_cons, e]
  rw [inR_t (by omega) (by omega)]
  simpa [cntL] using ih
theorem cnt_sum (hb : 20 ≤ b) (hM : 1 ≤ M) {ys : List Int} (hr : allR ys 1 20 = true) : (cntL (BB b M ys)).sum = ys.length := by
  refine bb_ind hb hM (P := fun ys => (cntL (BB b M ys)).sum = ys.length) (by simp [BB_nil, cntL]) ?_ _ ys (Nat.le_refl _) hr
  intro ys h hr ih
  obtain ⟨h1, h2⟩ := fit_le M b ys
  rw [BB_next h hr hb hM]
  have e : ((ys.take (fitN b M ys)).length : Int) = (fitN b M ys : Int) := by rw [List.length_take]; omega
  simp only [cntL, List.map_cons, List.sum_cons, e] at ih ⊢
  rw [ih, List.length_drop]
  omega
theorem bs_all (hb : 20 ≤ b) (hM : 1 ≤ M) {ys : List Int} (hr : allR ys 1 20 = true) : allR (sumL2 (BB b M ys)) 1 b = true := by
  refine bb_ind hb hM (P := fun ys => allR (sumL2 (BB b M ys)) 1 b = true) (by simp [BB_nil, sumL2, allR]) ?_ _ ys (Nat.le_refl _) hr
  intro ys h hr ih
  have hp := fit_pos h hr hb hM
  obtain ⟨h1, h2⟩ := fit_le M b ys
  rw [BB_next h hr hb hM]
  have hs := fit_sum M b ys (by omega)
  have hs2 := (sum_bd _ (allR_take hr (fitN b M ys))).1
  have e : ((ys.take (fitN b M ys)).length : Int) = (fitN b M ys : Int) := by rw [List.length_take]; omega
  rw [e] at hs2
  unfold allR at *
  simp only [sumL2, List.map_cons, List.all_cons]
  rw [inR_t (by omega) hs]
  simpa [sumL2] using ih
theorem bs_sum (hb : 20 ≤ b) (hM : 1 ≤ M) {ys : List Int} (hr : allR ys 1 20 = true) : (sumL2 (BB b M ys)).sum = ys.sum := by
  refine bb_ind hb hM (P := fun ys => (sumL2 (BB b M ys)).sum = ys.sum) (by simp [BB_nil, sumL2]) ?_ _ ys (Nat.le_refl _) hr
  intro ys h hr ih
  rw [BB_next h hr hb hM]
  simp only [sumL2, List.map_cons, List.sum_cons] at ih ⊢
  rw [ih, ← List.sum_append, List.take_append_drop]
theorem bb_one (hb : 20 ≤ b) {ys : List Int} (hr : allR ys 1 20 = true) : cntL (BB b 1 ys) = List.replicate ys.length 1 ∧ sumL2 (BB b 1 ys) = ys := by
  refine bb_ind hb (Nat.le_refl 1) (P := fun ys => cntL (BB b 1 ys) = List.replicate ys.length 1 ∧ sumL2 (BB b 1 ys) = ys) (by simp [BB_nil, cntL, sumL2]) ?_ _ ys (Nat.le_refl _) hr
  intro ys h hr ih
  have hp := fit_pos h hr hb (Nat.le_refl 1)
  obtain ⟨h1, h2⟩ := fit_le 1 b ys
  have e : fitN b 1 ys = 1 := by omega
  rw [BB_next h hr hb (Nat.le_refl 1), e]
  rw [e] at ih
  cases ys with
  | nil => exact absurd rfl h
  | cons y l =>
    rw [List.drop_succ_cons, List.drop_zero] at ih ⊢
    obtain ⟨i1, i2⟩ := ih
    simp only [cntL, sumL2] at i1 i2
    constructor
    · simp [cntL, i1, List.replicate_succ]
    · simp [sumL2, i2]
/-- What stands at the k-th batch: where it begins, and that the next size does not fit. -/
theorem bb_kth (hb : 20 ≤ b) (hM : 1 ≤ M) : ∀ (k : Nat) (ys : List Int), allR ys 1 20 = true → k + 1 < (BB b M ys).length →
    ∃ s N : Nat, s + N < ys.length ∧ 1 ≤ N ∧ ((cntL (BB b M ys)).take k).sum = s ∧ (cntL (BB b M ys)).getD k 0 = N ∧ (N < M → b < (sumL2 (BB b M ys)).getD k 0 + ys.getD (s + N) 0) ∧ ys.getD (s + N) 0 ≤ (sumL2 (BB b M ys)).getD (k + 1) 0 ∧ 1 ≤ (cntL (BB b M ys)).getD (k + 1) 0
  | 0, ys, hr, hk => by
    have h0 : ys ≠ [] := by rintro rfl; simp [BB_nil] at hk
    have hp := fit_pos h0 hr hb hM
    obtain ⟨h1, h2⟩ := fit_le M b ys
    have hn := BB_next h0 hr hb hM
    have hz : ys.drop (fitN b M ys) ≠ [] := by
      intro e
      rw [hn, e, BB_nil] at hk
      simp at hk
    have hzl : 0 < (ys.drop (fitN b M ys)).length := List.length_pos_iff.2 hz
    rw [List.length_drop] at hzl
    have hn2 := BB_next hz (allR_drop hr _) hb hM
    have hp2 := fit_pos hz (allR_drop hr (fitN b M ys)) hb hM
    have h22 := (fit_le M b (ys.drop (fitN b M ys))).2
    have e : (ys.take (fitN b M ys)).length = fitN b M ys := by rw [List.length_take]; omega
    refine ⟨0, fitN b M ys, by omega, hp, by simp, by rw [hn]; simp [cntL]; omega, fun hlt => ?_, ?_, ?_⟩
    · have := fit_stop M b ys hlt (by omega)
      rw [hn, Nat.zero_add]
      simpa [sumL2] using this
    · rw [hn, hn2, Nat.zero_add]
      generalize hgd : ys.drop (fitN b M ys) = zs at *
      have hz0 : ys.getD (fitN b M ys) 0 = zs.getD 0 0 := by rw [← hgd]; simp [List.getD_eq_getElem?_getD, List.getElem?_drop]
      rw [hz0]
      cases zs with
      | nil => exact absurd rfl hz
      | cons z l =>
        have hrz : allR (z :: l) 1 20 = true := by rw [← hgd]; exact allR_drop hr _
        obtain ⟨q, hq⟩ : ∃ q, fitN b M (z :: l) = q + 1 := ⟨fitN b M (z :: l) - 1, by omega⟩
        have hs2 := (sum_bd _ (allR_take (allR_cons' hrz).2 q)).1
        simp only [sumL2, List.map_cons, List.getD_cons_succ, List.getD_cons_zero, hq, List.take_succ_cons, List.sum_cons]
        omega
    · rw [hn, hn2]
      simp [cntL]
      omega
  | k + 1, ys, hr, hk => by
    have h0 : ys ≠ [] := by rintro rfl; simp [BB_nil] at hk
    have hp := fit_pos h0 hr hb hM
    obtain ⟨h1, h2⟩ := fit_le M b ys
    have hn := BB_next h0 hr hb hM
    have e : ((ys.take (fitN b M ys)).length : Int) = (fitN b M ys : Int) := by rw [List.length_take]; omega
    rw [hn, List.length_cons] at hk
    obtain ⟨s, N, q1, q2, q3, q4, q5, q6, q7⟩ := bb_kth hb hM k (ys.drop (fitN b M ys)) (allR_drop hr _) (by omega)
    rw [List.length_drop] at q1
    have hg : (ys.drop (fitN b M ys)).getD (s + N) 0 = ys.getD (fitN b M ys + s + N) 0 := by rw [List.getD_eq_getElem?_getD, List.getElem?_drop, List.getD_eq_getElem?_getD, Nat.add_assoc]
    rw [hg] at q5 q6
    rw [hn]
    refine ⟨fitN b M ys + s, N, by omega, q2, ?_, ?_, ?_, ?_, ?_⟩
    · simp only [cntL, List.map_cons, List.take_succ_cons, List.sum_cons, e]
      simp only [cntL] at q3
      rw [q3]
      omega
    · simpa [cntL] using q4
    · simpa [sumL2] using q5
    · simpa [sumL2] using q6
    · simpa [cntL] using q7
end
end Go.Proofs.Ytpodfjblojmkeaa
