/-
  Contracts of arenas: the first gap with room, by the model.
-/
import Derived.Test.YtleoncjdhlomaaaArL
namespace Go.Proofs.Ytleoncjdhlomaaa
open Go.RowKit
theorem gapsA_at {s : Int} {xs : List Tr} {k : Nat} {x : Tr} (h : xs[k]? = some x) : (gapsA s xs)[k]? = some (endT (xs.take k), x.b - endT (xs.take k)) := by
  have hk : k < xs.length := (List.getElem?_eq_some_iff.1 h).1
  have hx : xs.getD k default = x := by rw [List.getD_eq_getElem?_getD, h]; rfl
  rw [gapsA, List.getElem?_append_left (by simpa [gapsK] using hk), gapsK, List.getElem?_map, List.getElem?_range hk]
  simp only [Option.map_some, hx]
theorem gapsA_end {s : Int} {xs : List Tr} : (gapsA s xs)[xs.length]? = some (endT xs, s - endT xs) := by
  rw [gapsA, List.getElem?_append_right (by simp [gapsK])]
  simp [gapsK]
theorem gapsA_len (s : Int) (xs : List Tr) : (gapsA s xs).length = xs.length + 1 := by simp [gapsA, gapsK]
/-- The number of the first gap with room, the length for none. -/
def fitA (s : Int) (xs : List Tr) (sz : Int) : Nat := (gapsA s xs).findIdx (fun g => decide (sz ≤ g.2))
def fitI (s : Int) (xs : List Tr) (sz : Int) : Int := if fitA s xs sz < (gapsA s xs).length then (fitA s xs sz : Int) else -1
def fitP (s : Int) (xs : List Tr) (sz : Int) : Int := if fitA s xs sz < (gapsA s xs).length then ((gapsA s xs).getD (fitA s xs sz) (0, 0)).1 else -1
theorem fit_at {s sz : Int} {xs : List Tr} {k : Nat} {g : Int × Int} (h : (gapsA s xs)[k]? = some g) (hx : sz ≤ g.2) (hb : ∀ j, j < k → ∀ y, (gapsA s xs)[j]? = some y → y.2 < sz) : fitA s xs sz = k := by
  have hk : k < (gapsA s xs).length := (List.getElem?_eq_some_iff.1 h).1
  have hv : (gapsA s xs)[k] = g := (List.getElem?_eq_some_iff.1 h).2
  unfold fitA
  rw [List.findIdx_eq hk]
  refine ⟨by simp [hv, hx], fun j hj => ?_⟩
  have := hb j hj _ (List.getElem?_eq_getElem (Nat.lt_trans hj hk))
  simp
  omega
theorem fit_none {s sz : Int} {xs : List Tr} (hb : ∀ j, j < (gapsA s xs).length → ∀ y, (gapsA s xs)[j]? = some y → y.2 < sz) : fitA s xs sz = (gapsA s xs).length := by
  unfold fitA
  rw [List.findIdx_eq_length]
  intro x hx
  obtain ⟨j, hj, e⟩ := List.mem_iff_getElem.1 hx
  have := hb j hj x (by rw [List.getElem?_eq_getElem hj, e])
  simp
  omega
theorem fit_vals {s sz : Int} {xs : List Tr} {k : Nat} {g : Int × Int} (h : (gapsA s xs)[k]? = some g) (e : fitA s xs sz = k) : fitI s xs sz = (k : Int) ∧ fitP s xs sz = g.1 := by
  have hk : k < (gapsA s xs).length := (List.getElem?_eq_some_iff.1 h).1
  have hx : (gapsA s xs).getD k (0, 0) = g := by rw [List.getD_eq_getElem?_getD, h]; rfl
  rw [fitI, fitP, e, if_pos hk, if_pos hk, hx]
  exact ⟨rfl, rfl⟩
theorem fit_vals_none {s sz : Int} {xs : List Tr} (e : fitA s xs sz = (gapsA s xs).length) : fitI s xs sz = -1 ∧ fitP s xs sz = -1 := by
  rw [fitI, fitP, e, if_neg (by omega), if_neg (by omega)]
  exact ⟨rfl, rfl⟩
/-- A call has handed back two numbers. -/
def GaveII (w : World) (a b : Int) (e : Ending) (w' : World) : Prop := e = .returned (.tuple #[.int .i64 a, .int .i64 b]) ∧ Below w.heap.size w w'
theorem gaveII {w w' : World} {a b c d : Int} (h1 : a = c) (h2 : b = d) (hb : Below w.heap.size w w') : GaveII w c d (.returned (.tuple #[.int .i64 a, .int .i64 b])) w' := by
  subst h1 h2
  exact ⟨rfl, hb⟩
set_option maxHeartbeats 4000000 in
theorem spec_gapFor_any {A : Option Addr} {n c : Nat} {xs : List Tr} (s sz : Int) (w : World) (h : TS w A n c xs) (hv : validA s xs = true) :
    Calls Try.prog 47 #[.agg #[.int .i64 s, .slice A n c], .int .i64 sz] w (GaveII w (fitI s xs sz) (fitP s xs sz)) := by
  have hl := h.len
  obtain ⟨h10, hc⟩ := validA_used hv
  have hn : n ≤ 10 := by omega
  have HV := Lib.hid hv
  have HL := Lib.hid hl
  obtain ⟨hs0, hs1⟩ := (validA_iff.1 hv).1
  have T1 := Lib.hid (h.alloc (.cells #[.int .i64 s, .slice A n c] 25))
  have P1 := Lib.hid (Blk.new w 25 #[.int .i64 s, .slice A n c])
  have B1 := Lib.hid (below_new w (.cells #[.int .i64 s, .slice A n c] 25))
  clear hl h10 hc hv h
  go_enter Try.func47, Try.ntmps47
  go_wp2_with (fail)
  obtain ⟨w1, eW⟩ : ∃ v : World, v = w.alloc (.cells #[.int .i64 s, .slice A n c] 25) := ⟨_, rfl⟩
  rw [← eW] at T1 P1 B1 ⊢
  clear eW
  obtain ⟨p0, p1⟩ := P1.out.c2
  have pl := P1.out.lt
  go_loopw [6, 7] (fun e i wr => ∃ (k d : Nat) (E : Int), wr = w1.drewN d ∧ k ≤ n + 1 ∧ 0 ≤ E ∧ E ≤ 64 ∧ i = .int .i64 k ∧ e = .int .i64 E ∧ Hid (endT (xs.take k) = E) ∧ Hid (∀ j, j < k → ∀ y, (gapsA s xs)[j]? = some y → y.2 < sz)) (fun _ i _ => n + 1 - (intOf i).toNat)
  case atStart => exact ⟨0, 0, 0, rfl, by omega, by omega, by omega, rfl, rfl, Lib.hid rfl, Lib.hid (fun j hj => absurd hj (by omega))⟩
  case round =>
    obtain ⟨k, d, E, rfl, hk, hE0, hE1, rfl, rfl, hE, HP⟩ := hrel
    have next : ∀ g : Int × Int, (gapsA s xs)[k]? = some g → g.2 < sz → ∀ j, j < k + 1 → ∀ y, (gapsA s xs)[j]? = some y → y.2 < sz := fun g hg hlt j hj y hy => by
      rcases Nat.lt_or_ge j k with h1 | h1
      · exact HP.out j h1 y hy
      · obtain rfl : j = k := by omega
        obtain rfl : g = y := by rw [hg] at hy; injection hy
        exact hlt
    have NX := Lib.hid next
    clear next
    rcases (by omega : k < n ∨ k = n ∨ k = n + 1) with hlt | hlt | hlt
    · obtain ⟨b, off, x, rfl, hx, ca, cb, cc⟩ := T1.out.at_ hlt
      obtain ⟨_, ⟨hb0, hb1⟩, hc0, hc1⟩ := (validA_iff.1 HV.out).at_ (List.mem_of_getElem? hx)
      have HE : Hid (endT (xs.take (k + 1)) = x.b + x.c) := Lib.hid (endT_next hx)
      obtain ⟨he0, he1⟩ := end_bd HV.out (k := k + 1) (by have := HL.out; omega)
      rw [HE.out] at he0 he1
      have HG : Hid ((gapsA s xs)[k]? = some (E, x.b - E)) := Lib.hid (by rw [gapsA_at hx, hE.out])
      have hki : (k : Int) < (n : Int) := by omega
      have hki2 : (k : Int) ≤ (n : Int) := by omega
      have hw1 : IntKind.i64.wrap (x.b - E) = x.b - E := by rw [IntWalk.i64_in _ (by omega)]
      clear hx
      by_cases hf : sz ≤ x.b - E
      · go_wp2_with (fail)
        obtain ⟨e1, e2⟩ := fit_vals HG.out (fit_at HG.out hf HP.out)
        refine bodyPost_ret (v := .tuple #[.int .i64 (k : Int), .int .i64 E]) (by simp [results, Try.results47, go_sem]) rfl ?_
        exact gaveII e1.symm e2.symm (below_drewN B1.out _)
      · go_wp2_with (fail)
        go_quiet (fail)
        go_wp2_with (fail)
        go_roundw
        case rel => exact ⟨k + 1, _, x.b + x.c, rfl, by omega, he0, he1, by go_num, by go_num, HE, Lib.hid (NX.out _ HG.out (by show x.b - E < sz; omega))⟩
        case measure => simp [intOf] <;> omega
    · subst hlt
      have hw1 : IntKind.i64.wrap (s - E) = s - E := by rw [IntWalk.i64_in _ (by omega)]
      have hEE : endT xs = E := by have h2 := hE.out; rw [List.take_of_length_le (by have := HL.out; omega)] at h2; exact h2
      have HG : Hid ((gapsA s xs)[k]? = some (E, s - E)) := Lib.hid (by have h3 := gapsA_end (s := s) (xs := xs); rw [HL.out, hEE] at h3; exact h3)
      have HE : Hid (endT (xs.take (k + 1)) = E) := Lib.hid (by rw [List.take_of_length_le (by have := HL.out; omega)]; exact hEE)
      clear hEE
      by_cases hf : sz ≤ s - E
      · go_wp2_with (fail)
        obtain ⟨e1, e2⟩ := fit_vals HG.out (fit_at HG.out hf HP.out)
        refine bodyPost_ret (v := .tuple #[.int .i64 (k : Int), .int .i64 E]) (by simp [results, Try.results47, go_sem]) rfl ?_
        exact gaveII e1.symm e2.symm (below_drewN B1.out _)
      · go_wp2_with (fail)
        go_roundw
        case rel => exact ⟨k + 1, _, E, rfl, by omega, hE0, hE1, by go_num, rfl, HE, Lib.hid (NX.out _ HG.out (by show s - E < sz; omega))⟩
        case measure => simp [intOf] <;> omega
    · have hki2 : ¬ (k : Int) ≤ (n : Int) := by omega
      go_wp2_with (fail)
      obtain ⟨e1, e2⟩ := fit_vals_none (s := s) (sz := sz) (xs := xs) (fit_none (by rw [gapsA_len, HL.out, ← hlt]; exact HP.out))
      refine bodyPost_ret (v := .tuple #[.int .i64 (-1), .int .i64 (-1)]) (by simp [results, Try.results47, go_sem]) rfl ?_
      exact gaveII e1.symm e2.symm (below_drewN B1.out _)
end Go.Proofs.Ytleoncjdhlomaaa
