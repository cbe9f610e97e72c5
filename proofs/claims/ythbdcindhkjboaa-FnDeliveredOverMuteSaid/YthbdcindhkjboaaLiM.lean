/-
  Plain mathematics of links: what a run over a link does, by fates; each number once.
-/
import Derived.Test.YthbdcindhkjboaaWiS
namespace Go.Proofs.Ythbdcindhkjboaa
open Go.RowKit

/-- What arrives by a fate, and what is sent again. -/
def fateA (f n : Int) : List Int := if f = 0 ∨ f = 2 then [n] else if f = 3 then [n, n] else []
def fateQ (f n : Int) : List Int := if f = 1 ∨ f = 2 then [n] else []
/-- A run over a link: the queue of sendings, what has arrived, how many sendings there were. -/
def runL : List Int → List Int → List Int → Nat → List Int × List Int × Nat
  | [], q, a, s => (q, a, s)
  | _ :: _, [], a, s => ([], a, s)
  | f :: fs, n :: t, a, s => runL fs (t ++ fateQ f n) (a ++ fateA f n) (s + 1)
theorem runL_empty (fs a : List Int) (s : Nat) : runL fs [] a s = ([], a, s) := by cases fs <;> rfl
/-- The numbers from 0 on, k of them. -/
def iota (k : Nat) : List Int := selL (fun _ => true) 0 k
theorem iota_succ (k : Nat) : iota (k + 1) = iota k ++ [(k : Int)] := by
  unfold iota
  rw [selL_yes rfl]
  simp
theorem iota_len (k : Nat) : (iota k).length = k := by
  induction k with
  | zero => rfl
  | succ k ih => rw [iota_succ, List.length_append, ih]; rfl
theorem iota_mem {k : Nat} {n : Int} : n ∈ iota k ↔ 0 ≤ n ∧ n < (k : Int) := by
  unfold iota
  rw [selL_mem]
  simp
def okK (xs : List Int) (m : Int) : Bool := decide ((xs.length : Int) ≤ 20) && (allR xs 0 3 && inR m 0 8)
def linkR (xs : List Int) (m : Int) : List Int × List Int × Nat := runL xs (iota m.toNat) [] 0
def arrV (xs : List Int) (m : Int) : List Int := if okK xs m then (linkR xs m).2.1 else []
def sndV (xs : List Int) (m : Int) : Int := if okK xs m then ((linkR xs m).2.2 : Int) else -1
/-- Each number once, where it comes first. -/
def onceF (o : List Int) : List Int → List Int
  | [] => o
  | x :: r => onceF (if o.contains x then o else o ++ [x]) r
def onceL (l : List Int) : List Int := onceF [] l
def dlvV (xs : List Int) (m : Int) : List Int := onceL (arrV xs m)
theorem onceF_append (o l k : List Int) : onceF o (l ++ k) = onceF (onceF o l) k := by
  induction l generalizing o with
  | nil => rfl
  | cons x r ih => exact ih _
theorem onceL_step {l : List Int} {k : Nat} {v : Int} (hx : l[k]? = some v) : onceL (l.take (k + 1)) = if (onceL (l.take k)).contains v then onceL (l.take k) else onceL (l.take k) ++ [v] := by
  have hk : k < l.length := (List.getElem?_eq_some_iff.1 hx).1
  have e : l[k] = v := (List.getElem?_eq_some_iff.1 hx).2
  unfold onceL
  rw [List.take_succ_eq_append_getElem hk, onceF_append, e]
  rfl
theorem onceF_len (o l : List Int) : (onceF o l).length ≤ o.length + l.length := by
  induction l generalizing o with
  | nil => simp [onceF]
  | cons x r ih =>
    simp only [onceF]
    refine Nat.le_trans (ih _) ?_
    split <;> simp <;> omega
theorem onceL_len (l : List Int) : (onceL l).length ≤ l.length := by
  unfold onceL
  simpa using onceF_len [] l
theorem fateA_len (f n : Int) : (fateA f n).length ≤ 2 := by
  unfold fateA
  split
  · simp
  · split <;> simp
theorem runL_len (fs q a : List Int) (s : Nat) : (runL fs q a s).2.1.length ≤ a.length + 2 * fs.length ∧ (runL fs q a s).2.2 ≤ s + fs.length ∧ (runL fs q a s).1.length ≤ q.length := by
  induction fs generalizing q a s with
  | nil => simp [runL]
  | cons f fs ih =>
    cases q with
    | nil => simp [runL]
    | cons n t =>
      simp only [runL]
      obtain ⟨h1, h2, h3⟩ := ih (t ++ fateQ f n) (a ++ fateA f n) (s + 1)
      have h4 := fateA_len f n
      have h5 : (fateQ f n).length ≤ 1 := by unfold fateQ; split <;> simp
      simp only [List.length_append, List.length_cons] at *
      omega
theorem okK_facts {xs : List Int} {m : Int} (h : okK xs m = true) : xs.length ≤ 20 ∧ allR xs 0 3 = true ∧ 0 ≤ m ∧ m ≤ 8 := by
  simp only [okK, Bool.and_eq_true, decide_eq_true_eq, inR_iff] at h
  exact ⟨by omega, h.2.1, h.2.2.1, h.2.2.2⟩
theorem arrV_le (xs : List Int) (m : Int) : (arrV xs m).length ≤ 40 := by
  unfold arrV
  split
  · rename_i h
    have h1 := (runL_len xs (iota m.toNat) [] 0).1
    have h2 := (okK_facts h).1
    unfold linkR
    simp at h1
    omega
  · simp
theorem sndV_bd (xs : List Int) (m : Int) : -1 ≤ sndV xs m ∧ sndV xs m ≤ 20 := by
  unfold sndV
  split
  · rename_i h
    have h1 := (runL_len xs (iota m.toNat) [] 0).2.1
    have h2 := (okK_facts h).1
    unfold linkR
    omega
  · omega
theorem dlvV_le (xs : List Int) (m : Int) : (dlvV xs m).length ≤ 40 := Nat.le_trans (onceL_len _) (arrV_le xs m)
/-- The numbers that are not acknowledged after a run. -/
def uakV (xs : List Int) (m : Int) : List Int := if okK xs m then selL (fun n => (linkR xs m).1.contains n) 0 m.toNat else []
theorem uakV_le (xs : List Int) (m : Int) : (uakV xs m).length ≤ 8 := by
  unfold uakV
  split
  · rename_i h
    have h1 := selL_len (fun n => (linkR xs m).1.contains n) 0 m.toNat
    have h2 := okK_facts h
    omega
  · simp
set_option maxHeartbeats 1000000 in
theorem impl_validLink_any {A : Option Addr} {n c : Nat} {xs : List Int} (m : Int) (w : World) (h : IS w A n c xs) :
    Calls Try.prog 28 #[.slice A n c, .int .i64 m] w fun e w' => e = .returned (.bool (okK xs m)) ∧ w = w' := by
  have hcap := h.cap
  have HL := Lib.hid h.len
  have H := Lib.hid h
  clear h
  by_cases h20 : (n : Int) ≤ 20
  · have h20d : decide ((n : Int) ≤ 20) = true := by simp [h20]
    have h20n : n ≤ 20 := by omega
    have h20e : decide (n ≤ 20) = true := by simp [h20n]
    rcases ha : allR xs 0 3 with _ | _
    · go_enter Try.func28, Try.ntmps28
      go_wp2_with (first | (go_at_call 40; refine (call_b (impl_allWithin_any _ _ _ H.out) ha).mono ?_; rintro e w' ⟨rfl, rfl⟩) | (go_at_call 34; refine (call_b (spec_allIn_any _ _ _ H.out) ha).mono ?_; rintro e w' ⟨rfl, rfl⟩))
      go_ret
      exact ⟨ret_bool (by simp [okK, ha]), rfl⟩
    · rcases hm : inR m 0 8 with _ | _
      · go_enter Try.func28, Try.ntmps28
        go_wp2_with (first | (go_at_call 40; refine (call_b (impl_allWithin_any _ _ _ H.out) ha).mono ?_; rintro e w' ⟨rfl, rfl⟩) | (go_at_call 34; refine (call_b (spec_allIn_any _ _ _ H.out) ha).mono ?_; rintro e w' ⟨rfl, rfl⟩) | (go_at_call 41; refine (call_b (impl_within_any _ _ _ _) hm).mono ?_; rintro e w' ⟨rfl, rfl⟩) | (go_at_call 35; refine (call_b (spec_inRange_any _ _ _ _) hm).mono ?_; rintro e w' ⟨rfl, rfl⟩))
        go_ret
        exact ⟨ret_bool (by simp [okK, hm]), rfl⟩
      · go_enter Try.func28, Try.ntmps28
        go_wp2_with (first | (go_at_call 40; refine (call_b (impl_allWithin_any _ _ _ H.out) ha).mono ?_; rintro e w' ⟨rfl, rfl⟩) | (go_at_call 34; refine (call_b (spec_allIn_any _ _ _ H.out) ha).mono ?_; rintro e w' ⟨rfl, rfl⟩) | (go_at_call 41; refine (call_b (impl_within_any _ _ _ _) hm).mono ?_; rintro e w' ⟨rfl, rfl⟩) | (go_at_call 35; refine (call_b (spec_inRange_any _ _ _ _) hm).mono ?_; rintro e w' ⟨rfl, rfl⟩))
        go_ret
        exact ⟨ret_bool (by have := HL.out; simp [okK, ha, hm]; omega), rfl⟩
  · have h20d : decide ((n : Int) ≤ 20) = false := by simp; omega
    have h20n : ¬ n ≤ 20 := by omega
    have h20e : decide (n ≤ 20) = false := by simp; omega
    go_enter Try.func28, Try.ntmps28
    go_wp2_with (fail)
    go_ret
    exact ⟨ret_bool (by have := HL.out; simp [okK]; omega), rfl⟩
set_option maxHeartbeats 1000000 in
theorem spec_validFates_any {A : Option Addr} {n c : Nat} {xs : List Int} (m : Int) (w : World) (h : IS w A n c xs) :
    Calls Try.prog 25 #[.slice A n c, .int .i64 m] w fun e w' => e = .returned (.bool (okK xs m)) ∧ w = w' := by
  have hcap := h.cap
  have HL := Lib.hid h.len
  have H := Lib.hid h
  clear h
  by_cases h20 : (n : Int) ≤ 20
  · have h20d : decide ((n : Int) ≤ 20) = true := by simp [h20]
    have h20n : n ≤ 20 := by omega
    have h20e : decide (n ≤ 20) = true := by simp [h20n]
    rcases ha : allR xs 0 3 with _ | _
    · go_enter Try.func25, Try.ntmps25
      go_wp2_with (first | (go_at_call 40; refine (call_b (impl_allWithin_any _ _ _ H.out) ha).mono ?_; rintro e w' ⟨rfl, rfl⟩) | (go_at_call 34; refine (call_b (spec_allIn_any _ _ _ H.out) ha).mono ?_; rintro e w' ⟨rfl, rfl⟩))
      go_ret
      exact ⟨ret_bool (by simp [okK, ha]), rfl⟩
    · rcases hm : inR m 0 8 with _ | _
      · go_enter Try.func25, Try.ntmps25
        go_wp2_with (first | (go_at_call 40; refine (call_b (impl_allWithin_any _ _ _ H.out) ha).mono ?_; rintro e w' ⟨rfl, rfl⟩) | (go_at_call 34; refine (call_b (spec_allIn_any _ _ _ H.out) ha).mono ?_; rintro e w' ⟨rfl, rfl⟩) | (go_at_call 41; refine (call_b (impl_within_any _ _ _ _) hm).mono ?_; rintro e w' ⟨rfl, rfl⟩) | (go_at_call 35; refine (call_b (spec_inRange_any _ _ _ _) hm).mono ?_; rintro e w' ⟨rfl, rfl⟩))
        go_ret
        exact ⟨ret_bool (by simp [okK, hm]), rfl⟩
      · go_enter Try.func25, Try.ntmps25
        go_wp2_with (first | (go_at_call 40; refine (call_b (impl_allWithin_any _ _ _ H.out) ha).mono ?_; rintro e w' ⟨rfl, rfl⟩) | (go_at_call 34; refine (call_b (spec_allIn_any _ _ _ H.out) ha).mono ?_; rintro e w' ⟨rfl, rfl⟩) | (go_at_call 41; refine (call_b (impl_within_any _ _ _ _) hm).mono ?_; rintro e w' ⟨rfl, rfl⟩) | (go_at_call 35; refine (call_b (spec_inRange_any _ _ _ _) hm).mono ?_; rintro e w' ⟨rfl, rfl⟩))
        go_ret
        exact ⟨ret_bool (by have := HL.out; simp [okK, ha, hm]; omega), rfl⟩
  · have h20d : decide ((n : Int) ≤ 20) = false := by simp; omega
    have h20n : ¬ n ≤ 20 := by omega
    have h20e : decide (n ≤ 20) = false := by simp; omega
    go_enter Try.func25, Try.ntmps25
    go_wp2_with (fail)
    go_ret
    exact ⟨ret_bool (by have := HL.out; simp [okK]; omega), rfl⟩
set_option maxHeartbeats 2000000 in
theorem spec_once_any {A : Option Addr} {n c : Nat} {xs : List Int} (w : World) (h : IS w A n c xs) (hn : n ≤ 1000) :
    Calls Try.prog 33 #[.slice A n c] w (GaveInts 3 w (onceL xs)) := by
  have hcap := h.cap
  have HL := Lib.hid h.len
  have H := Lib.hid h
  clear h
  have LO := Lib.hid (OW.lit w 3 w.heap.size [] (Nat.le_refl _) (by simp))
  have LB : Hid (Below w.heap.size w (w.alloc (.cells #[] 3))) := Lib.hid (below_new _ _)
  go_enter Try.func33, Try.ntmps33
  go_wp2_with (fail)
  obtain ⟨wz, eW⟩ : ∃ v, v = w.alloc (.cells #[] 3) := ⟨_, rfl⟩
  simp only [List.map_nil] at LO
  rw [← eW] at LO LB ⊢
  clear eW
  go_loopw [3, 4] (fun q i wr => ∃ (j p c' : Nat) (A' : Option Addr), j ≤ n ∧ p ≤ j ∧ i = .int .i64 (j : Int) ∧ q = .slice A' p c' ∧ Hid (OW wr 3 w.heap.size A' p c' (onceL (xs.take j))) ∧ Hid (Below w.heap.size w wr)) (fun _ i _ => n - (intOf i).toNat)
  case atStart => exact ⟨0, 0, 0, _, Nat.zero_le _, Nat.zero_le _, rfl, rfl, Lib.hid (by simpa [onceL, onceF] using LO.out), LB⟩
  case round =>
    obtain ⟨j, p, c', A', hj, hp, rfl, rfl, O, BW⟩ := hrel
    have hsz := BW.out.size
    have I := Lib.hid (H.out.below BW.out (Nat.le_refl _))
    by_cases hlt : j < n
    · obtain ⟨g, off, v, rfl, hx, hc⟩ := I.out.at_ hlt
      have HX := Lib.hid hx
      clear hx
      rcases hbit : (onceL (xs.take j)).contains v with _ | _
      · have HB := Lib.hid hbit
        have O7 := Lib.hid (O.out.alloc (.cells #[.int .i64 v] 3))
        have SV : Hid (IS (wr.alloc (.cells #[.int .i64 v] 3)) (some ⟨wr.heap.size, 0, none⟩) 1 1 [v]) := Lib.hid (by simpa using (OW.lit wr 3 0 [v] (by simp) (by simp)).is)
        have B7 := Lib.hid (BW.out.alloc BW.out.size (.cells #[.int .i64 v] 3))
        go_wp2_with (first | (go_at_call 37; refine (call_bool (spec_isIn_any _ _ O.out.is) hbit).mono ?_; rintro e w' ⟨rfl, rfl⟩) | (at_builtin; go_must (refine wpList_append_is _ rfl (.tmp 19) (.tmp 24) _ rfl w.heap.size 3 infoInt Try.underlying22 _ _ _ _ rfl O7.out _ _ _ _ rfl SV.out (by omega) (by simp; omega) ?_); intro A8 c8 w8 hown8 hg8; have O8 := Lib.hid hown8; have B8 := Lib.hid (O7.out.below_grown hg8 B7.out (Nat.le_refl _) (by simp; omega)); clear hown8 hg8))
        go_roundw
        case rel => exact ⟨j + 1, p + 1, c8, A8, by omega, by omega, by first | rfl | go_num, rfl, Lib.hid (by rw [onceL_step HX.out, HB.out]; exact O8.out), B8⟩
        case measure => simp [intOf]; omega
      · have HB := Lib.hid hbit
        go_wp2_with (go_at_call 37; refine (call_bool (spec_isIn_any _ _ O.out.is) hbit).mono ?_; rintro e w' ⟨rfl, rfl⟩)
        go_roundw
        case rel => exact ⟨j + 1, p, c', A', by omega, by omega, by first | rfl | go_num, rfl, Lib.hid (by rw [onceL_step HX.out, HB.out]; exact O.out), BW⟩
        case measure => simp [intOf]; omega
    · have ek : j = n := by omega
      subst ek
      go_wp2_with (fail)
      go_ret
      refine ⟨A', p, c', rfl, ?_, BW.out⟩
      have h3 := O.out
      rw [List.take_of_length_le (by have := HL.out; omega)] at h3
      exact h3
end Go.Proofs.Ythbdcindhkjboaa
