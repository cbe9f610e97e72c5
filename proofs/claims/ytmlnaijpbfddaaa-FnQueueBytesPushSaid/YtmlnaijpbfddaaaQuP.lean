/-
  How entries leave a queue: plain mathematics, no program.
-/
import Derived.Test.YtmlnaijpbfddaaaQuM
namespace Go.Proofs.Ytmlnaijpbfddaaa
open Go.RowKit

/-- The place of the oldest entry of a class, the length for none. -/
def whereC (c : Int) (xs : List Tr) : Nat := xs.findIdx fun x => decide (x.b = c)
/-- The same as a Go function hands it back. -/
def firstC (c : Int) (xs : List Tr) : Int := if whereC c xs < xs.length then (whereC c xs : Int) else -1
theorem whereC_at {c : Int} {xs : List Tr} {k : Nat} {x : Tr} (h : xs[k]? = some x) (hx : x.b = c) (hb : ∀ j, j < k → ∀ y, xs[j]? = some y → y.b ≠ c) : whereC c xs = k := by
  have hk : k < xs.length := (List.getElem?_eq_some_iff.1 h).1
  have hv : xs[k] = x := (List.getElem?_eq_some_iff.1 h).2
  unfold whereC
  rw [List.findIdx_eq hk]
  refine ⟨by simp [hv, hx], fun j hj => ?_⟩
  have := hb j hj _ (List.getElem?_eq_getElem (Nat.lt_trans hj hk))
  simpa using this
theorem whereC_none {c : Int} {xs : List Tr} (hb : ∀ j, j < xs.length → ∀ y, xs[j]? = some y → y.b ≠ c) : whereC c xs = xs.length := by
  unfold whereC
  rw [List.findIdx_eq_length]
  intro x hx
  obtain ⟨j, hj, e⟩ := List.mem_iff_getElem.1 hx
  have := hb j hj x (by rw [List.getElem?_eq_getElem hj, e])
  simpa using this
theorem whereC_le (c : Int) (xs : List Tr) : whereC c xs ≤ xs.length := List.findIdx_le_length
theorem whereC_get {c : Int} {xs : List Tr} (h : whereC c xs < xs.length) : ∃ x, xs[whereC c xs]? = some x ∧ x.b = c := by
  refine ⟨xs[whereC c xs], List.getElem?_eq_getElem h, ?_⟩
  exact of_decide_eq_true (List.findIdx_getElem (p := fun x : Tr => decide (x.b = c)) (w := h))
theorem whereC_before {c : Int} {xs : List Tr} {j : Nat} (hj : j < whereC c xs) {y : Tr} (hy : xs[j]? = some y) : y.b ≠ c := by
  have hl : j < xs.length := (List.getElem?_eq_some_iff.1 hy).1
  have e : xs[j] = y := (List.getElem?_eq_some_iff.1 hy).2
  have := List.not_of_lt_findIdx (p := fun x : Tr => decide (x.b = c)) hj
  rw [e] at this
  simpa using this
theorem firstC_at {c : Int} {xs : List Tr} {k : Nat} {x : Tr} (h : xs[k]? = some x) (hx : x.b = c) (hb : ∀ j, j < k → ∀ y, xs[j]? = some y → y.b ≠ c) : firstC c xs = (k : Int) := by
  have hk : k < xs.length := (List.getElem?_eq_some_iff.1 h).1
  simp [firstC, whereC_at h hx hb, hk]
theorem firstC_none {c : Int} {xs : List Tr} (hb : ∀ j, j < xs.length → ∀ y, xs[j]? = some y → y.b ≠ c) : firstC c xs = -1 := by
  simp [firstC, whereC_none hb]
theorem firstC_neg {c : Int} {xs : List Tr} : firstC c xs < 0 ↔ ¬ whereC c xs < xs.length := by
  unfold firstC
  split <;> omega
theorem firstC_eq {c : Int} {xs : List Tr} (h : whereC c xs < xs.length) : firstC c xs = (whereC c xs : Int) := by simp [firstC, h]
theorem firstC_no {c : Int} {xs : List Tr} (h : ¬ whereC c xs < xs.length) : firstC c xs = -1 := by simp [firstC, h]
/-- A class has an entry. -/
def hasC (xs : List Tr) (c : Nat) : Bool := decide (whereC (c : Int) xs < xs.length)
/-- The size of the oldest entry of a class. -/
def sizeC (xs : List Tr) (c : Nat) : Int := (xs.getD (whereC (c : Int) xs) ⟨0, 0, 0⟩).c
theorem hasC_iff {xs : List Tr} {c : Nat} : hasC xs c = true ↔ whereC (c : Int) xs < xs.length := by simp [hasC]
theorem hasC_get {xs : List Tr} {c : Nat} (h : hasC xs c = true) : ∃ x, xs[whereC (c : Int) xs]? = some x ∧ x.b = (c : Int) ∧ x.c = sizeC xs c := by
  obtain ⟨x, hx, hb⟩ := whereC_get (hasC_iff.1 h)
  exact ⟨x, hx, hb, by simp [sizeC, List.getD_eq_getElem?_getD, hx]⟩
/-- The oldest entry of the class may leave. -/
def mayL (xs : List Tr) (s : Nat × List Int) : Bool := hasC xs s.1 && decide (sizeC xs s.1 ≤ s.2.getD s.1 0)
/-- The debts when the turn leaves a class. -/
def debt1 (xs : List Tr) (s : Nat × List Int) : List Int := if hasC xs s.1 then s.2 else s.2.set s.1 0
/-- The turn goes on. -/
def stepQ (xs : List Tr) (sh : List Int) (s : Nat × List Int) : Nat × List Int :=
  ((s.1 + 1) % 3, if hasC xs ((s.1 + 1) % 3) then (debt1 xs s).set ((s.1 + 1) % 3) (min ((debt1 xs s).getD ((s.1 + 1) % 3) 0 + sh.getD ((s.1 + 1) % 3) 0) 40) else debt1 xs s)
/-- The turn and the debts are in their ranges. -/
def OkS (s : Nat × List Int) : Prop := s.1 < 3 ∧ s.2.length = 3 ∧ ∀ v ∈ s.2, 0 ≤ v ∧ v ≤ 40
theorem list3 {d : List Int} (h : d.length = 3) : ∃ a b c, d = [a, b, c] := by
  match d, h with
  | [a, b, c], _ => exact ⟨a, b, c, rfl⟩
theorem nat3 {t : Nat} (h : t < 3) : t = 0 ∨ t = 1 ∨ t = 2 := by omega
theorem okS_step {xs : List Tr} {sh : List Int} {s : Nat × List Int} (h : OkS s) (hsh : cnt sh 1 20 = true) : OkS (stepQ xs sh s) := by
  obtain ⟨t, d⟩ := s
  obtain ⟨h1, h2, h3⟩ := h
  obtain ⟨hl, ha⟩ := cnt_iff.1 hsh
  obtain ⟨a, b, c, rfl⟩ := list3 h2
  obtain ⟨a', b', c', rfl⟩ := list3 hl
  simp [allR, inR_iff] at ha
  simp at h3
  simp only at h1
  rcases nat3 h1 with rfl | rfl | rfl
  all_goals
    refine ⟨by simp [stepQ], ?_, ?_⟩
    · simp only [stepQ, debt1]; split <;> split <;> simp
    · simp only [stepQ, debt1]; split <;> split <;> simp <;> omega
/-- How far the turn is from a class. -/
def far (t c : Nat) : Nat := (c + 3 - t) % 3
def muQ (c : Nat) (s : Nat × List Int) : Nat :=
  if s.1 = c then (if 20 ≤ s.2.getD c 0 then 0 else 3 * (40 - s.2.getD c 0).toNat + 3) else 3 * (40 - s.2.getD c 0).toNat + far s.1 c
theorem mu_step {xs : List Tr} {sh : List Int} {s : Nat × List Int} {c : Nat} (hc : c < 3) (hh : hasC xs c = true) (hz : sizeC xs c ≤ 20) (h : OkS s) (hsh : cnt sh 1 20 = true) (hn : mayL xs s = false) :
    muQ c (stepQ xs sh s) < muQ c s := by
  obtain ⟨t, d⟩ := s
  obtain ⟨h1, h2, h3⟩ := h
  obtain ⟨hl, ha⟩ := cnt_iff.1 hsh
  obtain ⟨d0, d1, d2, rfl⟩ := list3 h2
  obtain ⟨a', b', c', rfl⟩ := list3 hl
  simp [allR, inR_iff] at ha
  simp at h3
  simp only at h1
  rcases nat3 h1 with rfl | rfl | rfl <;> rcases nat3 hc with rfl | rfl | rfl
  all_goals simp [mayL, hh] at hn
  all_goals simp [muQ, stepQ, debt1, far, hh]
  all_goals (repeat' split) <;> simp_all <;> omega
/-- The state after some steps. -/
def stQ (xs : List Tr) (sh : List Int) (s : Nat × List Int) : Nat → Nat × List Int
  | 0 => s
  | n + 1 => stepQ xs sh (stQ xs sh s n)
theorem stQ_ok {xs : List Tr} {sh : List Int} {s : Nat × List Int} (h : OkS s) (hsh : cnt sh 1 20 = true) (n : Nat) : OkS (stQ xs sh s n) := by
  induction n with
  | zero => exact h
  | succ n ih => exact okS_step ih hsh
theorem stQ_shift (xs : List Tr) (sh : List Int) (s : Nat × List Int) (n : Nat) : stQ xs sh (stepQ xs sh s) n = stQ xs sh s (n + 1) := by
  induction n with
  | zero => rfl
  | succ n ih => show stepQ xs sh (stQ xs sh (stepQ xs sh s) n) = stepQ xs sh (stQ xs sh s (n + 1)); rw [ih]
/-- After N steps an entry may leave, and not before. -/
def EndsQ (xs : List Tr) (sh : List Int) (s : Nat × List Int) (N : Nat) : Prop := mayL xs (stQ xs sh s N) = true ∧ ∀ i, i < N → mayL xs (stQ xs sh s i) = false
theorem endsQ_of {xs : List Tr} {sh : List Int} {s : Nat × List Int} {c : Nat} (hc : c < 3) (hh : hasC xs c = true) (hz : sizeC xs c ≤ 20) (h : OkS s) (hsh : cnt sh 1 20 = true) : ∃ N, EndsQ xs sh s N := by
  generalize hm : muQ c s = m
  induction m using Nat.strongRecOn generalizing s with
  | ind m ih =>
    rcases hl : mayL xs s with _ | _
    · have h1 := mu_step hc hh hz h hsh hl
      obtain ⟨N, h2, h3⟩ := ih _ (by omega) (okS_step (xs := xs) h hsh) rfl
      refine ⟨N + 1, by rw [← stQ_shift]; exact h2, fun i hi => ?_⟩
      rcases i with _ | i
      · exact hl
      · rw [← stQ_shift]; exact h3 i (by omega)
    · exact ⟨0, hl, fun i hi => absurd hi (Nat.not_lt_zero i)⟩
theorem endsQ_one {xs : List Tr} {sh : List Int} {s : Nat × List Int} {N M : Nat} (h : EndsQ xs sh s N) (k : EndsQ xs sh s M) : N = M := by
  rcases Nat.lt_trichotomy N M with h1 | h1 | h1
  · have := k.2 N h1; rw [h.1] at this; cases this
  · exact h1
  · have := h.2 M h1; rw [k.1] at this; cases this
theorem okS_of {xs : List Tr} {sh db : List Int} {t : Nat} (h : validQ xs sh db (t : Int) = true) : OkS (t, db) ∧ cnt sh 1 20 = true := by
  obtain ⟨_, h2, h3, h4⟩ := validQ_iff.1 h
  obtain ⟨h5, h6⟩ := cnt_iff.1 h3
  have := inR_iff.1 h4
  refine ⟨⟨by simp only; omega, h5, fun v hv => ?_⟩, h2⟩
  unfold allR at h6
  exact inR_iff.1 (List.all_eq_true.1 h6 v hv)
theorem endsQ_ex {xs : List Tr} {sh db : List Int} {t : Nat} (h : validQ xs sh db (t : Int) = true) (hne : xs ≠ []) : ∃ N, EndsQ xs sh (t, db) N := by
  obtain ⟨h1, h2⟩ := okS_of h
  have hv := validE_iff.1 (validQ_iff.1 h).1
  obtain ⟨x, r, rfl⟩ := List.exists_cons_of_ne_nil hne
  obtain ⟨_, hb, _⟩ := hv.get (j := 0) (x := x) rfl
  obtain ⟨c, hc⟩ := Int.eq_ofNat_of_zero_le hb.1
  have hw : whereC (c : Int) (x :: r) = 0 := whereC_at (k := 0) (x := x) rfl hc (fun j hj => absurd hj (Nat.not_lt_zero j))
  have hh : hasC (x :: r) c = true := by rw [hasC_iff, hw]; simp
  obtain ⟨y, hy, _, hys⟩ := hasC_get hh
  have := (hv.get hy).2.2
  exact endsQ_of (by omega) hh (by omega) h1 h2
open Classical in
/-- How many steps there are. -/
noncomputable def popN (xs : List Tr) (sh : List Int) (s : Nat × List Int) : Nat := if h : ∃ N, EndsQ xs sh s N then h.choose else 0
theorem popN_ends {xs : List Tr} {sh : List Int} {s : Nat × List Int} (h : ∃ N, EndsQ xs sh s N) : EndsQ xs sh s (popN xs sh s) := by
  unfold popN
  rw [dif_pos h]
  exact h.choose_spec
/-- The turn and the debts when the next entry leaves. -/
noncomputable def popS (xs : List Tr) (sh : List Int) (s : Nat × List Int) : Nat × List Int := stQ xs sh s (popN xs sh s)
theorem popS_at {xs : List Tr} {sh : List Int} {s : Nat × List Int} {N : Nat} (h : EndsQ xs sh s N) : popS xs sh s = stQ xs sh s N := by
  unfold popS
  rw [endsQ_one (popN_ends ⟨N, h⟩) h]
/-- Entries without the one at a place. -/
def leaveL (xs : List Tr) (k : Nat) : List Tr := xs.take k ++ xs.drop (k + 1)
theorem leaveL_len {xs : List Tr} {k : Nat} (h : k < xs.length) : (leaveL xs k).length + 1 = xs.length := by simp [leaveL]; omega
theorem leaveL_sub (xs : List Tr) (k : Nat) : (leaveL xs k).Sublist xs := by
  have h := List.take_append_drop k xs
  conv => rhs; rw [← h]
  refine List.Sublist.append (List.Sublist.refl _) ?_
  rw [← List.drop_drop]
  exact List.drop_sublist 1 _
theorem leaveL_erase (xs : List Tr) (k : Nat) : leaveL xs k = xs.eraseIdx k := by
  unfold leaveL
  rw [List.eraseIdx_eq_take_drop_succ]
/-- All names are different: as a pairwise fact. -/
theorem okEs_pairwise {xs : List Tr} : okEs xs xs.length ↔ (∀ x ∈ xs, (0 ≤ x.a ∧ x.a ≤ 99) ∧ (0 ≤ x.b ∧ x.b ≤ 2) ∧ (1 ≤ x.c ∧ x.c ≤ 20)) ∧ xs.Pairwise (fun x y => x.a ≠ y.a) := by
  constructor
  · intro h
    refine ⟨fun x hx => ?_, ?_⟩
    · obtain ⟨j, hj, e⟩ := List.getElem_of_mem hx
      obtain ⟨h1, _, h3, h4⟩ := h j hj x (by rw [← e]; exact List.getElem?_eq_getElem hj)
      exact ⟨h1, h3, h4⟩
    · rw [List.pairwise_iff_getElem]
      intro i j hi hj hij
      obtain ⟨_, h2, _⟩ := h j hj xs[j] (List.getElem?_eq_getElem hj)
      exact h2 xs[i] (List.mem_of_getElem? (i := i) (by rw [List.getElem?_take, if_pos hij]; exact List.getElem?_eq_getElem hi))
  · rintro ⟨h1, h2⟩ j hj x hx
    obtain ⟨a1, a2, a3⟩ := h1 x (List.mem_of_getElem? hx)
    refine ⟨a1, fun y hy => ?_, a2, a3⟩
    obtain ⟨i, hi, e⟩ := List.getElem_of_mem hy
    rw [List.length_take] at hi
    rw [List.getElem_take] at e
    rw [List.pairwise_iff_getElem] at h2
    have := h2 i j (by omega) hj (by omega)
    rw [e, (List.getElem?_eq_some_iff.1 hx).2] at this
    exact this
theorem ValidE.sub {xs ys : List Tr} (h : ValidE xs) (hs : ys.Sublist xs) : ValidE ys := by
  obtain ⟨h1, h2⟩ := h
  obtain ⟨h3, h4⟩ := okEs_pairwise.1 h2
  exact ⟨Nat.le_trans hs.length_le h1, okEs_pairwise.2 ⟨fun x hx => h3 x (hs.subset hx), h4.sublist hs⟩⟩
theorem filter_leave {xs : List Tr} (h : ValidE xs) {k : Nat} {x : Tr} (hx : xs[k]? = some x) : (xs.filter fun y => !(y.a == x.a)) = leaveL xs k := by
  have hk : k < xs.length := (List.getElem?_eq_some_iff.1 hx).1
  have hv : xs[k] = x := (List.getElem?_eq_some_iff.1 hx).2
  have e : xs = xs.take k ++ x :: xs.drop (k + 1) := by
    rw [← hv, ← List.drop_eq_getElem_cons hk, List.take_append_drop]
  have hp := (okEs_pairwise.1 h.2).2
  rw [e, List.pairwise_append] at hp
  obtain ⟨_, hp2, hp3⟩ := hp
  rw [List.pairwise_cons] at hp2
  conv => lhs; rw [e]
  rw [List.filter_append, List.filter_cons]
  simp only [beq_self_eq_true, Bool.not_true, Bool.false_eq_true, if_false]
  unfold leaveL
  rw [List.filter_eq_self.2 (fun y hy => by simpa using hp3 y hy x List.mem_cons_self), List.filter_eq_self.2 (fun y hy => by simpa using (hp2.1 y hy).symm)]
/-- An entry can leave. -/
noncomputable def popOK (xs : List Tr) (sh db : List Int) (t : Int) : Bool := validQ xs sh db t && !xs.isEmpty
theorem popOK_iff {xs : List Tr} {sh db : List Int} {t : Int} : popOK xs sh db t = true ↔ validQ xs sh db t = true ∧ xs ≠ [] := by
  simp [popOK]
/-- The turn and the debts behind the steps (the turn as a natural number). -/
noncomputable def popE (xs : List Tr) (sh db : List Int) (t : Int) : Nat × List Int := popS xs sh (t.toNat, db)
noncomputable def popX (xs : List Tr) (sh db : List Int) (t : Int) : Tr := if popOK xs sh db t then xs.getD (whereC ((popE xs sh db t).1 : Int) xs) ⟨0, 0, 0⟩ else ⟨0, 0, 0⟩
noncomputable def popL (xs : List Tr) (sh db : List Int) (t : Int) : List Tr := if popOK xs sh db t then leaveL xs (whereC ((popE xs sh db t).1 : Int) xs) else []
noncomputable def popH (xs : List Tr) (sh db : List Int) (t : Int) : List Int := if popOK xs sh db t then sh else []
noncomputable def popD (xs : List Tr) (sh db : List Int) (t : Int) : List Int := if popOK xs sh db t then (popE xs sh db t).2.set (popE xs sh db t).1 ((popE xs sh db t).2.getD (popE xs sh db t).1 0 - (popX xs sh db t).c) else []
noncomputable def popT (xs : List Tr) (sh db : List Int) (t : Int) : Int := if popOK xs sh db t then ((popE xs sh db t).1 : Int) else 0
/-- What is known of an entry that leaves. -/
structure Leaves (xs : List Tr) (sh db : List Int) (t : Int) (N : Nat) (u : Nat) (d : List Int) (k : Nat) (x : Tr) : Prop where
  ends : EndsQ xs sh (t.toNat, db) N
  last : stQ xs sh (t.toNat, db) N = (u, d)
  ok : OkS (u, d)
  place : whereC (u : Int) xs = k
  lt : k < xs.length
  get : xs[k]? = some x
  cls : x.b = (u : Int)
  size : 1 ≤ x.c ∧ x.c ≤ 20
  debt : x.c ≤ d.getD u 0
theorem leaves_of {xs : List Tr} {sh db : List Int} {t : Int} (h : popOK xs sh db t = true) : ∃ N u d k x, Leaves xs sh db t N u d k x ∧ popX xs sh db t = x ∧ popL xs sh db t = leaveL xs k ∧ popH xs sh db t = sh ∧ popD xs sh db t = d.set u (d.getD u 0 - x.c) ∧ popT xs sh db t = (u : Int) := by
  obtain ⟨hv, hne⟩ := popOK_iff.1 h
  have ht := inR_iff.1 (validQ_iff.1 hv).2.2.2
  obtain ⟨m, rfl⟩ := Int.eq_ofNat_of_zero_le ht.1
  obtain ⟨N, hN⟩ := endsQ_ex hv hne
  obtain ⟨u, d, hud⟩ : ∃ u d, stQ xs sh (m, db) N = (u, d) := ⟨_, _, rfl⟩
  have hml := hN.1
  rw [hud] at hml
  simp only [mayL, Bool.and_eq_true, decide_eq_true_eq] at hml
  obtain ⟨x, hx, hb, hc⟩ := hasC_get hml.1
  have hE : popE xs sh db (m : Int) = (u, d) := by unfold popE; rw [Int.toNat_natCast, popS_at hN, hud]
  have hz := ((validE_iff.1 (validQ_iff.1 hv).1).get hx).2.2
  have hX : popX xs sh db (m : Int) = x := by simp only [popX, h, hE, if_true]; simp [List.getD_eq_getElem?_getD, hx]
  refine ⟨N, u, d, whereC (u : Int) xs, x, ⟨by simpa using hN, by simpa using hud, ?_, rfl, hasC_iff.1 hml.1, hx, hb, hz, by rw [hc]; exact hml.2⟩, hX, ?_, ?_, ?_, ?_⟩
  · rw [← hud]; exact stQ_ok (okS_of hv).1 (okS_of hv).2 N
  · simp [popL, h, hE]
  · simp [popH, h]
  · simp [popD, h, hE, hX]
  · simp [popT, h, hE]
theorem pop_no {xs : List Tr} {sh db : List Int} {t : Int} (h : popOK xs sh db t = false) : popX xs sh db t = ⟨0, 0, 0⟩ ∧ popL xs sh db t = [] ∧ popH xs sh db t = [] ∧ popD xs sh db t = [] ∧ popT xs sh db t = 0 := by
  simp [popX, popL, popH, popD, popT, h]
theorem cnt_set {d : List Int} {lo hi v : Int} {u : Nat} (h : cnt d lo hi = true) (hv : lo ≤ v ∧ v ≤ hi) : cnt (d.set u v) lo hi = true := by
  obtain ⟨h1, h2⟩ := cnt_iff.1 h
  refine cnt_iff.2 ⟨by simpa using h1, ?_⟩
  unfold allR at h2 ⊢
  rw [List.all_eq_true] at h2 ⊢
  intro y hy
  rcases List.mem_or_eq_of_mem_set hy with h3 | h3
  · exact h2 y h3
  · subst h3; exact inR_t hv.1 hv.2
theorem okS_cnt {u : Nat} {d : List Int} (h : OkS (u, d)) : cnt d 0 40 = true := by
  refine cnt_iff.2 ⟨h.2.1, ?_⟩
  unfold allR
  rw [List.all_eq_true]
  intro v hv
  exact inR_t (h.2.2 v hv).1 (h.2.2 v hv).2
theorem okS_at {u : Nat} {d : List Int} (h : OkS (u, d)) : 0 ≤ d.getD u 0 ∧ d.getD u 0 ≤ 40 := by
  have hu : u < d.length := by have := h.1; have := h.2.1; simp only at *; omega
  rw [List.getD_eq_getElem?_getD, List.getElem?_eq_getElem hu]
  exact h.2.2 _ (List.getElem_mem hu)
/-- The queue behind is valid. -/
theorem pop_valid {xs : List Tr} {sh db : List Int} {t : Int} (h : popOK xs sh db t = true) : validQ (popL xs sh db t) (popH xs sh db t) (popD xs sh db t) (popT xs sh db t) = true := by
  obtain ⟨N, u, d, k, x, hl, _, e2, e3, e4, e5⟩ := leaves_of h
  obtain ⟨hv, _⟩ := popOK_iff.1 h
  obtain ⟨h1, h2, h3, h4⟩ := validQ_iff.1 hv
  rw [e2, e3, e4, e5]
  have hd := okS_at hl.ok
  have hu := hl.ok.1
  have hs := hl.size
  have hd2 := hl.debt
  refine validQ_iff.2 ⟨validE_t ((validE_iff.1 h1).sub (leaveL_sub xs k)), h2, cnt_set (okS_cnt hl.ok) (by omega), inR_t (by omega) (by simp only at hu; omega)⟩
theorem pop_len {xs : List Tr} {sh db : List Int} {t : Int} (h : popOK xs sh db t = true) : (popL xs sh db t).length + 1 = xs.length := by
  obtain ⟨N, u, d, k, x, hl, _, e2, _⟩ := leaves_of h
  rw [e2]
  exact leaveL_len hl.lt
/-- All entries in the order in which they leave. -/
noncomputable def popAll : Nat → List Tr → List Int → List Int → Int → List Tr
  | 0, _, _, _, _ => []
  | n + 1, xs, sh, db, t => if popOK xs sh db t then popX xs sh db t :: popAll n (popL xs sh db t) (popH xs sh db t) (popD xs sh db t) (popT xs sh db t) else []
noncomputable def popA (xs : List Tr) (sh db : List Int) (t : Int) : List Tr := popAll xs.length xs sh db t
theorem popA_no {xs : List Tr} {sh db : List Int} {t : Int} (h : popOK xs sh db t = false) : popA xs sh db t = [] := by
  unfold popA
  cases xs.length <;> simp [popAll, h]
theorem popA_yes {xs : List Tr} {sh db : List Int} {t : Int} (h : popOK xs sh db t = true) : popA xs sh db t = popX xs sh db t :: popA (popL xs sh db t) (popH xs sh db t) (popD xs sh db t) (popT xs sh db t) := by
  have hl := pop_len h
  unfold popA
  obtain ⟨m, hm⟩ : ∃ m, xs.length = m + 1 := ⟨_, hl.symm⟩
  have e : (popL xs sh db t).length = m := by omega
  rw [e, hm]
  simp [popAll, h]
theorem popA_len (xs : List Tr) (sh db : List Int) (t : Int) : (popA xs sh db t).length ≤ xs.length := by
  generalize hn : xs.length = n
  induction n generalizing xs sh db t with
  | zero => simp [popA, hn, popAll]
  | succ n ih =>
    rcases h : popOK xs sh db t with _ | _
    · rw [popA_no h]; simp
    · rw [popA_yes h]
      have := pop_len h
      have := ih (popL xs sh db t) (popH xs sh db t) (popD xs sh db t) (popT xs sh db t) (by omega)
      simp; omega
end Go.Proofs.Ytmlnaijpbfddaaa
