/-
  Mathematics of the laws on arenas: no program.
-/
import Derived.Test.YtleoncjdhlomaaaArQ
import Derived.Test.YtleoncjdhlomaaaArL
namespace Go.Proofs.Ytleoncjdhlomaaa
open Go.RowKit

/-- Blocks that lie one behind the other from a place on. -/
def chA (e s : Int) : List Tr → Prop
  | [] => e ≤ s
  | x :: xs => e ≤ x.b ∧ 1 ≤ x.c ∧ chA (x.b + x.c) s xs
/-- The gaps from a place on. -/
def gpA (e s : Int) : List Tr → List (Int × Int)
  | [] => [(e, s - e)]
  | x :: xs => (e, x.b - e) :: gpA (x.b + x.c) s xs
/-- The blocks moved together from a place on. -/
def cmR (e : Int) : List Tr → List Tr
  | [] => []
  | x :: xs => ⟨x.a, e, x.c⟩ :: cmR (e + x.c) xs
def endF (e : Int) (xs : List Tr) : Int := match xs.getLast? with | some x => x.b + x.c | none => e
def sumC (xs : List Tr) : Int := (xs.map Tr.c).sum
theorem endF_cons (e : Int) (x : Tr) (xs : List Tr) : endF e (x :: xs) = endF (x.b + x.c) xs := by
  cases xs with
  | nil => rfl
  | cons y ys =>
    cases h : (y :: ys).getLast? with
    | none => simp at h
    | some z => simp [endF, List.getLast?_cons_cons, h]
theorem endT_F (xs : List Tr) : endT xs = endF 0 xs := rfl
theorem chA_le {e s : Int} {xs : List Tr} (h : chA e s xs) : e ≤ s := by
  induction xs generalizing e with
  | nil => exact h
  | cons x xs ih => have := ih h.2.2; have := h.1; have := h.2.1; omega
theorem chA_sum {e s : Int} {xs : List Tr} (h : chA e s xs) : e + sumC xs ≤ s := by
  induction xs generalizing e with
  | nil => simp only [chA] at h; simpa [sumC] using h
  | cons x xs ih =>
    have h1 := ih h.2.2
    have h2 := h.1
    simp only [sumC, List.map_cons, List.sum_cons] at h1 ⊢
    omega
theorem chA_mono {e e' s : Int} {xs : List Tr} (h : chA e s xs) (he : e' ≤ e) : chA e' s xs := by
  cases xs with
  | nil => simp only [chA] at *; omega
  | cons x xs => exact ⟨by have := h.1; omega, h.2⟩
theorem chA_wide {e s s' : Int} {xs : List Tr} (h : chA e s xs) (hs : s ≤ s') : chA e s' xs := by
  induction xs generalizing e with
  | nil => simp only [chA] at *; omega
  | cons x xs ih => exact ⟨h.1, h.2.1, ih h.2.2⟩
theorem chA_iff {e s : Int} {xs : List Tr} :
    chA e s xs ↔ (e ≤ s ∧ ∀ j x, xs[j]? = some x → endF e (xs.take j) ≤ x.b ∧ x.b ≤ s ∧ 1 ≤ x.c ∧ x.c ≤ s - x.b) := by
  induction xs generalizing e with
  | nil => simp [chA]
  | cons x xs ih =>
    constructor
    · intro h
      refine ⟨chA_le h, fun j y hy => ?_⟩
      have h3 := ih.1 h.2.2
      have h4 := h.1
      have h5 := h.2.1
      rcases j with _ | j
      · simp at hy
        subst hy
        have := h3.1
        simp only [List.take_zero]
        show e ≤ _ ∧ _
        omega
      · simp at hy
        have := h3.2 j y hy
        rw [List.take_succ_cons, endF_cons]
        exact this
    · rintro ⟨h1, h2⟩
      have h3 := h2 0 x (by simp)
      simp only [List.take_zero] at h3
      have h3' : e ≤ x.b ∧ x.b ≤ s ∧ 1 ≤ x.c ∧ x.c ≤ s - x.b := h3
      refine ⟨h3'.1, h3'.2.2.1, ih.2 ⟨by omega, fun j y hy => ?_⟩⟩
      have h4 := h2 (j + 1) y (by simpa using hy)
      rwa [List.take_succ_cons, endF_cons] at h4
/-- Names are names, and each is used once. -/
def nmA (xs : List Tr) : Prop := (∀ x ∈ xs, 0 ≤ x.a ∧ x.a ≤ 99) ∧ (xs.map Tr.a).Nodup
theorem nodup_iff {l : List Int} : l.Nodup ↔ ∀ (j : Nat) (x : Int), l[j]? = some x → x ∉ l.take j := by
  constructor
  · intro h j x hx hm
    obtain ⟨i, hi, e⟩ := List.getElem_of_mem hm
    rw [List.length_take] at hi
    have hj := (List.getElem?_eq_some_iff.1 hx)
    have h2 := (List.pairwise_iff_getElem.1 h) i j (by omega) hj.1 (by omega)
    rw [List.getElem_take] at e
    exact h2 (by rw [e]; exact hj.2.symm)
  · intro h
    refine List.pairwise_iff_getElem.2 fun i j hi hj hij e => ?_
    refine h j l[j] (List.getElem?_eq_getElem hj) ?_
    rw [← e, List.mem_take_iff_getElem]
    exact ⟨i, by omega, rfl⟩
theorem valid_ch {s : Int} {xs : List Tr} : ValidA s xs ↔ (0 ≤ s ∧ s ≤ 64) ∧ xs.length ≤ 10 ∧ nmA xs ∧ chA 0 s xs := by
  constructor
  · rintro ⟨h1, h2, h3⟩
    refine ⟨h1, h2, ⟨fun x hx => (ValidA.at_ ⟨h1, h2, h3⟩ hx).1, nodup_iff.2 fun j x hx hm => ?_⟩, chA_iff.2 ⟨h1.1, fun j x hx => ?_⟩⟩
    · rw [List.getElem?_map] at hx
      obtain ⟨y, hy, rfl⟩ := Option.map_eq_some_iff.1 hx
      rw [← List.map_take] at hm
      obtain ⟨z, hz, e⟩ := List.mem_map.1 hm
      exact (h3 j (List.getElem?_eq_some_iff.1 hy).1 y hy).2.1 z hz e
    · obtain ⟨_, _, h4, h5⟩ := h3 j (List.getElem?_eq_some_iff.1 hx).1 x hx
      rw [endT_F] at h4
      omega
  · rintro ⟨h1, h2, h3, h4⟩
    refine ⟨h1, h2, fun j hj x hx => ?_⟩
    obtain ⟨h5, h6, h7, h8⟩ := (chA_iff.1 h4).2 j x hx
    refine ⟨h3.1 x (List.mem_of_getElem? hx), fun y hy e => ?_, ⟨by rw [endT_F]; exact h5, h6⟩, h7, h8⟩
    refine nodup_iff.1 h3.2 j x.a (by rw [List.getElem?_map, hx]; rfl) ?_
    rw [← List.map_take, ← e]
    exact List.mem_map_of_mem hy
theorem gaps_aux (e s : Int) (xs : List Tr) :
    ((List.range xs.length).map fun i => (endF e (xs.take i), (xs.getD i default).b - endF e (xs.take i))) ++ [(endF e xs, s - endF e xs)] = gpA e s xs := by
  induction xs generalizing e with
  | nil => rfl
  | cons x xs ih =>
    rw [List.length_cons, List.range_succ_eq_map, gpA, ← ih, endF_cons]
    simp only [List.map_cons, List.map_map, List.cons_append, List.take_zero]
    congr 1
    congr 1
    refine List.map_congr_left fun i _ => ?_
    simp [endF_cons]
theorem gaps_gp (s : Int) (xs : List Tr) : gapsA s xs = gpA 0 s xs := gaps_aux 0 s xs
theorem cmp_aux (e : Int) (xs : List Tr) :
    ((List.range xs.length).map fun i => (⟨(xs.getD i default).a, e + ((xs.take i).map Tr.c).sum, (xs.getD i default).c⟩ : Tr)) = cmR e xs := by
  induction xs generalizing e with
  | nil => rfl
  | cons x xs ih =>
    rw [List.length_cons, List.range_succ_eq_map, cmR, ← ih]
    simp only [List.map_cons, List.map_map, List.take_zero]
    refine List.cons_eq_cons.2 ⟨by simp, ?_⟩
    refine List.map_congr_left fun i _ => ?_
    simp [Int.add_assoc]
theorem cmp_cm (xs : List Tr) : cmpL xs = cmR 0 xs := by
  rw [← cmp_aux]
  simp [cmpL]
theorem most_le {L : List (Int × Int)} {m : Int} : mostP L ≤ m ↔ 0 ≤ m ∧ ∀ g ∈ L, g.2 ≤ m := by
  have h : ∀ (L : List (Int × Int)) (a : Int), L.foldl (fun m g => max m g.2) a ≤ m ↔ a ≤ m ∧ ∀ g ∈ L, g.2 ≤ m := by
    intro L
    induction L with
    | nil => simp
    | cons x L ih =>
      intro a
      rw [List.foldl_cons, ih]
      simp only [List.forall_mem_cons, Int.max_le, and_assoc]
  exact h L 0
theorem most_ge {L : List (Int × Int)} {sz : Int} (h1 : 1 ≤ sz) : sz ≤ mostP L ↔ ∃ g ∈ L, sz ≤ g.2 := by
  constructor
  · intro h
    refine Classical.byContradiction fun hc => ?_
    have h2 : mostP L ≤ sz - 1 := most_le.2 ⟨by omega, fun g hg => by
      rcases Int.lt_or_le g.2 sz with h3 | h3
      · omega
      · exact absurd ⟨g, hg, h3⟩ hc⟩
    omega
  · rintro ⟨g, hg, h2⟩
    have := (most_le.1 (Int.le_refl (mostP L))).2 g hg
    omega
theorem most_at {L : List (Int × Int)} {g : Int × Int} (hg : g ∈ L) : g.2 ≤ mostP L := (most_le.1 (Int.le_refl _)).2 g hg
theorem most_0 (L : List (Int × Int)) : 0 ≤ mostP L := (most_le.1 (Int.le_refl _)).1
theorem fit_lt {s sz : Int} {xs : List Tr} (h1 : 1 ≤ sz) : fitA s xs sz < (gapsA s xs).length ↔ sz ≤ mostP (gapsA s xs) := by
  rw [most_ge h1, fitA, List.findIdx_lt_length]
  simp
theorem where_none {nm : Int} {xs : List Tr} : ¬ whereA nm xs < xs.length ↔ nm ∉ xs.map Tr.a := by
  rw [whereA, List.findIdx_lt_length]
  constructor
  · intro h hm
    obtain ⟨x, hx, e⟩ := List.mem_map.1 hm
    exact h ⟨x, hx, by simpa using e⟩
  · rintro h ⟨x, hx, e⟩
    exact h (List.mem_map.2 ⟨x, hx, by simpa using e⟩)
-- leaving a block out
theorem ch_erase {e s : Int} {xs : List Tr} (h : chA e s xs) (k : Nat) : chA e s (xs.take k ++ xs.drop (k + 1)) := by
  induction xs generalizing e k with
  | nil => simpa using h
  | cons x xs ih =>
    rcases k with _ | k
    · simp only [List.take_zero, List.nil_append, List.drop_succ_cons, List.drop_zero]
      exact chA_mono h.2.2 (by have := h.1; have := h.2.1; omega)
    · simp only [List.take_succ_cons, List.drop_succ_cons, List.cons_append]
      exact ⟨h.1, h.2.1, ih h.2.2 k⟩
theorem sub_erase {α : Type} (xs : List α) (k : Nat) : (xs.take k ++ xs.drop (k + 1)).Sublist xs := by
  rw [← List.eraseIdx_eq_take_drop_succ]
  exact List.eraseIdx_sublist xs k
theorem nm_sub {xs ys : List Tr} (h : nmA xs) (hs : ys.Sublist xs) : nmA ys :=
  ⟨fun x hx => h.1 x (hs.subset hx), h.2.sublist (hs.map _)⟩
theorem valid_erase {s : Int} {xs : List Tr} (h : validA s xs = true) (k : Nat) : validA s (xs.take k ++ xs.drop (k + 1)) = true := by
  obtain ⟨h1, h2, h3, h4⟩ := valid_ch.1 (validA_iff.1 h)
  exact validA_t (valid_ch.2 ⟨h1, Nat.le_trans (sub_erase xs k).length_le h2, nm_sub h3 (sub_erase xs k), ch_erase h4 k⟩)
theorem valid_none {s : Int} (h : 0 ≤ s ∧ s ≤ 64) : validA s [] = true := validA_t (valid_ch.2 ⟨h, by simp, ⟨by simp, by simp⟩, h.1⟩)
theorem valid_size {s t : Int} {xs : List Tr} (h : validA s xs = true) (hs : s ≤ t) (ht : t ≤ 64) : validA t xs = true := by
  obtain ⟨h1, h2, h3, h4⟩ := valid_ch.1 (validA_iff.1 h)
  exact validA_t (valid_ch.2 ⟨by omega, h2, h3, chA_wide h4 hs⟩)
theorem valid_big {xs : List Tr} : validA 65 xs = false := validA_f fun h => by have := h.1; omega
theorem sumC_erase {xs : List Tr} {k : Nat} {x : Tr} (h : xs[k]? = some x) : sumC (xs.take k ++ xs.drop (k + 1)) = sumC xs - x.c := by
  induction xs generalizing k with
  | nil => simp at h
  | cons y xs ih =>
    rcases k with _ | k
    · simp at h
      subst h
      simp only [sumC, List.take_zero, List.nil_append, List.drop_succ_cons, List.drop_zero, List.map_cons, List.sum_cons]
      omega
    · simp at h
      have := ih h
      simp only [sumC, List.take_succ_cons, List.drop_succ_cons, List.cons_append, List.map_cons, List.sum_cons] at this ⊢
      omega
theorem gp_erase {e s m : Int} {xs : List Tr} (hc : chA e s xs) (k : Nat) (h : ∀ g ∈ gpA e s (xs.take k ++ xs.drop (k + 1)), g.2 ≤ m) : ∀ g ∈ gpA e s xs, g.2 ≤ m := by
  induction xs generalizing e k with
  | nil => simpa using h
  | cons x xs ih =>
    have c1 := hc.1
    have c2 := hc.2.1
    rcases k with _ | k
    · simp only [List.take_zero, List.nil_append, List.drop_succ_cons, List.drop_zero] at h
      have c3 := hc.2.2
      intro g hg
      simp only [gpA, List.mem_cons] at hg
      cases xs with
      | nil =>
        have h1 := h (e, s - e) (by simp [gpA])
        simp only [chA] at c3
        simp only [gpA, List.mem_cons, List.not_mem_nil, or_false] at hg
        rcases hg with rfl | rfl <;> simp only at h1 ⊢ <;> omega
      | cons y ys =>
        have h1 := h (e, y.b - e) (by simp [gpA])
        have h2 := c3.1
        simp only [gpA, List.mem_cons] at hg
        rcases hg with rfl | rfl | hg
        · simp only at h1 ⊢; omega
        · simp only at h1 ⊢; omega
        · exact h g (by simp [gpA, hg])
    · simp only [List.take_succ_cons, List.drop_succ_cons, List.cons_append, gpA, List.forall_mem_cons] at h ⊢
      exact ⟨h.1, ih hc.2.2 k h.2⟩
theorem gap_erase {s : Int} {xs : List Tr} (h : validA s xs = true) (k : Nat) : gapA s xs ≤ gapA s (xs.take k ++ xs.drop (k + 1)) := by
  obtain ⟨_, _, _, h4⟩ := valid_ch.1 (validA_iff.1 h)
  simp only [gapA, h, valid_erase h k, if_true, gaps_gp]
  exact most_le.2 ⟨most_0 _, gp_erase h4 k fun g hg => most_at hg⟩
theorem where_get {nm : Int} {xs : List Tr} (h : whereA nm xs < xs.length) : ∃ x, xs[whereA nm xs]? = some x ∧ x.a = nm := by
  refine ⟨xs[whereA nm xs], List.getElem?_eq_getElem h, ?_⟩
  have := List.findIdx_getElem (p := fun x : Tr => x.a == nm) (xs := xs) (w := h)
  exact eq_of_beq this
theorem erase_gone {nm : Int} {xs : List Tr} (hd : nmA xs) (h : whereA nm xs < xs.length) : nm ∉ (xs.take (whereA nm xs) ++ xs.drop (whereA nm xs + 1)).map Tr.a := by
  obtain ⟨x, hx, e⟩ := where_get h
  intro hm
  obtain ⟨y, hy, e2⟩ := List.mem_map.1 hm
  have hd2 := hd.2
  rw [show xs = xs.take (whereA nm xs) ++ x :: xs.drop (whereA nm xs + 1) by
    conv => lhs; rw [← List.take_append_drop (whereA nm xs) xs, List.drop_eq_getElem_cons h]
    rw [(List.getElem?_eq_some_iff.1 hx).2]] at hd2
  simp only [List.map_append, List.map_cons, List.nodup_append, List.nodup_cons, List.mem_cons, List.mem_map] at hd2
  rcases List.mem_append.1 hy with h1 | h1
  · exact hd2.2.2 nm ⟨y, h1, e2⟩ nm (.inl e.symm) rfl
  · exact hd2.2.1.1 ⟨y, h1, by rw [e2, e]⟩
theorem fr_facts {s nm : Int} {xs : List Tr} (h : frOK s xs nm = true) :
    validA s xs = true ∧ whereA nm xs < xs.length ∧ frS s xs nm = s ∧ frX s xs nm = xs.take (whereA nm xs) ++ xs.drop (whereA nm xs + 1) := by
  have h' := h
  simp only [frOK, Bool.and_eq_true, decide_eq_true_eq] at h
  exact ⟨h.1, h.2, by simp [frS, h'], by simp [frX, h']⟩
theorem fr_more {s nm : Int} {xs ys : List Tr} (h : frOK s xs nm = true) (hy : ys = frX s xs nm) :
    frOK s ys nm = false ∧ usedA s ys < usedA s xs ∧ gapA s xs ≤ gapA s ys ∧ validA s ys = true := by
  obtain ⟨h1, h2, _, h4⟩ := fr_facts h
  obtain ⟨x, hx, e⟩ := where_get h2
  have hv := valid_erase h1 (whereA nm xs)
  obtain ⟨_, _, h5, h6⟩ := valid_ch.1 (validA_iff.1 h1)
  rw [hy, h4]
  refine ⟨frOK_f2 (where_none.2 (erase_gone h5 h2)), ?_, gap_erase h1 _, hv⟩
  have hc := (validA_used h1).2 x (List.mem_of_getElem? hx)
  have := sumC_erase hx
  simp only [sumC] at this
  simp only [usedA, h1, hv, if_true]
  omega
-- laying a block
theorem ch_ins {e s sz nm : Int} {xs : List Tr} {k : Nat} {g : Int × Int} (h : chA e s xs) (hg : (gpA e s xs)[k]? = some g) (hz : sz ≤ g.2) (h1 : 1 ≤ sz) : chA e s (xs.take k ++ ⟨nm, g.1, sz⟩ :: xs.drop k) := by
  induction xs generalizing e k with
  | nil =>
    rcases k with _ | k
    · simp [gpA] at hg
      subst hg
      simp only [List.take_nil, List.drop_nil, List.nil_append, chA] at h hz ⊢
      omega
    · simp [gpA] at hg
  | cons x xs ih =>
    rcases k with _ | k
    · simp [gpA] at hg
      subst hg
      simp only [List.take_zero, List.drop_zero, List.nil_append] at hz ⊢
      exact ⟨Int.le_refl _, h1, by show e + sz ≤ x.b; omega, h.2.1, h.2.2⟩
    · simp only [gpA, List.getElem?_cons_succ] at hg
      exact ⟨h.1, h.2.1, ih h.2.2 hg⟩
theorem gp_len (e s : Int) (xs : List Tr) : (gpA e s xs).length = xs.length + 1 := by
  induction xs generalizing e with
  | nil => rfl
  | cons x xs ih => simp [gpA, ih]
theorem al_facts {s nm sz : Int} {xs : List Tr} (h : alOK s xs nm sz = true) :
    ∃ k p, k ≤ xs.length ∧ validA s xs = true ∧ alS s xs nm sz = s ∧ alX s xs nm sz = xs.take k ++ [⟨nm, p, sz⟩] ++ xs.drop k ∧ validA s (xs.take k ++ [⟨nm, p, sz⟩] ++ xs.drop k) = true ∧ nm ∉ xs.map Tr.a ∧ (1 ≤ sz ∧ sz ≤ 64) ∧ (gapsA s xs)[k]? = some (p, ((gapsA s xs).getD k (0, 0)).2) ∧ sz ≤ ((gapsA s xs).getD k (0, 0)).2 ∧ k = fitA s xs sz := by
  have h' := h
  simp only [alOK, Bool.and_eq_true, Bool.not_eq_true', decide_eq_true_eq, decide_eq_false_iff_not] at h
  obtain ⟨h1, h2, h3, h4, h5, h6⟩ := h
  obtain ⟨z1, z2⟩ := inR_iff.1 h4
  have hk : fitA s xs sz ≤ xs.length := by rw [gapsA_len] at h6; omega
  have hg : (gapsA s xs)[fitA s xs sz]? = some ((gapsA s xs).getD (fitA s xs sz) (0, 0)) := by
    rw [List.getD_eq_getElem?_getD, List.getElem?_eq_getElem h6]; rfl
  have hz : sz ≤ ((gapsA s xs).getD (fitA s xs sz) (0, 0)).2 := by
    have := List.findIdx_getElem (p := fun g : Int × Int => decide (sz ≤ g.2)) (xs := gapsA s xs) (w := h6)
    rw [List.getD_eq_getElem?_getD, List.getElem?_eq_getElem h6]
    exact of_decide_eq_true this
  have hp : fitP s xs sz = ((gapsA s xs).getD (fitA s xs sz) (0, 0)).1 := by rw [fitP, if_pos h6]
  have hnm := where_none.1 h3
  obtain ⟨v1, v2, v3, v4⟩ := valid_ch.1 (validA_iff.1 h1)
  refine ⟨fitA s xs sz, fitP s xs sz, hk, h1, by simp [alS, h'], by simp [alX, h'], ?_, hnm, ⟨z1, z2⟩, by rw [hp]; exact hg, hz, rfl⟩
  refine validA_t (valid_ch.2 ⟨v1, ?_, ⟨?_, ?_⟩, ?_⟩)
  · simp only [List.length_append, List.length_take, List.length_drop, List.length_cons, List.length_nil]
    omega
  · intro x hx
    simp only [List.mem_append, List.mem_singleton] at hx
    rcases hx with (hx | rfl) | hx
    · exact v3.1 x (List.mem_of_mem_take hx)
    · exact inR_iff.1 h2
    · exact v3.1 x (List.mem_of_mem_drop hx)
  · have hd := v3.2
    rw [← List.take_append_drop (fitA s xs sz) xs, List.map_append, List.nodup_append] at hd
    have hn2 := hnm
    rw [← List.take_append_drop (fitA s xs sz) xs, List.map_append, List.mem_append] at hn2
    rw [List.append_assoc, List.map_append, List.nodup_append]
    refine ⟨hd.1, ?_, ?_⟩
    · simp only [List.cons_append, List.nil_append, List.map_cons, List.nodup_cons]
      exact ⟨fun h => hn2 (.inr h), hd.2.1⟩
    · intro a ha b hb e
      simp only [List.cons_append, List.nil_append, List.map_cons, List.mem_cons] at hb
      rcases hb with rfl | hb
      · exact hn2 (.inl (by rw [← e]; exact ha))
      · exact hd.2.2 a ha b hb e
  · rw [gaps_gp] at hg hz
    have := ch_ins (nm := nm) v4 hg hz z1
    rw [hp, gaps_gp]
    simpa using this
theorem where_ins {nm p sz : Int} {xs : List Tr} {k : Nat} (hk : k ≤ xs.length) (hn : nm ∉ xs.map Tr.a) : whereA nm (xs.take k ++ [⟨nm, p, sz⟩] ++ xs.drop k) = k := by
  have hl : (xs.take k).length = k := by rw [List.length_take]; omega
  rw [List.append_assoc, whereA, List.findIdx_append, if_neg]
  · simp [List.findIdx_cons, hl]
  · rw [List.findIdx_lt_length]
    rintro ⟨x, hx, e⟩
    exact hn (List.mem_map.2 ⟨x, List.mem_of_mem_take hx, by simpa using e⟩)
theorem ins_back {nm p sz : Int} {xs : List Tr} {k : Nat} (hk : k ≤ xs.length) : (xs.take k ++ [(⟨nm, p, sz⟩ : Tr)] ++ xs.drop k).take k ++ (xs.take k ++ [(⟨nm, p, sz⟩ : Tr)] ++ xs.drop k).drop (k + 1) = xs := by
  have hl : (xs.take k).length = k := by rw [List.length_take]; omega
  have e1 : (xs.take k ++ [(⟨nm, p, sz⟩ : Tr)] ++ xs.drop k).take k = xs.take k := by
    rw [List.append_assoc, List.take_append_of_le_length (by omega), List.take_of_length_le (by omega)]
  have e2 : (xs.take k ++ [(⟨nm, p, sz⟩ : Tr)] ++ xs.drop k).drop (k + 1) = xs.drop k := by
    rw [List.drop_append_of_le_length (by simp; omega), List.drop_of_length_le (by simp; omega)]
    rfl
  rw [e1, e2, List.take_append_drop]
theorem al_more {s nm sz : Int} {xs ys : List Tr} (h : alOK s xs nm sz = true) (hy : ys = alX s xs nm sz) :
    alS s xs nm sz = s ∧ frOK s ys nm = true ∧ frX s ys nm = xs ∧ frS s ys nm = s ∧ usedA s ys = usedA s xs + sz ∧ validA s ys = true ∧ ys.length = xs.length + 1 := by
  obtain ⟨k, p, hk, h1, h2, h3, h4, h5, h6, _⟩ := al_facts h
  have hw := where_ins (p := p) (sz := sz) hk h5
  rw [hy, h3]
  have hlen : (xs.take k ++ [(⟨nm, p, sz⟩ : Tr)] ++ xs.drop k).length = xs.length + 1 := by simp; omega
  have hok : frOK s (xs.take k ++ [⟨nm, p, sz⟩] ++ xs.drop k) nm = true := frOK_t h4 (by rw [hw, hlen]; omega)
  obtain ⟨_, _, f1, f2⟩ := fr_facts hok
  refine ⟨h2, hok, ?_, f1, ?_, h4, hlen⟩
  · rw [f2, hw]; exact ins_back hk
  · simp only [usedA, h1, h4, if_true]
    have e := congrArg sumC (List.take_append_drop k xs)
    simp only [sumC, List.map_append, List.sum_append, List.map_cons, List.map_nil, List.sum_cons, List.sum_nil] at e ⊢
    omega
/-- When a block can be laid. -/
theorem al_when {s nm sz : Int} {xs : List Tr} (hv : validA s xs = true) (hn : inR nm 0 99 = true) (hz : inR sz 1 64 = true) :
    alOK s xs nm sz = (!frOK s xs nm && (decide (sz ≤ gapA s xs) && decide (xs.length < 10))) := by
  obtain ⟨z1, z2⟩ := inR_iff.1 hz
  have h10 := (validA_used hv).1
  have e : gapA s xs = mostP (gapsA s xs) := by simp [gapA, hv]
  rw [Bool.eq_iff_iff]
  simp only [alOK, hv, hn, hz, frOK, Bool.true_and, Bool.and_eq_true, Bool.not_eq_true', decide_eq_true_eq, decide_eq_false_iff_not, fit_lt z1, e]
  constructor
  · rintro ⟨a, b, c⟩; exact ⟨a, c, by omega⟩
  · rintro ⟨a, b, c⟩; exact ⟨a, by omega, b⟩
-- moving blocks together
theorem cm_len (e : Int) (xs : List Tr) : (cmR e xs).length = xs.length := by
  induction xs generalizing e with
  | nil => rfl
  | cons x xs ih => simp [cmR, ih]
theorem cm_names (e : Int) (xs : List Tr) : (cmR e xs).map Tr.a = xs.map Tr.a := by
  induction xs generalizing e with
  | nil => rfl
  | cons x xs ih => simp [cmR, ih]
theorem cm_sum (e : Int) (xs : List Tr) : sumC (cmR e xs) = sumC xs := by
  induction xs generalizing e with
  | nil => rfl
  | cons x xs ih => have := ih (e + x.c); simp only [sumC, cmR, List.map_cons, List.sum_cons] at this ⊢; omega
theorem cm_ch {e s : Int} {xs : List Tr} (h1 : ∀ x ∈ xs, 1 ≤ x.c) (h : e + sumC xs ≤ s) : chA e s (cmR e xs) := by
  induction xs generalizing e with
  | nil => simpa [sumC, cmR, chA] using h
  | cons x xs ih =>
    simp only [sumC, List.map_cons, List.sum_cons] at h
    exact ⟨Int.le_refl _, h1 x (by simp), ih (fun y hy => h1 y (by simp [hy])) (by simp only [sumC]; omega)⟩
theorem cm_twice (e : Int) (xs : List Tr) : cmR e (cmR e xs) = cmR e xs := by
  induction xs generalizing e with
  | nil => rfl
  | cons x xs ih => simp [cmR, ih]
theorem cm_at {e e' s : Int} {xs : List Tr} (h : chA e s xs) (he : e' ≤ e) {i : Nat} {x : Tr} (hx : xs[i]? = some x) : ∃ y, (cmR e' xs)[i]? = some y ∧ y.a = x.a ∧ y.c = x.c ∧ y.b ≤ x.b := by
  induction xs generalizing e e' i with
  | nil => simp at hx
  | cons z xs ih =>
    rcases i with _ | i
    · simp at hx
      subst hx
      exact ⟨⟨z.a, e', z.c⟩, by simp [cmR], rfl, rfl, by have := h.1; show e' ≤ z.b; omega⟩
    · simp at hx
      have := ih h.2.2 (e' := e' + z.c) (by have := h.1; omega) hx
      simpa [cmR] using this
theorem gp_top {e s : Int} {xs : List Tr} (h : chA e s xs) : ∀ g ∈ gpA e s xs, g.2 ≤ s - (e + sumC xs) := by
  induction xs generalizing e with
  | nil => simp [gpA, sumC]
  | cons x xs ih =>
    have h1 := ih h.2.2
    have h2 := chA_sum h.2.2
    have h3 := h.1
    intro g hg
    simp only [gpA, List.mem_cons] at hg
    simp only [sumC, List.map_cons, List.sum_cons] at h1 h2 ⊢
    rcases hg with rfl | hg
    · simp only; omega
    · have := h1 g hg; omega
theorem gp_last (e s : Int) (xs : List Tr) : (e + sumC xs, s - (e + sumC xs)) ∈ gpA e s (cmR e xs) := by
  induction xs generalizing e with
  | nil => simp [gpA, cmR, sumC]
  | cons x xs ih =>
    have := ih (e + x.c)
    simp only [cmR, gpA, List.mem_cons]
    simp only [sumC, List.map_cons, List.sum_cons, Int.add_assoc] at this ⊢
    exact .inr this
theorem cmp_facts {s : Int} {xs : List Tr} (h : validA s xs = true) :
    validA s (cmpL xs) = true ∧ gapA s (cmpL xs) = s - usedA s xs ∧ usedA s (cmpL xs) = usedA s xs ∧ gapA s xs ≤ gapA s (cmpL xs) ∧ cmpL (cmpL xs) = cmpL xs ∧ 0 ≤ usedA s xs ∧ usedA s xs ≤ s := by
  obtain ⟨v1, v2, v3, v4⟩ := valid_ch.1 (validA_iff.1 h)
  have hc : ∀ x ∈ xs, 1 ≤ x.c := fun x hx => ((validA_used h).2 x hx).1
  have hs := chA_sum v4
  have hs0 : 0 ≤ sumC xs := by
    have : ∀ l : List Tr, (∀ x ∈ l, 1 ≤ x.c) → 0 ≤ sumC l := fun l => by
      induction l with
      | nil => simp [sumC]
      | cons x l ih => intro hl; have := ih (fun y hy => hl y (by simp [hy])); have := hl x (by simp); simp only [sumC, List.map_cons, List.sum_cons] at *; omega
    exact this xs hc
  have hv : validA s (cmpL xs) = true := by
    rw [cmp_cm]
    refine validA_t (valid_ch.2 ⟨v1, by rw [cm_len]; exact v2, ⟨?_, by rw [cm_names]; exact v3.2⟩, cm_ch hc hs⟩)
    intro x hx
    have hm : x.a ∈ (cmR 0 xs).map Tr.a := List.mem_map_of_mem hx
    rw [cm_names] at hm
    obtain ⟨y, hy, e⟩ := List.mem_map.1 hm
    rw [← e]
    exact v3.1 y hy
  have hu : usedA s xs = sumC xs := by simp [usedA, h, sumC]
  have hu2 : usedA s (cmpL xs) = sumC xs := by
    have := cm_sum 0 xs
    rw [← cmp_cm] at this
    rw [← this]
    simp [usedA, hv, sumC]
  have hg : gapA s (cmpL xs) = s - sumC xs := by
    simp only [gapA, hv, if_true, gaps_gp]
    rw [cmp_cm]
    have h1 := gp_last 0 s xs
    have h2 := most_at h1
    have h3 : mostP (gpA 0 s (cmR 0 xs)) ≤ s - sumC xs := most_le.2 ⟨by omega, fun g hg => by
      have := gp_top (cm_ch (e := 0) hc hs) g hg
      rw [cm_sum] at this
      omega⟩
    simp only at h2
    omega
  refine ⟨hv, by rw [hg, hu], by rw [hu, hu2], ?_, by rw [cmp_cm, cmp_cm, cm_twice], by rw [hu]; exact hs0, by rw [hu]; omega⟩
  rw [hg]
  simp only [gapA, h, if_true, gaps_gp]
  exact most_le.2 ⟨by omega, fun g hg => by have := gp_top v4 g hg; omega⟩
theorem cmp_get {s : Int} {xs : List Tr} (h : validA s xs = true) {i : Nat} {x : Tr} (hx : xs[i]? = some x) : ∃ y, (cmpL xs)[i]? = some y ∧ y.a = x.a ∧ y.c = x.c ∧ y.b ≤ x.b := by
  obtain ⟨_, _, _, v4⟩ := valid_ch.1 (validA_iff.1 h)
  rw [cmp_cm]
  exact cm_at v4 (Int.le_refl _) hx
theorem where_cmp (nm : Int) (xs : List Tr) : (whereA nm (cmpL xs) < (cmpL xs).length) = (whereA nm xs < xs.length) := by
  have h1 := where_none (nm := nm) (xs := cmpL xs)
  have h2 := where_none (nm := nm) (xs := xs)
  have e : (cmpL xs).map Tr.a = xs.map Tr.a := by rw [cmp_cm, cm_names]
  rw [e] at h1
  exact propext (Decidable.not_iff_not.1 (h1.trans h2.symm))
theorem al_cmp {s nm sz : Int} {xs : List Tr} (hv : validA s xs = true) (hn : inR nm 0 99 = true) (hz : inR sz 1 64 = true) :
    alOK s (cmpL xs) nm sz = (!frOK s xs nm && (decide (xs.length < 10) && decide (usedA s xs + sz ≤ s))) := by
  obtain ⟨c1, c2, _⟩ := cmp_facts hv
  rw [al_when c1 hn hz, c2, cmpL_len]
  have e : frOK s (cmpL xs) nm = frOK s xs nm := by simp only [frOK, hv, c1, where_cmp]
  rw [e, Bool.eq_iff_iff]
  simp only [Bool.and_eq_true, decide_eq_true_eq]
  constructor
  · rintro ⟨a, b, c⟩; exact ⟨a, c, by omega⟩
  · rintro ⟨a, b, c⟩; exact ⟨a, by omega, b⟩
-- freeing two blocks
theorem where_mem {nm : Int} {xs : List Tr} : whereA nm xs < xs.length ↔ nm ∈ xs.map Tr.a := by
  have := where_none (nm := nm) (xs := xs)
  constructor
  · intro h; exact Classical.byContradiction fun hc => this.2 hc h
  · intro h; exact Classical.byContradiction fun hc => this.1 hc h
theorem erase_filter {nm : Int} {xs : List Tr} (hd : (xs.map Tr.a).Nodup) : xs.take (whereA nm xs) ++ xs.drop (whereA nm xs + 1) = xs.filter (fun x => !(x.a == nm)) := by
  induction xs with
  | nil => rfl
  | cons x xs ih =>
    simp only [List.map_cons, List.nodup_cons] at hd
    by_cases h : x.a = nm
    · subst h
      have e : whereA x.a (x :: xs) = 0 := by simp [whereA, List.findIdx_cons]
      rw [e]
      simp only [List.take_zero, List.nil_append, List.drop_succ_cons, List.drop_zero, beq_self_eq_true, Bool.not_true, Bool.false_eq_true, not_false_eq_true, List.filter_cons_of_neg]
      symm
      rw [List.filter_eq_self]
      intro y hy
      have : y.a ≠ x.a := fun e => hd.1 (by rw [← e]; exact List.mem_map_of_mem hy)
      simpa using this
    · have e : whereA nm (x :: xs) = whereA nm xs + 1 := by
        simp only [whereA, List.findIdx_cons]
        have : (x.a == nm) = false := by simpa using h
        rw [this]; rfl
      rw [e]
      simp only [List.take_succ_cons, List.drop_succ_cons, List.cons_append]
      rw [ih hd.2, List.filter_cons_of_pos (by simpa using h)]
theorem fr_filter {s nm : Int} {xs : List Tr} (h : frOK s xs nm = true) : frX s xs nm = xs.filter (fun x => !(x.a == nm)) := by
  obtain ⟨h1, _, _, h4⟩ := fr_facts h
  rw [h4, erase_filter (valid_ch.1 (validA_iff.1 h1)).2.2.1.2]
theorem fr_two {s nm : Int} {xs ys : List Tr} {y : Tr} (h : frOK s xs nm = true) (hy : ys = frX s xs nm) (h0 : ys[0]? = some y) :
    frOK s ys y.a = true ∧ frOK s xs y.a = true ∧ frOK s (frX s xs y.a) nm = true ∧ frX s (frX s xs y.a) nm = frX s ys y.a := by
  obtain ⟨h1, h2, _, h4⟩ := fr_facts h
  obtain ⟨_, _, _, hv⟩ := fr_more h hy
  have hym : y ∈ ys := List.mem_of_getElem? h0
  have hyx : y ∈ xs := by rw [hy, h4] at hym; exact (sub_erase xs _).subset hym
  have hne : y.a ≠ nm := fun e => by
    have h5 := (valid_ch.1 (validA_iff.1 h1)).2.2.1
    have h6 := erase_gone h5 h2
    rw [← h4, ← hy] at h6
    exact h6 (by rw [← e]; exact List.mem_map_of_mem hym)
  have k1 : frOK s ys y.a = true := frOK_t hv (where_mem.2 (List.mem_map_of_mem hym))
  have k2 : frOK s xs y.a = true := frOK_t h1 (where_mem.2 (List.mem_map_of_mem hyx))
  obtain ⟨_, _, _, hv2⟩ := fr_more k2 rfl
  have hnm : nm ∈ (frX s xs y.a).map Tr.a := by
    obtain ⟨x, hx, e⟩ := where_get h2
    rw [fr_filter k2]
    refine List.mem_map.2 ⟨x, List.mem_filter.2 ⟨List.mem_of_getElem? hx, ?_⟩, e⟩
    have : x.a ≠ y.a := by rw [e]; exact hne.symm
    simpa using this
  have k3 : frOK s (frX s xs y.a) nm = true := frOK_t hv2 (where_mem.2 hnm)
  refine ⟨k1, k2, k3, ?_⟩
  rw [fr_filter k3, fr_filter k1, fr_filter k2, hy, fr_filter h, List.filter_filter, List.filter_filter]
  congr 1
  funext x
  rw [Bool.and_comm]
theorem used_none {s : Int} (h : 0 ≤ s ∧ s ≤ 64) : usedA s [] = 0 ∧ gapA s [] = s := by
  have hv := valid_none h
  refine ⟨by simp [usedA, hv], ?_⟩
  simp only [gapA, hv, if_true, gaps_gp, gpA, mostP, List.foldl_cons, List.foldl_nil]
  omega
theorem used_zero {s : Int} {xs : List Tr} (h : validA s xs = true) : usedA s xs = 0 ↔ xs.length = 0 := by
  cases xs with
  | nil => simp [usedA, h]
  | cons x xs =>
    have hc := (validA_used h).2
    have h1 := hc x (by simp)
    have : ∀ l : List Tr, (∀ x ∈ l, 1 ≤ x.c ∧ x.c ≤ 64) → 0 ≤ (l.map Tr.c).sum := fun l => by
      induction l with
      | nil => simp
      | cons x l ih => intro hl; have := ih (fun y hy => hl y (by simp [hy])); have := hl x (by simp); simp only [List.map_cons, List.sum_cons] at *; omega
    have h2 := this xs (fun y hy => hc y (by simp [hy]))
    simp only [usedA, h, if_true, List.map_cons, List.sum_cons, List.length_cons]
    omega
theorem used_bd {s : Int} {xs : List Tr} (h : validA s xs = true) : 0 ≤ usedA s xs ∧ usedA s xs ≤ s ∧ 0 ≤ s ∧ s ≤ 64 := by
  obtain ⟨_, _, _, _, _, h1, h2⟩ := cmp_facts h
  exact ⟨h1, h2, (validA_iff.1 h).1⟩
theorem gap_bd2 {s : Int} {xs : List Tr} (h : validA s xs = true) : 0 ≤ gapA s xs ∧ gapA s xs ≤ s := by
  obtain ⟨_, h2, _, h4, _, h5, _⟩ := cmp_facts h
  refine ⟨by simp only [gapA, h, if_true]; exact most_0 _, by omega⟩
end Go.Proofs.Ytleoncjdhlomaaa
