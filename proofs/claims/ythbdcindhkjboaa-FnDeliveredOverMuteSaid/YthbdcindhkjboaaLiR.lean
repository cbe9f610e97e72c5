/-
  A run over a link, of the program.
-/
import Derived.Test.YthbdcindhkjboaaLiQ
import Derived.Test.YthbdcindhkjboaaGenB
import Derived.Deep.DeepMust
namespace Go.Proofs.Ythbdcindhkjboaa
open Go.RowKit
theorem disj_if {D : Option Addr} {g off o2 : Nat} {p : Prop} [Decidable p] (h : Disj D (some ⟨g, off, none⟩)) : Disj D (if p then some ⟨g, off, none⟩ else some ⟨g, o2, none⟩) := by
  split
  · exact h
  · intro a b ha hb
    cases hb
    have := h a _ ha rfl
    exact this
/-- The state of a run, in box g. -/
def Run (TB T : Nat) (w : World) (g base : Nat) (q a : List Int) (s : Nat) : Prop :=
  ∃ Q nq cq A na ca, Blk w g TB #[.slice Q nq cq, .slice A na ca, .int .i64 (s : Int)] ∧ QS w T base Q nq cq q ∧ OW w T base A na ca a ∧ Disj (some ⟨g, 0, none⟩) Q ∧ Disj (some ⟨g, 0, none⟩) A ∧ Disj Q A
theorem Run.lt {TB T : Nat} {w : World} {g base : Nat} {q a : List Int} {s : Nat} (h : Run TB T w g base q a s) : g < w.heap.size := by
  obtain ⟨Q, nq, cq, A, na, ca, h1, _⟩ := h
  exact h1.lt
set_option maxHeartbeats 4000000 in
theorem send_any {g base : Nat} {v f : Int} {t a : List Int} {s : Nat} (w : World) (h : Run 39 3 w g base (v :: t) a s) (hgb : g < base) (hb : base ≤ w.heap.size) (hf0 : 0 ≤ f) (hf3 : f ≤ 3) (hs : s ≤ 1000) (ha : a.length ≤ 1000) (ht : t.length ≤ 1000) :
    Calls Try.prog 42 #[.pointer (some ⟨g, 0, none⟩), .int .i64 f] w fun e w' => e = .returned (.tuple #[]) ∧ Run 39 3 w' g base (t ++ fateQ f v) (a ++ fateA f v) (s + 1) ∧ Below g w w' := by
  obtain ⟨Q, nq, cq, Aa, na, ca, hP, hQ, hA, hDQ, hDA, hD⟩ := h
  have hql := hQ.len
  have hal := hA.len
  obtain ⟨p, hp⟩ : ∃ p, nq = p + 1 := ⟨t.length, by simpa using hql.symm⟩
  obtain ⟨gq, off, v', rfl, hv', hcv⟩ := hQ.is.at_ (k := 0) (by omega)
  obtain rfl : v = v' := by simpa using hv'
  have hcv0 : w.cell? ⟨gq, off, none⟩ = some (.int .i64 v) := hcv
  have hnc := hQ.is.2.1
  have hqr := hQ.rest (by omega)
  have hgl := hP.lt
  simp only [List.drop_succ_cons, List.drop_zero] at hqr
  obtain ⟨Qr, cr, mr, key⟩ : ∃ (Qr : Option Addr) (cr mr : Nat), (cq = 1 ∧ Qr = some ⟨gq, off, none⟩ ∧ cr = 0 ∧ mr = 0) ∨ (¬ cq = 1 ∧ Qr = some ⟨gq, off + 1, none⟩ ∧ cr = cq - 1 ∧ mr = nq - 1) := by
    by_cases e : cq = 1
    · exact ⟨_, _, _, .inl ⟨e, rfl, rfl, rfl⟩⟩
    · exact ⟨_, _, _, .inr ⟨e, rfl, rfl, rfl⟩⟩
  have hqr2 : QS w 3 base Qr mr cr t ∧ Disj (some ⟨g, 0, none⟩) Qr ∧ Disj Qr Aa := by
    have d1 : Disj (some ⟨g, 0, none⟩) (if cq = 1 then some ⟨gq, off, none⟩ else some ⟨gq, off + 1, none⟩) := disj_if hDQ
    have d2 : Disj Aa (if cq = 1 then some ⟨gq, off, none⟩ else some ⟨gq, off + 1, none⟩) := disj_if hD.symm
    rcases key with ⟨e1, e2, e3, e4⟩ | ⟨e1, e2, e3, e4⟩
    · subst e1 e2 e3 e4
      rw [if_pos rfl] at hqr d1 d2
      rw [show nq - 1 = 0 by omega] at hqr
      exact ⟨hqr, d1, d2.symm⟩
    · subst e2 e3 e4
      rw [if_neg e1] at hqr d1 d2
      exact ⟨hqr, d1, d2.symm⟩
  obtain ⟨hqr3, dq1, dq2⟩ := hqr2
  obtain ⟨W2, eW2⟩ : ∃ z : World, z = (w.setCell ⟨g, 0, none⟩ (.slice Qr mr cr)).setCell ⟨g, 2, none⟩ (.int .i64 ((s : Int) + 1)) := ⟨_, rfl⟩
  have Y2 : Hid (Blk W2 g 39 #[.slice Qr mr cr, .slice Aa na ca, .int .i64 ((s : Int) + 1)]) := Lib.hid (by rw [eW2]; simpa using (hP.set_ 0 (.slice Qr mr cr)).set_ 2 (.int .i64 ((s : Int) + 1)))
  have Q2 : Hid (QS W2 3 base Qr mr cr t) := Lib.hid (by rw [eW2]; exact (hqr3.setCell dq1 _).setCell dq1 _)
  have A2 : Hid (OW W2 3 base Aa na ca a) := Lib.hid (by rw [eW2]; exact (hA.setCell2 (.inr hDA) _).setCell2 (.inr hDA) _)
  have B2 : Hid (Below g w W2) := Lib.hid (by rw [eW2]; exact ((Below.refl g w).setCell (Nat.le_refl _) _).setCell (Nat.le_refl _) _)
  have DA2 := Lib.hid hDA
  have DQ2 := Lib.hid dq1
  have D2 := Lib.hid dq2
  have hz2 : W2.heap.size = w.heap.size := by rw [eW2]; simp [World.setCell]
  obtain ⟨y0, y1, y2⟩ := hP.c3
  have f0 := hP.frozen 0
  have f2 := hP.frozen 2
  have hna : na ≤ 1000 := by omega
  have hnq : nq ≤ 1001 := by simp at hql; omega
  have z1 : (1 : Int) ≤ (nq : Int) := by omega
  have z0 : (0 : Int) < (nq : Int) := by omega
  have z0n : 0 < nq := by omega
  have hws : IntKind.i64.wrap ((s : Int) + 1) = (s : Int) + 1 := by rw [IntKind.wrap_i64]; omega
  have hg2 : g < W2.heap.size := by omega
  have HZW2 := Lib.hid hz2
  have hb2 : base ≤ W2.heap.size := by omega
  clear hP hQ hA hDQ hDA hD hqr hqr3 dq1 dq2 hql hal hp hcv hv' hz2
  have hc4 : f = 0 ∨ f = 1 ∨ f = 2 ∨ f = 3 := by omega
  rcases key with ⟨rfl, rfl, rfl, rfl⟩ | ⟨hc1, rfl, rfl, rfl⟩
  · rcases hc4 with rfl | rfl | rfl | rfl
    · go_enter Try.func42, Try.ntmps42
      go_wp2_with (first | (at_builtin; rw [← eW2]; go_must (refine wpList_append_is2 _ rfl (.tmp 33) (.tmp 35) _ rfl base 3 infoInt Try.underlying22 _ _ _ _ rfl (A2.out.alloc (.cells #[.int .i64 v] 3)) _ _ _ [v] rfl (by have h := (OW.lit W2 3 0 [v] (by simp) (by simp)).is; rw [HZW2.out] at h; simpa using h) (by omega) (by simp; omega) ?_); go_must (intro A8 c8 w8 hown8 hg8 hn8; have A8o := Lib.hid hown8; have Q8 := Lib.hid ((Q2.out.alloc (.cells #[.int .i64 v] 3)).away hg8 D2.out); have Y8 := Lib.hid ((Y2.out.alloc (.cells #[.int .i64 v] 3)).away hg8 DA2.out); have B8 := Lib.hid (below_row (B2.out.alloc (by omega) (.cells #[.int .i64 v] 3)) hg8 (by simp; omega) (A2.out.ge.mono (by omega))); have DG8 : Hid (Disj (some ⟨g, 0, none⟩) A8) := Lib.hid (hn8.disj DA2.out.symm (fun q hq => by cases hq; show g < _; simp; omega)).symm; have DQ8 := Lib.hid (hn8.disj D2.out.symm (fun q hq => by have := Q2.out.lt q hq; simp; omega)).symm; have hl8 := A8o.out.len; have z8 := hg8.size; (try simp at z8); clear hown8 hg8 hn8 y0 y1 y2; obtain ⟨y0, y1, y2⟩ := Y8.out.c3; have f1 := Y8.out.frozen 1; skip)))
      refine bodyPost_end (v := .tuple #[]) (by simp [results, Try.results42, go_sem]) rfl ?_
      exact ⟨rfl, ⟨_, _, _, A8, _, c8, by simpa using Y8.out.set_ 1 (.slice A8 _ c8), by simpa [fateQ] using Q8.out.setCell DQ2.out _, by simpa [fateA] using A8o.out.setCell2 (.inr DG8.out) _, DQ2.out, DG8.out, DQ8.out⟩, B8.out.setCell (by show g ≤ g; exact Nat.le_refl _) _⟩
    · go_enter Try.func42, Try.ntmps42
      go_wp2_with (first | (at_builtin; rw [← eW2]; go_must (refine wpList_append_q _ rfl (.tmp 45) (.tmp 47) _ rfl base 3 infoInt Try.underlying22 _ _ _ _ rfl (Q2.out.alloc (.cells #[.int .i64 v] 3)) _ _ v rfl (by have h := (OW.lit W2 3 0 [v] (by simp) (by simp)).is; rw [HZW2.out] at h; simpa using h) (by omega) (by simp; omega) ?_); go_must (intro Q9 c9 w9 hq9 hg9 hn9; have Q9o := Lib.hid hq9; have A9 := Lib.hid ((A2.out.alloc (.cells #[.int .i64 v] 3)).away hg9 D2.out.symm); have Y9 := Lib.hid ((Y2.out.alloc (.cells #[.int .i64 v] 3)).away hg9 DQ2.out); have B9 := Lib.hid (below_row (B2.out.alloc (by omega) (.cells #[.int .i64 v] 3)) hg9 (by simp; omega) (Q2.out.ge.mono (by omega))); have DG9 : Hid (Disj (some ⟨g, 0, none⟩) Q9) := Lib.hid (hn9.disj DQ2.out.symm (fun q hq => by cases hq; show g < _; simp; omega)).symm; have DD9 : Hid (Disj Q9 _) := Lib.hid (hn9.disj D2.out (fun q hq => by have := A2.out.lt q hq; simp; omega)); clear hq9 hg9 hn9 y0 y1 y2; obtain ⟨y0, y1, y2⟩ := Y9.out.c3; have f0 := Y9.out.frozen 0)))
      refine bodyPost_end (v := .tuple #[]) (by simp [results, Try.results42, go_sem]) rfl ?_
      exact ⟨rfl, ⟨Q9, _, c9, _, _, _, by simpa using Y9.out.set_ 0 (.slice Q9 _ c9), by simpa [fateQ] using Q9o.out.setCell DG9.out _, by simpa [fateA] using A9.out.setCell2 (.inr DA2.out) _, DG9.out, DA2.out, DD9.out⟩, B9.out.setCell (by show g ≤ g; exact Nat.le_refl _) _⟩
    · go_enter Try.func42, Try.ntmps42
      go_wp2_with (first
        | (at_builtin; rw [← eW2]; go_must (refine wpList_append_is2 _ rfl (.tmp 57) (.tmp 59) _ rfl base 3 infoInt Try.underlying22 _ _ _ _ rfl (A2.out.alloc (.cells #[.int .i64 v] 3)) _ _ _ [v] rfl (by have h := (OW.lit W2 3 0 [v] (by simp) (by simp)).is; rw [HZW2.out] at h; simpa using h) (by omega) (by simp; omega) ?_); go_must (intro A8 c8 w8 hown8 hg8 hn8; have A8o := Lib.hid hown8; have Q8 := Lib.hid ((Q2.out.alloc (.cells #[.int .i64 v] 3)).away hg8 D2.out); have Y8 := Lib.hid ((Y2.out.alloc (.cells #[.int .i64 v] 3)).away hg8 DA2.out); have B8 := Lib.hid (below_row (B2.out.alloc (by omega) (.cells #[.int .i64 v] 3)) hg8 (by simp; omega) (A2.out.ge.mono (by omega))); have DG8 : Hid (Disj (some ⟨g, 0, none⟩) A8) := Lib.hid (hn8.disj DA2.out.symm (fun q hq => by cases hq; show g < _; simp; omega)).symm; have DQ8 := Lib.hid (hn8.disj D2.out.symm (fun q hq => by have := Q2.out.lt q hq; simp; omega)).symm; have hl8 := A8o.out.len; have z8 := hg8.size; (try simp at z8); clear hown8 hg8 hn8 y0 y1 y2; obtain ⟨y0, y1, y2⟩ := Y8.out.c3; have f1 := Y8.out.frozen 1; obtain ⟨W6, eW6⟩ : ∃ z : World, z = w8.setCell ⟨g, 1, none⟩ (.slice A8 (na + 1) c8) := ⟨_, rfl⟩; have Y6 : Hid (Blk W6 g 39 #[.slice (some ⟨gq, off, none⟩) 0 0, .slice A8 (na + 1) c8, .int .i64 ((s : Int) + 1)]) := Lib.hid (by rw [eW6]; exact Y8.out.set_ 1 _); have Q6 : Hid (QS W6 3 base (some ⟨gq, off, none⟩) 0 0 t) := Lib.hid (by rw [eW6]; exact Q8.out.setCell DQ2.out _); have A6 : Hid (OW W6 3 base A8 (na + 1) c8 (a ++ [v])) := Lib.hid (by rw [eW6]; exact A8o.out.setCell2 (.inr DG8.out) _); have B6 : Hid (Below g w W6) := Lib.hid (by rw [eW6]; exact B8.out.setCell (Nat.le_refl _) _); have D6 := DQ8; have DQ6 := DQ2; have hg6 : g < W6.heap.size := Y6.out.lt; have HZW6 : Hid (W6.heap.size = w8.heap.size) := Lib.hid (by rw [eW6]; simp [World.setCell]); have hb6 : base ≤ W6.heap.size := (by rw [eW6]; simp [World.setCell]; omega)))
        | (at_builtin; rw [← eW6]; go_must (refine wpList_append_q _ rfl (.tmp 67) (.tmp 69) _ rfl base 3 infoInt Try.underlying22 _ _ _ _ rfl (Q6.out.alloc (.cells #[.int .i64 v] 3)) _ _ v rfl (by have h := (OW.lit W6 3 0 [v] (by simp) (by simp)).is; rw [HZW6.out] at h; simpa using h) (by omega) (by simp; omega) ?_); go_must (intro Q9 c9 w9 hq9 hg9 hn9; have Q9o := Lib.hid hq9; have A9 := Lib.hid ((A6.out.alloc (.cells #[.int .i64 v] 3)).away hg9 D6.out.symm); have Y9 := Lib.hid ((Y6.out.alloc (.cells #[.int .i64 v] 3)).away hg9 DQ6.out); have B9 := Lib.hid (below_row (B6.out.alloc (by omega) (.cells #[.int .i64 v] 3)) hg9 (by simp; omega) (Q6.out.ge.mono (by omega))); have DG9 : Hid (Disj (some ⟨g, 0, none⟩) Q9) := Lib.hid (hn9.disj DQ6.out.symm (fun q hq => by cases hq; show g < _; simp; omega)).symm; have DD9 : Hid (Disj Q9 _) := Lib.hid (hn9.disj D6.out (fun q hq => by have := A6.out.lt q hq; simp; omega)); clear hq9 hg9 hn9 y0 y1 y2; obtain ⟨y0, y1, y2⟩ := Y9.out.c3; have f0 := Y9.out.frozen 0)))
      refine bodyPost_end (v := .tuple #[]) (by simp [results, Try.results42, go_sem]) rfl ?_
      exact ⟨rfl, ⟨Q9, _, c9, _, _, _, by simpa using Y9.out.set_ 0 (.slice Q9 _ c9), by simpa [fateQ] using Q9o.out.setCell DG9.out _, by simpa [fateA] using A9.out.setCell2 (.inr DG8.out) _, DG9.out, DG8.out, DD9.out⟩, B9.out.setCell (by show g ≤ g; exact Nat.le_refl _) _⟩
    · go_enter Try.func42, Try.ntmps42
      go_wp2_with (first | (at_builtin; rw [← eW2]; go_must (refine wpList_append_is2 _ rfl (.tmp 79) (.tmp 82) _ rfl base 3 infoInt Try.underlying22 _ _ _ _ rfl (A2.out.alloc (.cells #[.int .i64 v, .int .i64 v] 3)) _ _ _ [v, v] rfl (by have h := (OW.lit W2 3 0 [v, v] (by simp) (by simp)).is; rw [HZW2.out] at h; simpa using h) (by omega) (by simp; omega) ?_); go_must (intro A8 c8 w8 hown8 hg8 hn8; have A8o := Lib.hid hown8; have Q8 := Lib.hid ((Q2.out.alloc (.cells #[.int .i64 v, .int .i64 v] 3)).away hg8 D2.out); have Y8 := Lib.hid ((Y2.out.alloc (.cells #[.int .i64 v, .int .i64 v] 3)).away hg8 DA2.out); have B8 := Lib.hid (below_row (B2.out.alloc (by omega) (.cells #[.int .i64 v, .int .i64 v] 3)) hg8 (by simp; omega) (A2.out.ge.mono (by omega))); have DG8 : Hid (Disj (some ⟨g, 0, none⟩) A8) := Lib.hid (hn8.disj DA2.out.symm (fun q hq => by cases hq; show g < _; simp; omega)).symm; have DQ8 := Lib.hid (hn8.disj D2.out.symm (fun q hq => by have := Q2.out.lt q hq; simp; omega)).symm; have hl8 := A8o.out.len; have z8 := hg8.size; (try simp at z8); clear hown8 hg8 hn8 y0 y1 y2; obtain ⟨y0, y1, y2⟩ := Y8.out.c3; have f1 := Y8.out.frozen 1; skip)))
      refine bodyPost_end (v := .tuple #[]) (by simp [results, Try.results42, go_sem]) rfl ?_
      exact ⟨rfl, ⟨_, _, _, A8, _, c8, by simpa using Y8.out.set_ 1 (.slice A8 _ c8), by simpa [fateQ] using Q8.out.setCell DQ2.out _, by simpa [fateA] using A8o.out.setCell2 (.inr DG8.out) _, DQ2.out, DG8.out, DQ8.out⟩, B8.out.setCell (by show g ≤ g; exact Nat.le_refl _) _⟩
  · rcases hc4 with rfl | rfl | rfl | rfl
    · go_enter Try.func42, Try.ntmps42
      go_wp2_with (first | (at_builtin; rw [← eW2]; go_must (refine wpList_append_is2 _ rfl (.tmp 33) (.tmp 35) _ rfl base 3 infoInt Try.underlying22 _ _ _ _ rfl (A2.out.alloc (.cells #[.int .i64 v] 3)) _ _ _ [v] rfl (by have h := (OW.lit W2 3 0 [v] (by simp) (by simp)).is; rw [HZW2.out] at h; simpa using h) (by omega) (by simp; omega) ?_); go_must (intro A8 c8 w8 hown8 hg8 hn8; have A8o := Lib.hid hown8; have Q8 := Lib.hid ((Q2.out.alloc (.cells #[.int .i64 v] 3)).away hg8 D2.out); have Y8 := Lib.hid ((Y2.out.alloc (.cells #[.int .i64 v] 3)).away hg8 DA2.out); have B8 := Lib.hid (below_row (B2.out.alloc (by omega) (.cells #[.int .i64 v] 3)) hg8 (by simp; omega) (A2.out.ge.mono (by omega))); have DG8 : Hid (Disj (some ⟨g, 0, none⟩) A8) := Lib.hid (hn8.disj DA2.out.symm (fun q hq => by cases hq; show g < _; simp; omega)).symm; have DQ8 := Lib.hid (hn8.disj D2.out.symm (fun q hq => by have := Q2.out.lt q hq; simp; omega)).symm; have hl8 := A8o.out.len; have z8 := hg8.size; (try simp at z8); clear hown8 hg8 hn8 y0 y1 y2; obtain ⟨y0, y1, y2⟩ := Y8.out.c3; have f1 := Y8.out.frozen 1; skip)))
      refine bodyPost_end (v := .tuple #[]) (by simp [results, Try.results42, go_sem]) rfl ?_
      exact ⟨rfl, ⟨_, _, _, A8, _, c8, by simpa using Y8.out.set_ 1 (.slice A8 _ c8), by simpa [fateQ] using Q8.out.setCell DQ2.out _, by simpa [fateA] using A8o.out.setCell2 (.inr DG8.out) _, DQ2.out, DG8.out, DQ8.out⟩, B8.out.setCell (by show g ≤ g; exact Nat.le_refl _) _⟩
    · go_enter Try.func42, Try.ntmps42
      go_wp2_with (first | (at_builtin; rw [← eW2]; go_must (refine wpList_append_q _ rfl (.tmp 45) (.tmp 47) _ rfl base 3 infoInt Try.underlying22 _ _ _ _ rfl (Q2.out.alloc (.cells #[.int .i64 v] 3)) _ _ v rfl (by have h := (OW.lit W2 3 0 [v] (by simp) (by simp)).is; rw [HZW2.out] at h; simpa using h) (by omega) (by simp; omega) ?_); go_must (intro Q9 c9 w9 hq9 hg9 hn9; have Q9o := Lib.hid hq9; have A9 := Lib.hid ((A2.out.alloc (.cells #[.int .i64 v] 3)).away hg9 D2.out.symm); have Y9 := Lib.hid ((Y2.out.alloc (.cells #[.int .i64 v] 3)).away hg9 DQ2.out); have B9 := Lib.hid (below_row (B2.out.alloc (by omega) (.cells #[.int .i64 v] 3)) hg9 (by simp; omega) (Q2.out.ge.mono (by omega))); have DG9 : Hid (Disj (some ⟨g, 0, none⟩) Q9) := Lib.hid (hn9.disj DQ2.out.symm (fun q hq => by cases hq; show g < _; simp; omega)).symm; have DD9 : Hid (Disj Q9 _) := Lib.hid (hn9.disj D2.out (fun q hq => by have := A2.out.lt q hq; simp; omega)); clear hq9 hg9 hn9 y0 y1 y2; obtain ⟨y0, y1, y2⟩ := Y9.out.c3; have f0 := Y9.out.frozen 0)))
      refine bodyPost_end (v := .tuple #[]) (by simp [results, Try.results42, go_sem]) rfl ?_
      exact ⟨rfl, ⟨Q9, _, c9, _, _, _, by simpa using Y9.out.set_ 0 (.slice Q9 _ c9), by simpa [fateQ] using Q9o.out.setCell DG9.out _, by simpa [fateA] using A9.out.setCell2 (.inr DA2.out) _, DG9.out, DA2.out, DD9.out⟩, B9.out.setCell (by show g ≤ g; exact Nat.le_refl _) _⟩
    · go_enter Try.func42, Try.ntmps42
      go_wp2_with (first
        | (at_builtin; rw [← eW2]; go_must (refine wpList_append_is2 _ rfl (.tmp 57) (.tmp 59) _ rfl base 3 infoInt Try.underlying22 _ _ _ _ rfl (A2.out.alloc (.cells #[.int .i64 v] 3)) _ _ _ [v] rfl (by have h := (OW.lit W2 3 0 [v] (by simp) (by simp)).is; rw [HZW2.out] at h; simpa using h) (by omega) (by simp; omega) ?_); go_must (intro A8 c8 w8 hown8 hg8 hn8; have A8o := Lib.hid hown8; have Q8 := Lib.hid ((Q2.out.alloc (.cells #[.int .i64 v] 3)).away hg8 D2.out); have Y8 := Lib.hid ((Y2.out.alloc (.cells #[.int .i64 v] 3)).away hg8 DA2.out); have B8 := Lib.hid (below_row (B2.out.alloc (by omega) (.cells #[.int .i64 v] 3)) hg8 (by simp; omega) (A2.out.ge.mono (by omega))); have DG8 : Hid (Disj (some ⟨g, 0, none⟩) A8) := Lib.hid (hn8.disj DA2.out.symm (fun q hq => by cases hq; show g < _; simp; omega)).symm; have DQ8 := Lib.hid (hn8.disj D2.out.symm (fun q hq => by have := Q2.out.lt q hq; simp; omega)).symm; have hl8 := A8o.out.len; have z8 := hg8.size; (try simp at z8); clear hown8 hg8 hn8 y0 y1 y2; obtain ⟨y0, y1, y2⟩ := Y8.out.c3; have f1 := Y8.out.frozen 1; obtain ⟨W6, eW6⟩ : ∃ z : World, z = w8.setCell ⟨g, 1, none⟩ (.slice A8 (na + 1) c8) := ⟨_, rfl⟩; have Y6 : Hid (Blk W6 g 39 #[.slice (some ⟨gq, off + 1, none⟩) (nq - 1) (cq - 1), .slice A8 (na + 1) c8, .int .i64 ((s : Int) + 1)]) := Lib.hid (by rw [eW6]; exact Y8.out.set_ 1 _); have Q6 : Hid (QS W6 3 base (some ⟨gq, off + 1, none⟩) (nq - 1) (cq - 1) t) := Lib.hid (by rw [eW6]; exact Q8.out.setCell DQ2.out _); have A6 : Hid (OW W6 3 base A8 (na + 1) c8 (a ++ [v])) := Lib.hid (by rw [eW6]; exact A8o.out.setCell2 (.inr DG8.out) _); have B6 : Hid (Below g w W6) := Lib.hid (by rw [eW6]; exact B8.out.setCell (Nat.le_refl _) _); have D6 := DQ8; have DQ6 := DQ2; have hg6 : g < W6.heap.size := Y6.out.lt; have HZW6 : Hid (W6.heap.size = w8.heap.size) := Lib.hid (by rw [eW6]; simp [World.setCell]); have hb6 : base ≤ W6.heap.size := (by rw [eW6]; simp [World.setCell]; omega)))
        | (at_builtin; rw [← eW6]; go_must (refine wpList_append_q _ rfl (.tmp 67) (.tmp 69) _ rfl base 3 infoInt Try.underlying22 _ _ _ _ rfl (Q6.out.alloc (.cells #[.int .i64 v] 3)) _ _ v rfl (by have h := (OW.lit W6 3 0 [v] (by simp) (by simp)).is; rw [HZW6.out] at h; simpa using h) (by omega) (by simp; omega) ?_); go_must (intro Q9 c9 w9 hq9 hg9 hn9; have Q9o := Lib.hid hq9; have A9 := Lib.hid ((A6.out.alloc (.cells #[.int .i64 v] 3)).away hg9 D6.out.symm); have Y9 := Lib.hid ((Y6.out.alloc (.cells #[.int .i64 v] 3)).away hg9 DQ6.out); have B9 := Lib.hid (below_row (B6.out.alloc (by omega) (.cells #[.int .i64 v] 3)) hg9 (by simp; omega) (Q6.out.ge.mono (by omega))); have DG9 : Hid (Disj (some ⟨g, 0, none⟩) Q9) := Lib.hid (hn9.disj DQ6.out.symm (fun q hq => by cases hq; show g < _; simp; omega)).symm; have DD9 : Hid (Disj Q9 _) := Lib.hid (hn9.disj D6.out (fun q hq => by have := A6.out.lt q hq; simp; omega)); clear hq9 hg9 hn9 y0 y1 y2; obtain ⟨y0, y1, y2⟩ := Y9.out.c3; have f0 := Y9.out.frozen 0)))
      refine bodyPost_end (v := .tuple #[]) (by simp [results, Try.results42, go_sem]) rfl ?_
      exact ⟨rfl, ⟨Q9, _, c9, _, _, _, by simpa using Y9.out.set_ 0 (.slice Q9 _ c9), by simpa [fateQ] using Q9o.out.setCell DG9.out _, by simpa [fateA] using A9.out.setCell2 (.inr DG8.out) _, DG9.out, DG8.out, DD9.out⟩, B9.out.setCell (by show g ≤ g; exact Nat.le_refl _) _⟩
    · go_enter Try.func42, Try.ntmps42
      go_wp2_with (first | (at_builtin; rw [← eW2]; go_must (refine wpList_append_is2 _ rfl (.tmp 79) (.tmp 82) _ rfl base 3 infoInt Try.underlying22 _ _ _ _ rfl (A2.out.alloc (.cells #[.int .i64 v, .int .i64 v] 3)) _ _ _ [v, v] rfl (by have h := (OW.lit W2 3 0 [v, v] (by simp) (by simp)).is; rw [HZW2.out] at h; simpa using h) (by omega) (by simp; omega) ?_); go_must (intro A8 c8 w8 hown8 hg8 hn8; have A8o := Lib.hid hown8; have Q8 := Lib.hid ((Q2.out.alloc (.cells #[.int .i64 v, .int .i64 v] 3)).away hg8 D2.out); have Y8 := Lib.hid ((Y2.out.alloc (.cells #[.int .i64 v, .int .i64 v] 3)).away hg8 DA2.out); have B8 := Lib.hid (below_row (B2.out.alloc (by omega) (.cells #[.int .i64 v, .int .i64 v] 3)) hg8 (by simp; omega) (A2.out.ge.mono (by omega))); have DG8 : Hid (Disj (some ⟨g, 0, none⟩) A8) := Lib.hid (hn8.disj DA2.out.symm (fun q hq => by cases hq; show g < _; simp; omega)).symm; have DQ8 := Lib.hid (hn8.disj D2.out.symm (fun q hq => by have := Q2.out.lt q hq; simp; omega)).symm; have hl8 := A8o.out.len; have z8 := hg8.size; (try simp at z8); clear hown8 hg8 hn8 y0 y1 y2; obtain ⟨y0, y1, y2⟩ := Y8.out.c3; have f1 := Y8.out.frozen 1; skip)))
      refine bodyPost_end (v := .tuple #[]) (by simp [results, Try.results42, go_sem]) rfl ?_
      exact ⟨rfl, ⟨_, _, _, A8, _, c8, by simpa using Y8.out.set_ 1 (.slice A8 _ c8), by simpa [fateQ] using Q8.out.setCell DQ2.out _, by simpa [fateA] using A8o.out.setCell2 (.inr DG8.out) _, DQ2.out, DG8.out, DQ8.out⟩, B8.out.setCell (by show g ≤ g; exact Nat.le_refl _) _⟩
end Go.Proofs.Ythbdcindhkjboaa
