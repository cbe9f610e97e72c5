/-
  runLink of the program, and what is read off it.
-/
import Derived.Test.YthbdcindhkjboaaLiR
namespace Go.Proofs.Ythbdcindhkjboaa
open Go.RowKit

/-- A call has handed back a run: the queue, what has arrived, how many sendings there were. -/
def GaveRun (T : Nat) (w : World) (R : List Int × List Int × Nat) (e : Ending) (w' : World) : Prop :=
  ∃ Q nq cq A na ca, e = .returned (.agg #[.slice Q nq cq, .slice A na ca, .int .i64 (R.2.2 : Int)]) ∧ QS w' T w.heap.size Q nq cq R.1 ∧ OW w' T w.heap.size A na ca R.2.1 ∧ Disj Q A ∧ Below w.heap.size w w'
set_option maxHeartbeats 4000000 in
theorem impl_runLink_any {A : Option Addr} {n c : Nat} {xs : List Int} (M : Nat) (w : World) (h : IS w A n c xs) (hn : n ≤ 20) (hr : allR xs 0 3 = true) (hM : M ≤ 8) :
    Calls Try.prog 29 #[.slice A n c, .int .i64 (M : Int)] w (GaveRun 3 w (runL xs (iota M) [] 0)) := by
  have H0 := Lib.hid h
  have HLEN := Lib.hid h.len
  have HR := Lib.hid hr
  clear h hr
  obtain ⟨RR, eR⟩ : ∃ v, runL xs (iota M) [] 0 = v := ⟨_, rfl⟩
  rw [eR]
  have ER := Lib.hid eR
  clear eR
  go_enter Try.func29, Try.ntmps29
  go_wp2_with (fail)
  obtain ⟨W0, eW⟩ : ∃ v : World, v = (w.alloc (.cells #[.slice none 0 0, .slice none 0 0, .int .i64 0] 39)).alloc (.cells #[.slice none 0 0, .slice none 0 0, .int .i64 0] 39) := ⟨_, rfl⟩
  have X0 : Hid (Blk W0 w.heap.size 39 #[.slice none 0 0, .slice none 0 0, .int .i64 0]) := Lib.hid (by rw [eW]; exact (Blk.new _ _ _).alloc _)
  have Y0 : Hid (Blk W0 (w.heap.size + 1) 39 #[.slice none 0 0, .slice none 0 0, .int .i64 0]) := Lib.hid (by rw [eW]; simpa using Blk.new (w.alloc (.cells #[.slice none 0 0, .slice none 0 0, .int .i64 0] 39)) 39 #[.slice none 0 0, .slice none 0 0, .int .i64 0])
  have B0 : Hid (Below w.heap.size w W0) := Lib.hid (by rw [eW]; exact (below_new _ _).alloc (by simp) _)
  have hz0 : w.heap.size + 1 + 1 ≤ W0.heap.size := by rw [eW]; simp
  rw [← eW]
  clear eW
  obtain ⟨g, eg⟩ : ∃ g, w.heap.size + 1 = g := ⟨_, rfl⟩
  have hgw : w.heap.size < g := by omega
  obtain ⟨base, eb⟩ : ∃ base, g + 1 = base := ⟨_, rfl⟩
  have hgb : g < base := by omega
  have hb0 : base ≤ W0.heap.size := by omega
  have hbw : w.heap.size ≤ base := by omega
  rw [eg] at Y0
  try rw [eg]
  have BW0 := hz0
  clear hz0 eb eg BW0
  go_loopw [10] (fun i wr => ∃ (j nq cq : Nat) (Q : Option Addr), j ≤ M ∧ i = .int .i64 (j : Int) ∧ Hid (Blk wr w.heap.size 39 #[.slice none 0 0, .slice none 0 0, .int .i64 0]) ∧ Hid (Blk wr g 39 #[.slice Q nq cq, .slice none 0 0, .int .i64 0]) ∧ Hid (QS wr 3 base Q nq cq (iota j)) ∧ Hid (Below w.heap.size w wr) ∧ base ≤ wr.heap.size) (fun i _ => M - (intOf i).toNat)
  case atStart => exact ⟨0, 0, 0, none, Nat.zero_le _, rfl, X0, Y0, Lib.hid (QS.nil _ _ _), B0, hb0⟩
  case round =>
    clear X0 Y0 B0 hb0
    obtain ⟨j, nq, cq, Q, hj, rfl, X, Y, QQ, B, hbs⟩ := hrel
    have hnq : nq ≤ 8 := by have h1 := QQ.out.len; rw [iota_len] at h1; omega
    by_cases hlt : j < M
    · have hlt' : (j : Int) < (M : Int) := by omega
      obtain ⟨y0, y1, y2⟩ := Y.out.c3
      have yl := Y.out.lt
      have DQ : Hid (Disj (some ⟨g, 0, none⟩) Q) := Lib.hid (by intro p q hp hq e; cases hp; have := QQ.out.ge q hq; simp at e; omega)
      have DX : Hid (Disj (some ⟨w.heap.size, 0, none⟩) Q) := Lib.hid (by intro p q hp hq e; cases hp; have := QQ.out.ge q hq; simp at e; omega)
      go_wp2_with (at_builtin; go_must (refine wpList_append_q _ rfl (.tmp 14) (.tmp 16) _ rfl base 3 infoInt Try.underlying22 _ _ _ _ rfl (QQ.out.alloc (.cells #[.int .i64 (j : Int)] 3)) _ _ (j : Int) rfl (by simpa using (OW.lit wr 3 0 [(j : Int)] (by simp) (by simp)).is) (by omega) (by simp; omega) ?_); go_must (intro Q9 c9 w9 hq9 hg9 hn9; have Q9o := Lib.hid hq9; have X9 := Lib.hid ((X.out.alloc (.cells #[.int .i64 (j : Int)] 3)).away hg9 DX.out); have Y9 := Lib.hid ((Y.out.alloc (.cells #[.int .i64 (j : Int)] 3)).away hg9 DQ.out); have B9 := Lib.hid (below_row (B.out.alloc B.out.size (.cells #[.int .i64 (j : Int)] 3)) hg9 (by have := B.out.size; simp; omega) (QQ.out.ge.mono hbw)); have DG9 : Hid (Disj (some ⟨g, 0, none⟩) Q9) := Lib.hid (hn9.disj DQ.out.symm (fun q hq => by cases hq; show g < _; simp; omega)).symm; have z9 := hg9.size; simp at z9; clear hq9 hg9 hn9 y0 y1 y2; obtain ⟨y0, y1, y2⟩ := Y9.out.c3; have f0 := Y9.out.frozen 0))
      go_roundw
      case rel => exact ⟨j + 1, nq + 1, c9, Q9, by omega, by first | rfl | go_num, Lib.hid (X9.out.far (by show w.heap.size ≠ g; omega) _), Lib.hid (by simpa using Y9.out.set_ 0 (.slice Q9 (nq + 1) c9)), Lib.hid (by rw [iota_succ]; exact Q9o.out.setCell DG9.out _), Lib.hid (B9.out.setCell (by show w.heap.size ≤ g; omega) _), by simp [World.setCell]; omega⟩
      case measure => simp [intOf]; omega
    · have ej : j = M := by omega
      have hlt' : ¬ (j : Int) < (M : Int) := by omega
      have R0 : Hid (Run 39 3 wr g base (iota M) [] 0) := Lib.hid (by
        rw [← ej]
        exact ⟨Q, nq, cq, none, 0, 0, Y.out, QQ.out, ⟨rfl, .inl ⟨rfl, rfl⟩⟩, (by intro p q hp hq e; cases hp; have := QQ.out.ge q hq; simp at e; omega), (fun p q _ hq => by cases hq), (fun p q _ hq => by cases hq)⟩)
      clear ej Y QQ
      go_wp2_with (fail)
      go_loopw [22] (fun i wq => ∃ (j s : Nat) (q a : List Int), j ≤ n ∧ s ≤ j ∧ a.length ≤ 2 * s ∧ q.length ≤ 8 ∧ i = .int .i64 (j : Int) ∧ Hid (Blk wq w.heap.size 39 #[.slice none 0 0, .slice none 0 0, .int .i64 0]) ∧ Hid (Run 39 3 wq g base q a s) ∧ Hid (Below w.heap.size w wq) ∧ base ≤ wq.heap.size ∧ Hid (runL (xs.drop j) q a s = RR)) (fun i _ => n - (intOf i).toNat)
      case atStart => exact ⟨0, 0, iota M, [], Nat.zero_le _, Nat.zero_le _, Nat.zero_le _, by rw [iota_len]; exact hM, rfl, X, R0, B, hbs, Lib.hid (by exact ER.out)⟩
      case round =>
        clear X R0 B hbs
        obtain ⟨j, s, q, a, hj, hs, hal, hql, rfl, X, RU, B, hbs, HRun⟩ := hrel
        by_cases hjn : j < n
        · have hjn' : (j : Int) < (n : Int) := by omega
          obtain ⟨gf, off, f, rfl, hf, hcf⟩ := (H0.out.below B.out (Nat.le_refl _)).at_ hjn
          have hfr := allR_at hf HR.out
          have hdf : xs.drop j = f :: xs.drop (j + 1) := by
            rw [List.drop_eq_getElem_cons (List.getElem?_eq_some_iff.1 hf).1, (List.getElem?_eq_some_iff.1 hf).2]
          have HDF := Lib.hid hdf
          clear hf hdf
          obtain ⟨Q, nq, cq, Aa, na, ca, hP, hQ, hA, hDQ, hDA, hD⟩ := RU.out
          have hnl := hQ.len
          rcases q with _ | ⟨v, t⟩
          · have hz : ((nq : Int) == 0) = true := by simp at hnl; simp; omega
            have HEnd : Hid (RR = ([], a, s)) := Lib.hid (by rw [← HRun.out, runL_empty])
            have HP := Lib.hid hP
            have HQ := Lib.hid hQ
            have HA := Lib.hid hA
            have HDQA := Lib.hid hD
            clear hP hQ hA hDQ hDA hD
            obtain ⟨y0, y1, y2⟩ := HP.out.c3
            obtain ⟨x0, x1, x2⟩ := X.out.c3
            have f0 := X.out.frozen 0
            have f1 := X.out.frozen 1
            have f2 := X.out.frozen 2
            have hgx : ¬ w.heap.size = g := by omega
            go_wp2_with (fail)
            refine bodyPost_ret (v := .agg #[.slice Q nq cq, .slice Aa na ca, .int .i64 (s : Int)]) (by simp [results, Try.results29, go_sem, x0, x1, x2]) rfl ?_
            rw [HEnd.out]
            have DXQ : Disj (some ⟨w.heap.size, 0, none⟩) Q := by intro p q hp hq e; cases hp; have := HQ.out.ge q hq; simp at e; omega
            have DXA : Disj (some ⟨w.heap.size, 0, none⟩) Aa := by intro p q hp hq e; cases hp; have := HA.out.ge q hq; simp at e; omega
            refine ⟨Q, nq, cq, Aa, na, ca, rfl, ?_, ?_, HDQA.out, ?_⟩
            · exact (((HQ.out.setCell (p := ⟨w.heap.size, 0, none⟩) DXQ _).setCell (p := ⟨w.heap.size, 1, none⟩) DXQ _).setCell (p := ⟨w.heap.size, 2, none⟩) DXQ _).base_le hbw
            · exact (((HA.out.setCell2 (p := ⟨w.heap.size, 0, none⟩) (.inr DXA) _).setCell2 (p := ⟨w.heap.size, 1, none⟩) (.inr DXA) _).setCell2 (p := ⟨w.heap.size, 2, none⟩) (.inr DXA) _).base_le hbw
            · repeat (with_reducible refine Below.setCell ?_ (by show w.heap.size ≤ w.heap.size; exact Nat.le_refl _) _)
              exact B.out
          · have hz : ((nq : Int) == 0) = false := by simp at hnl; simp; omega
            have hst : s ≤ 20 := by omega
            have htl : t.length ≤ 7 := by simp at hql; omega
            obtain ⟨y0, y1, y2⟩ := hP.c3
            have yl := hP.lt
            have hcf2 := hcf
            clear hP hQ hA hDQ hDA hD hnl
            go_wp2_with (go_at_call 42; go_must (refine (send_any _ RU.out hgb hbs hfr.1 hfr.2 (by omega) (by omega) (by omega)).mono ?_; rintro e wd ⟨rfl, hru, hb⟩; have RUd := Lib.hid hru; have Xd := Lib.hid (show Blk wd w.heap.size 39 #[.slice none 0 0, .slice none 0 0, .int .i64 0] from (hb.block w.heap.size (by omega)).trans X.out); have Bd := Lib.hid (B.out.trans (hb.mono (by omega))); have hszd := hb.size; clear hru hb))
            go_roundw
            case rel => exact ⟨j + 1, s + 1, t ++ fateQ f v, a ++ fateA f v, by omega, by omega, by have := fateA_len f v; rw [List.length_append]; omega, by have : (fateQ f v).length ≤ 1 := (by unfold fateQ; split <;> simp); rw [List.length_append]; omega, by first | rfl | go_num, Xd, RUd, Bd, by omega, Lib.hid (by rw [← HRun.out, HDF.out]; rfl)⟩
            case measure => simp [intOf]; omega
        · have hjn' : ¬ (j : Int) < (n : Int) := by omega
          have ed : xs.drop j = [] := List.drop_of_length_le (by have := HLEN.out; omega)
          have HEnd : Hid (RR = (q, a, s)) := Lib.hid (by rw [← HRun.out, ed]; rfl)
          clear ed
          obtain ⟨Q, nq, cq, Aa, na, ca, hP, hQ, hA, hDQ, hDA, hD⟩ := RU.out
          have HP := Lib.hid hP
          have HQ := Lib.hid hQ
          have HA := Lib.hid hA
          have HDQA := Lib.hid hD
          clear hP hQ hA hDQ hDA hD
          obtain ⟨y0, y1, y2⟩ := HP.out.c3
          obtain ⟨x0, x1, x2⟩ := X.out.c3
          have f0 := X.out.frozen 0
          have f1 := X.out.frozen 1
          have f2 := X.out.frozen 2
          have hgx : ¬ w.heap.size = g := by omega
          go_wp2_with (fail)
          refine bodyPost_ret (v := .agg #[.slice Q nq cq, .slice Aa na ca, .int .i64 (s : Int)]) (by simp [results, Try.results29, go_sem, x0, x1, x2]) rfl ?_
          rw [HEnd.out]
          have DXQ : Disj (some ⟨w.heap.size, 0, none⟩) Q := by intro p q hp hq e; cases hp; have := HQ.out.ge q hq; simp at e; omega
          have DXA : Disj (some ⟨w.heap.size, 0, none⟩) Aa := by intro p q hp hq e; cases hp; have := HA.out.ge q hq; simp at e; omega
          refine ⟨Q, nq, cq, Aa, na, ca, rfl, ?_, ?_, HDQA.out, ?_⟩
          · exact (((HQ.out.setCell (p := ⟨w.heap.size, 0, none⟩) DXQ _).setCell (p := ⟨w.heap.size, 1, none⟩) DXQ _).setCell (p := ⟨w.heap.size, 2, none⟩) DXQ _).base_le hbw
          · exact (((HA.out.setCell2 (p := ⟨w.heap.size, 0, none⟩) (.inr DXA) _).setCell2 (p := ⟨w.heap.size, 1, none⟩) (.inr DXA) _).setCell2 (p := ⟨w.heap.size, 2, none⟩) (.inr DXA) _).base_le hbw
          · repeat (with_reducible refine Below.setCell ?_ (by show w.heap.size ≤ w.heap.size; exact Nat.le_refl _) _)
            exact B.out
end Go.Proofs.Ythbdcindhkjboaa
