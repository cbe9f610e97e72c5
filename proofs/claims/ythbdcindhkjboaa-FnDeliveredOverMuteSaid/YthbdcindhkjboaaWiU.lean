/-
  Contracts of the model's functions on windows: ack, AckBatch.
-/
import Derived.Test.YthbdcindhkjboaaWiS
import Derived.Deep.RegionHeld3
import Derived.Deep.RegionLaw
namespace Go.Proofs.Ythbdcindhkjboaa
open Go.RowKit

/-- The rest of a slice behind a place: the address stays where no room is behind it. -/
theorem IS.rest {w : World} {b off n c K : Nat} {xs : List Int} (h : IS w (some ⟨b, off, none⟩) n c xs) (hK : K ≤ n) :
    IS w (if c = K then some ⟨b, off, none⟩ else some ⟨b, off + K, none⟩) (n - K) (c - K) (xs.drop K) := by
  by_cases e : c = K
  · rw [if_pos e]
    have h1 := h.2.1
    have h2 := h.len
    have e1 : n - K = 0 := by omega
    have e2 : c - K = 0 := by omega
    rw [e1, e2, List.drop_of_length_le (by omega)]
    exact IS.empty w _ (Nat.zero_le _) (fun h => by cases h)
  · rw [if_neg e]
    have h1 := h.cut (lo := K) (hi := n) hK (Nat.le_refl _)
    rw [List.take_of_length_le (by have := h.len; omega)] at h1
    exact h1
def lenC : Option Value → Nat
  | some (.slice _ n _) => n
  | _ => 0
theorem ackP_t {xs : List Int} {m v : Int} (h : v = m ∨ xs.contains v = true) : ackP xs m v = true := by
  rcases h with rfl | h <;> simp_all [ackP]
theorem ackP_f {xs : List Int} {m v : Int} (h : ¬ v = m) (h2 : xs.contains v = false) : ackP xs m v = false := by
  simp_all [ackP]
set_option maxHeartbeats 4000000 in
theorem spec_ack_any {A : Option Addr} {n c : Nat} {xs : List Int} (b nx mm : Int) (K : Nat) (w : World) (h : IS w A n c xs) (hv : winV b nx xs = true) (hK : nx = b + (K : Int)) :
    Calls Try.prog 39 #[.agg #[.int .i64 b, .int .i64 nx, .slice A n c], .int .i64 mm] w (GaveItem 3 w (upR (ackP xs mm) b K) nx (ackR (ackP xs mm) b K).2) := by
  have H0 := Lib.hid h
  clear h
  obtain ⟨hb0, hb1, hx0, hx1, _⟩ := winV_facts hv
  have HK := Lib.hid hK
  have hK8 : K ≤ 8 := by omega
  clear hK hv
  go_enter Try.func39, Try.ntmps39
  go_wp2_with (fail)
  obtain ⟨W, eW⟩ : ∃ v : World, v = ((((w.alloc (.cells #[.int .i64 b, .int .i64 nx, .slice A n c] 34)).alloc (.cells #[.int .i64 0, .int .i64 0, .slice none 0 0] 34)).alloc (.cells #[] 3)).alloc (.cells #[.int .i64 b, .int .i64 nx, .slice (some ⟨w.heap.size + 1 + 1, 0, none⟩) 0 0] 34)) := ⟨_, rfl⟩
  have X1 : Hid (Blk W w.heap.size 34 #[.int .i64 b, .int .i64 nx, .slice A n c]) := Lib.hid (by rw [eW]; exact (((Blk.new _ _ _).alloc _).alloc _).alloc _)
  have X2 : Hid (Blk W (w.heap.size + 1) 34 #[.int .i64 0, .int .i64 0, .slice none 0 0]) := Lib.hid (by rw [eW]; exact ((by simpa using Blk.new (w.alloc (.cells #[.int .i64 b, .int .i64 nx, .slice A n c] 34)) 34 #[.int .i64 0, .int .i64 0, .slice none 0 0] : Blk _ (w.heap.size + 1) _ _).alloc _).alloc _)
  have X3 : Hid (OW W 3 (w.heap.size + 2) (some ⟨w.heap.size + 1 + 1, 0, none⟩) 0 0 []) := Lib.hid (by rw [eW]; exact (by simpa using OW.lit ((w.alloc (.cells #[.int .i64 b, .int .i64 nx, .slice A n c] 34)).alloc (.cells #[.int .i64 0, .int .i64 0, .slice none 0 0] 34)) 3 (w.heap.size + 2) [] (by simp) (by simp) : OW _ 3 (w.heap.size + 2) (some ⟨w.heap.size + 1 + 1, 0, none⟩) 0 0 []).alloc _)
  have X4 : Hid (Blk W (w.heap.size + 1 + 1 + 1) 34 #[.int .i64 b, .int .i64 nx, .slice (some ⟨w.heap.size + 1 + 1, 0, none⟩) 0 0]) := Lib.hid (by rw [eW]; simpa using Blk.new (((w.alloc (.cells #[.int .i64 b, .int .i64 nx, .slice A n c] 34)).alloc (.cells #[.int .i64 0, .int .i64 0, .slice none 0 0] 34)).alloc (.cells #[] 3)) 34 #[.int .i64 b, .int .i64 nx, .slice (some ⟨w.heap.size + 1 + 1, 0, none⟩) 0 0])
  have X5 : Hid (Below w.heap.size w W) := Lib.hid (by rw [eW]; exact ((((below_new _ _).alloc (by simp) _).alloc (by simp; omega) _).alloc (by simp; omega) _))
  have hzW : w.heap.size + 1 + 1 + 1 < W.heap.size := X4.out.lt
  rw [← eW]
  clear eW
  go_loopw [6] (fun i wr => ∃ (j m c' : Nat) (A' : Option Addr), j ≤ K ∧ m ≤ j ∧ i = .int .i64 (b + (j : Int)) ∧ Hid (Blk wr w.heap.size 34 #[.int .i64 b, .int .i64 nx, .slice A n c]) ∧ Hid (Blk wr (w.heap.size + 1) 34 #[.int .i64 0, .int .i64 0, .slice none 0 0]) ∧ Hid (Blk wr (w.heap.size + 1 + 1 + 1) 34 #[.int .i64 b, .int .i64 nx, .slice A' m c']) ∧ Hid (OW wr 3 (w.heap.size + 2) A' m c' (selL (ackP xs mm) b j)) ∧ Hid (Disj (some ⟨w.heap.size + 1 + 1 + 1, 0, none⟩) A') ∧ Hid (Below w.heap.size w wr) ∧ w.heap.size + 1 + 1 + 1 < wr.heap.size) (fun i _ => (b + (K : Int) - intOf i).toNat)
  case atStart => exact ⟨0, 0, 0, _, Nat.zero_le _, Nat.zero_le _, by simp, X1, X2, X4, X3, Lib.hid (fun p q hp hq => by cases hp; cases hq; show w.heap.size + 1 + 1 + 1 ≠ w.heap.size + 1 + 1; omega), X5, hzW⟩
  case round =>
    obtain ⟨j, m, c', A', hj, hm, rfl, P, Q, Y, O, hd, B, hzr⟩ := hrel
    clear X1 X2 X3 X4 X5 hzW
    have I := Lib.hid (H0.out.below B.out (Nat.le_refl _))
    obtain ⟨p0, p1, p2⟩ := P.out.c3
    by_cases hlt : j < K
    · have hlt' : b + (j : Int) < nx := by have := HK.out; omega
      have hw2 : IntKind.i64.wrap (b + (j : Int) + 1) = b + ((j + 1 : Nat) : Int) := by rw [IntKind.wrap_i64]; omega
      obtain ⟨v, ev⟩ : ∃ v, b + (j : Int) = v := ⟨_, rfl⟩
      have EV := Lib.hid ev
      rw [ev] at hw2 hlt' ⊢
      have hvj := ev
      clear ev
      by_cases hvm : v = mm
      · have hvm' : (v == mm) = true := by simp [hvm]
        have HA : Hid (ackP xs mm v = true) := Lib.hid (ackP_t (.inl hvm))
        obtain ⟨q9, hbit⟩ : ∃ q, xs.contains v = q := ⟨_, rfl⟩
        clear hvm
        have O7 := Lib.hid (O.out.alloc (.cells #[.int .i64 v] 3))
        have SV : Hid (IS (wr.alloc (.cells #[.int .i64 v] 3)) (some ⟨wr.heap.size, 0, none⟩) 1 1 [v]) := Lib.hid (by simpa using (OW.lit wr 3 0 [v] (by simp) (by simp)).is)
        have B7 := Lib.hid (B.out.alloc B.out.size (.cells #[.int .i64 v] 3))
        have P7 := Lib.hid (P.out.alloc (.cells #[.int .i64 v] 3))
        have Q7 := Lib.hid (Q.out.alloc (.cells #[.int .i64 v] 3))
        have Y7 := Lib.hid (Y.out.alloc (.cells #[.int .i64 v] 3))
        have hsz := B.out.size
        have D1 : Hid (Disj (some ⟨w.heap.size, 0, none⟩) A') := Lib.hid (Disj.mk (B := w.heap.size + 2) (fun p hp => by cases hp; show w.heap.size < w.heap.size + 2; omega) O.out.ge)
        have D2 : Hid (Disj (some ⟨w.heap.size + 1, 0, none⟩) A') := Lib.hid (Disj.mk (B := w.heap.size + 2) (fun p hp => by cases hp; show w.heap.size + 1 < w.heap.size + 2; omega) O.out.ge)
        obtain ⟨y0, y1, y2⟩ := Y.out.c3
        go_wp2_with (first | (go_at_call 37; refine (call_bool (spec_isIn_any _ _ I.out) hbit).mono ?_; rintro e w' ⟨rfl, rfl⟩) | (at_builtin; go_must (refine wpList_append_is2 _ rfl (.tmp 31) (.tmp 33) _ rfl (w.heap.size + 2) 3 infoInt Try.underlying22 _ _ _ _ rfl O7.out _ _ _ _ rfl SV.out (by omega) (by simp; omega) ?_); intro A8 c8 w8 hown8 hg8 hn8; have O8 := Lib.hid hown8; have B8 := Lib.hid (below_row B7.out hg8 (by simp; omega) (O7.out.ge.mono (by omega))); have P8 := Lib.hid (P7.out.away hg8 D1.out); have Q8 := Lib.hid (Q7.out.away hg8 D2.out); have Y8 := Lib.hid (Y7.out.away hg8 hd.out); have D8 : Hid (Disj (some ⟨w.heap.size + 1 + 1 + 1, 0, none⟩) A8) := Lib.hid (hn8.disj hd.out.symm (fun q hq => by cases hq; show w.heap.size + 1 + 1 + 1 < _; simp; omega)).symm; have hs8 := hg8.size; simp at hs8; clear hown8 hg8 hn8; obtain ⟨z0, z1, z2⟩ := Y8.out.c3; have f2 := Y8.out.frozen 2))
        go_roundw
        case rel => exact ⟨j + 1, m + 1, c8, A8, by omega, by omega, by first | rfl | go_num, Lib.hid (P8.out.far (by show w.heap.size ≠ w.heap.size + 1 + 1 + 1; omega) _), Lib.hid (Q8.out.far (by show w.heap.size + 1 ≠ w.heap.size + 1 + 1 + 1; omega) _), Lib.hid (Y8.out.set_ 2 _), Lib.hid (by rw [selL_yes (by rw [EV.out]; exact HA.out), EV.out]; exact O8.out.setCell2 (.inr D8.out) _), D8, Lib.hid (B8.out.setCell (by show w.heap.size ≤ w.heap.size + 1 + 1 + 1; omega) _), by simp; omega⟩
        case measure => simp [intOf]; omega

      have hvm' : (v == mm) = false := by simp [hvm]
      have HNE := Lib.hid hvm
      clear hvm
      rcases hbit : xs.contains v with _ | _
      · have HA : Hid (ackP xs mm v = false) := Lib.hid (ackP_f HNE.out hbit)
        go_wp2_with (go_at_call 37; refine (call_bool (spec_isIn_any _ _ I.out) hbit).mono ?_; rintro e w' ⟨rfl, rfl⟩)
        go_roundw
        case rel => exact ⟨j + 1, m, c', A', by omega, by omega, by first | rfl | go_num, P, Q, Y, Lib.hid (by rw [selL_no (by rw [EV.out]; exact HA.out)]; exact O.out), hd, B, hzr⟩
        case measure => simp [intOf]; omega
      · have HA : Hid (ackP xs mm v = true) := Lib.hid (ackP_t (.inr hbit))
        have O7 := Lib.hid (O.out.alloc (.cells #[.int .i64 v] 3))
        have SV : Hid (IS (wr.alloc (.cells #[.int .i64 v] 3)) (some ⟨wr.heap.size, 0, none⟩) 1 1 [v]) := Lib.hid (by simpa using (OW.lit wr 3 0 [v] (by simp) (by simp)).is)
        have B7 := Lib.hid (B.out.alloc B.out.size (.cells #[.int .i64 v] 3))
        have P7 := Lib.hid (P.out.alloc (.cells #[.int .i64 v] 3))
        have Q7 := Lib.hid (Q.out.alloc (.cells #[.int .i64 v] 3))
        have Y7 := Lib.hid (Y.out.alloc (.cells #[.int .i64 v] 3))
        have hsz := B.out.size
        have D1 : Hid (Disj (some ⟨w.heap.size, 0, none⟩) A') := Lib.hid (Disj.mk (B := w.heap.size + 2) (fun p hp => by cases hp; show w.heap.size < w.heap.size + 2; omega) O.out.ge)
        have D2 : Hid (Disj (some ⟨w.heap.size + 1, 0, none⟩) A') := Lib.hid (Disj.mk (B := w.heap.size + 2) (fun p hp => by cases hp; show w.heap.size + 1 < w.heap.size + 2; omega) O.out.ge)
        obtain ⟨y0, y1, y2⟩ := Y.out.c3
        go_wp2_with (first | (go_at_call 37; refine (call_bool (spec_isIn_any _ _ I.out) hbit).mono ?_; rintro e w' ⟨rfl, rfl⟩) | (at_builtin; go_must (refine wpList_append_is2 _ rfl (.tmp 31) (.tmp 33) _ rfl (w.heap.size + 2) 3 infoInt Try.underlying22 _ _ _ _ rfl O7.out _ _ _ _ rfl SV.out (by omega) (by simp; omega) ?_); intro A8 c8 w8 hown8 hg8 hn8; have O8 := Lib.hid hown8; have B8 := Lib.hid (below_row B7.out hg8 (by simp; omega) (O7.out.ge.mono (by omega))); have P8 := Lib.hid (P7.out.away hg8 D1.out); have Q8 := Lib.hid (Q7.out.away hg8 D2.out); have Y8 := Lib.hid (Y7.out.away hg8 hd.out); have D8 : Hid (Disj (some ⟨w.heap.size + 1 + 1 + 1, 0, none⟩) A8) := Lib.hid (hn8.disj hd.out.symm (fun q hq => by cases hq; show w.heap.size + 1 + 1 + 1 < _; simp; omega)).symm; have hs8 := hg8.size; simp at hs8; clear hown8 hg8 hn8; obtain ⟨z0, z1, z2⟩ := Y8.out.c3; have f2 := Y8.out.frozen 2))
        go_roundw
        case rel => exact ⟨j + 1, m + 1, c8, A8, by omega, by omega, by first | rfl | go_num, Lib.hid (P8.out.far (by show w.heap.size ≠ w.heap.size + 1 + 1 + 1; omega) _), Lib.hid (Q8.out.far (by show w.heap.size + 1 ≠ w.heap.size + 1 + 1 + 1; omega) _), Lib.hid (Y8.out.set_ 2 _), Lib.hid (by rw [selL_yes (by rw [EV.out]; exact HA.out), EV.out]; exact O8.out.setCell2 (.inr D8.out) _), D8, Lib.hid (B8.out.setCell (by show w.heap.size ≤ w.heap.size + 1 + 1 + 1; omega) _), by simp; omega⟩
        case measure => simp [intOf]; omega

    · have ek : j = K := by omega
      subst ek
      have hlt' : ¬ b + (j : Int) < nx := by have := HK.out; omega
      go_wp2_with (fail)
      clear p0 p1 p2
      have HO := Lib.hid (advL_sel (ackP xs mm) b j)
      have hL9 : Hid (∀ x ∈ selL (ackP xs mm) b j, x < b + (j : Int)) := Lib.hid fun x hx => (selL_mem.1 hx).2.1
      go_loopw [36] (fun i2 wq => ∃ (r m2 c2 : Nat) (A2 : Option Addr) (L : List Int), r ≤ j ∧ m2 ≤ 8 ∧ Hid (Blk wq (w.heap.size + 1) 34 #[.int .i64 0, .int .i64 0, .slice none 0 0]) ∧ Hid (Blk wq (w.heap.size + 1 + 1 + 1) 34 #[.int .i64 (b + (r : Int)), .int .i64 nx, .slice A2 m2 c2]) ∧ Hid (OW wq 3 (w.heap.size + 2) A2 m2 c2 L) ∧ Hid (Disj (some ⟨w.heap.size + 1 + 1 + 1, 0, none⟩) A2) ∧ Hid (Below w.heap.size w wq) ∧ w.heap.size + 1 + 1 + 1 < wq.heap.size ∧ Hid (advL (b + (r : Int)) L = ackR (ackP xs mm) b j) ∧ Hid (∀ x ∈ L, x < b + (j : Int))) (fun _ wq => lenC (wq.cell? ⟨w.heap.size + 1 + 1 + 1, 2, none⟩))
      case atStart => exact ⟨0, m, c', A', _, Nat.zero_le _, by omega, Q, by simpa using Y, O, hd, B, hzr, by simpa using HO, hL9⟩
      case round =>
        clear P Q Y O hd B hzr HO hL9
        obtain ⟨r, m2, c2, A2, L, hr, hm2, Q, Y, O, hd, B, hzr, HO, hL9⟩ := hrel
        obtain ⟨y0, y1, y2⟩ := Y.out.c3
        obtain ⟨v, ev⟩ : ∃ v, b + (r : Int) = v := ⟨_, rfl⟩
        have EV := Lib.hid ev
        rw [ev] at y0
        have END : Hid (L = [] ∨ (∃ x q, L = x :: q ∧ ¬ x = v) → upR (ackP xs mm) b j = v ∧ (ackR (ackP xs mm) b j).2 = L) := Lib.hid fun h9 => by
          have h8 := HO.out
          rw [EV.out] at h8
          have h7 : advL v L = (v, L) := by
            rcases h9 with rfl | ⟨x, q, rfl, hxv⟩
            · rfl
            · simp [advL, hxv]
          rw [h7] at h8
          rw [← ackR_fst, ← h8]
          exact ⟨rfl, rfl⟩
        rcases L with _ | ⟨x, q⟩
        · have hm0 : m2 = 0 := by have := O.out.len; simpa using this.symm
          have z1 : ¬ (0 : Int) < (m2 : Int) := by omega
          have z1n : ¬ 0 < m2 := by omega
          have z1d : decide (0 < m2) = false := by simp; omega
          obtain ⟨e1, e2⟩ := END.out (.inl rfl)
          have E1 := Lib.hid e1
          have E2 := Lib.hid e2
          clear ev e1 e2 hm0
          go_wp2_with (fail)
          go_quiet (fail)
          have y0' : (wr.drewN nq).cell? ⟨w.heap.size + 1 + 1 + 1, 0, none⟩ = some (.int .i64 v) := y0
          have y1' : (wr.drewN nq).cell? ⟨w.heap.size + 1 + 1 + 1, 1, none⟩ = some (.int .i64 nx) := y1
          have y2' : (wr.drewN nq).cell? ⟨w.heap.size + 1 + 1 + 1, 2, none⟩ = some (.slice A2 m2 c2) := y2
          have Q9 := Lib.hid (Q.out.drewN nq)
          obtain ⟨x0, x1, x2⟩ := Q9.out.c3
          have f0 := Q9.out.frozen 0
          have f1 := Q9.out.frozen 1
          have f2 := Q9.out.frozen 2
          go_wp2_with (fail)
          refine bodyPost_ret (v := .agg #[.int .i64 v, .int .i64 nx, .slice A2 m2 c2]) (by simp [results, Try.results39, go_sem, x0, x1, x2]) rfl ?_
          rw [E1.out, E2.out]
          refine ⟨A2, m2, c2, rfl, ?_, ?_⟩
          · refine OW.base_le (base := w.heap.size + 2) ?_ (by omega)
            repeat (refine OW.setCell ?_ (by show w.heap.size + 1 < w.heap.size + 2; omega) _)
            exact O.out.drewN _
          · repeat (refine Below.setCell ?_ (by show w.heap.size ≤ w.heap.size + 1; omega) _)
            exact below_drewN B.out _
        · have hlen : m2 = q.length + 1 := by have := O.out.len; simpa using this.symm
          have z1 : (0 : Int) < (m2 : Int) := by omega
          have z1n : 0 < m2 := by omega
          have z1d : decide (0 < m2) = true := by simp; omega
          obtain ⟨g, rfl, hg1, hg2⟩ := O.out.pos (by omega)
          obtain ⟨_, _, x', e2, hx2, hcx⟩ := O.out.is.at_ (k := 0) (by omega)
          simp only [Option.some.injEq, Addr.mk.injEq, and_true] at e2
          obtain ⟨rfl, rfl⟩ := e2
          simp only [List.getElem?_cons_zero, Option.some.injEq] at hx2
          obtain rfl : x = x' := hx2
          rw [Nat.add_zero] at hcx
          have HLEN := Lib.hid hlen
          clear hlen
          by_cases hxv : x = v
          · have hxv' : (x == v) = true := by simp [hxv]
            have hrj : r < j := by have := hL9.out x (by simp); rw [hxv, ← EV.out] at this; omega
            have hwv : IntKind.i64.wrap (v + 1) = v + 1 := by rw [IntKind.wrap_i64]; omega
            have hvb := ev
            clear ev
            have HXV := Lib.hid hxv
            clear hxv
            have y0s := y0
            go_wp2_with (fail)
            go_quiet (fail)
            obtain ⟨wz, eZ⟩ : ∃ z, z = wr.drewN nq := ⟨_, rfl⟩
            have Q9 : Hid (Blk wz _ _ _) := Lib.hid (by rw [eZ]; exact Q.out.drewN nq)
            have Y9 : Hid (Blk wz (w.heap.size + 1 + 1 + 1) 34 #[.int .i64 v, .int .i64 nx, .slice (some ⟨g, 0, none⟩) m2 c2]) := Lib.hid (by rw [eZ, ← EV.out]; exact Y.out.drewN nq)
            have O9 : Hid (OW wz _ _ _ _ _ _) := Lib.hid (by rw [eZ]; exact O.out.drewN nq)
            have B9 : Hid (Below w.heap.size w wz) := Lib.hid (by rw [eZ]; exact below_drewN B.out _)
            have hz9 : w.heap.size + 1 + 1 + 1 < wz.heap.size := by rw [eZ]; exact hzr
            rw [← eZ]
            clear eZ y0 y1 y2 y0s
            obtain ⟨y0, y1, y2⟩ := Y9.out.c3
            have f0 := Y9.out.frozen 0
            have f2 := Y9.out.frozen 2
            obtain ⟨wy, eY⟩ : ∃ z, z = wz.setCell ⟨w.heap.size + 1 + 1 + 1, 0, none⟩ (.int .i64 (v + 1)) := ⟨_, rfl⟩
            have Qy : Hid (Blk wy (w.heap.size + 1) 34 #[.int .i64 0, .int .i64 0, .slice none 0 0]) := Lib.hid (by rw [eY]; exact Q9.out.far (by show w.heap.size + 1 ≠ w.heap.size + 1 + 1 + 1; omega) _)
            have Yy : Hid (Blk wy (w.heap.size + 1 + 1 + 1) 34 #[.int .i64 (v + 1), .int .i64 nx, .slice (some ⟨g, 0, none⟩) m2 c2]) := Lib.hid (by rw [eY]; exact Y9.out.set_ 0 _)
            have Oy : Hid (OW wy 3 (w.heap.size + 2) (some ⟨g, 0, none⟩) m2 c2 (x :: q)) := Lib.hid (by rw [eY]; exact O9.out.setCell2 (.inr hd.out) _)
            have By : Hid (Below w.heap.size w wy) := Lib.hid (by rw [eY]; exact B9.out.setCell (by show w.heap.size ≤ w.heap.size + 1 + 1 + 1; omega) _)
            have hzy : w.heap.size + 1 + 1 + 1 < wy.heap.size := by rw [eY]; simpa using hz9
            have RS := Lib.hid (Oy.out.is.rest (K := 1) (by omega))
            have z3 : (1 : Int) ≤ (m2 : Int) := by omega
            go_wp2_with (go_at_call 38; rw [← eY]; go_must (refine (spec_copyInts_any _ RS.out (by omega)).mono ?_; rintro e w5 ⟨E5, m5, d5, rfl, ho, hb⟩; have O5 := Lib.hid ho; have W5 := Lib.hid hb; have Y5 := Lib.hid (Yy.out.on hb); obtain ⟨z0, z1, z2⟩ := Y5.out.c3; have g2 := Y5.out.frozen 2; clear ho hb))
            go_roundw
            case rel =>
              have hq5 : m5 = q.length := by have := O5.out.len; simpa using this.symm
              have hz5 := W5.out.size
              refine ⟨r + 1, m5, d5, E5, q, by omega, by have := HLEN.out; omega, Lib.hid ((Qy.out.on W5.out).far (by show w.heap.size + 1 ≠ w.heap.size + 1 + 1 + 1; omega) _), Lib.hid ?_, Lib.hid ?_, Lib.hid ?_, Lib.hid ?_, by simp; omega, Lib.hid ?_, Lib.hid fun z hz => hL9.out z (by simp [hz])⟩
              · have e : b + ((r + 1 : Nat) : Int) = v + 1 := by have := EV.out; omega
                rw [e]
                exact Y5.out.set_ 2 _
              · have h5 := O5.out.setCell (p := ⟨w.heap.size + 1 + 1 + 1, 2, none⟩) (by show w.heap.size + 1 + 1 + 1 < wy.heap.size; omega) (.slice E5 m5 d5)
                have h6 := h5.base_le (base' := w.heap.size + 2) (by omega)
                simpa using h6
              · exact Disj.mk (B := wy.heap.size) (fun p hp => by cases hp; exact hzy) O5.out.ge
              · exact (By.out.trans (W5.out.mono (by omega))).setCell (by show w.heap.size ≤ w.heap.size + 1 + 1 + 1; omega) _
              · have e : b + ((r + 1 : Nat) : Int) = v + 1 := by have := EV.out; omega
                rw [e, ← HO.out, EV.out, HXV.out]
                simp [advL]
            case measure =>
              rw [(Y5.out.set_ 2 _).c3.2.2, Y.out.c3.2.2]
              have h1 := O5.out.len
              have h2 := HLEN.out
              simp at h1
              simp [lenC]
              omega
          · have hxv' : (x == v) = false := by simp [hxv]
            obtain ⟨e1, e2⟩ := END.out (.inr ⟨x, q, rfl, hxv⟩)
            have E1 := Lib.hid e1
            have E2 := Lib.hid e2
            clear ev e1 e2 hxv
            go_wp2_with (fail)
            go_quiet (fail)
            have y0' : (wr.drewN nq).cell? ⟨w.heap.size + 1 + 1 + 1, 0, none⟩ = some (.int .i64 v) := y0
            have y1' : (wr.drewN nq).cell? ⟨w.heap.size + 1 + 1 + 1, 1, none⟩ = some (.int .i64 nx) := y1
            have y2' : (wr.drewN nq).cell? ⟨w.heap.size + 1 + 1 + 1, 2, none⟩ = some (.slice (some ⟨g, 0, none⟩) m2 c2) := y2
            have Q9 := Lib.hid (Q.out.drewN nq)
            obtain ⟨x0, x1, x2⟩ := Q9.out.c3
            have f0 := Q9.out.frozen 0
            have f1 := Q9.out.frozen 1
            have f2 := Q9.out.frozen 2
            go_wp2_with (fail)
            refine bodyPost_ret (v := .agg #[.int .i64 v, .int .i64 nx, .slice (some ⟨g, 0, none⟩) m2 c2]) (by simp [results, Try.results39, go_sem, x0, x1, x2]) rfl ?_
            rw [E1.out, E2.out]
            refine ⟨_, m2, c2, rfl, ?_, ?_⟩
            · refine OW.base_le (base := w.heap.size + 2) ?_ (by omega)
              repeat (refine OW.setCell ?_ (by show w.heap.size + 1 < w.heap.size + 2; omega) _)
              exact O.out.drewN _
            · repeat (refine Below.setCell ?_ (by show w.heap.size ≤ w.heap.size + 1; omega) _)
              exact below_drewN B.out _
end Go.Proofs.Ythbdcindhkjboaa
