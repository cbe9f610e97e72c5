/-
  BatchBytes of the model; FillOf of both.
-/
import Derived.Test.YtpodfjblojmkeaaCuL
namespace Go.Proofs.Ytpodfjblojmkeaa
open Go.RowKit

def Near (A' A : Option Addr) (h : Nat) : Prop := A'.map (·.block) = A.map (·.block) ∨ A'.map (·.block) = some h
theorem Near.disj {A' A D : Option Addr} {h : Nat} (k : Near A' A h) (h1 : Disj A D) (h2 : Lt D h) : Disj A' D := fun p q hp hq => by
  have hq2 := h2 q hq
  rcases k with e | e
  · rw [hp] at e
    rcases A with _ | r
    · simp at e
    · simp at e
      rw [e]; exact h1 r q rfl hq
  · rw [hp] at e
    simp at e
    omega
theorem run_append_is {P : Program} {w : World} {t ty T base : Nat} (hinfo : (P.info? T).map (fun i => (i.zero, i.size, i.bytes)) = some (some (.int .i64 0), 1, 8)) (ht : P.underlying t = some (.slice T))
    {A A2 : Option Addr} {n c m c2 : Nat} {xs ys : List Int} (hown : OW w T base A n c xs) (hr : IS w A2 m c2 ys) (hb : n + m ≤ 1073741824) (hbase : base ≤ w.heap.size) :
    ∃ A' c' w', (Builtin.append_ #[t, t] ty #[.slice A n c, .slice A2 m c2]).run P w = .ok (.slice A' (n + m) c') w' ∧ OW w' T base A' (n + m) c' (xs ++ ys) ∧ Row w w' A ∧ Near A' A w.heap.size := by
  obtain ⟨i, hi, hz, h1, h2⟩ := info_parts hinfo
  rcases A2 with _ | ad
  · obtain rfl : c2 = 0 := hr.2.2.2.2 rfl
    obtain rfl : m = 0 := by have := hr.2.1; omega
    obtain rfl : ys = [] := List.eq_nil_of_length_eq_zero hr.1
    have hrun := run_append_owned_none (P := P) (w := w) base t ty T i 1 ht hi (.slice A n c) n _ hown
    exact ⟨A, c, w, hrun, by rw [List.append_nil]; exact hown, Row.refl _ _, .inl rfl⟩
  · have hnews : ∀ j u, (ys.map (Value.int .i64))[j]? = some u → w.cell? (ad.add j) = some u := by
      intro j u hj
      have hl := hr.1
      rw [List.getElem?_map] at hj
      by_cases hm : j < m
      · obtain ⟨b, off, e, hc⟩ := hr.2.2.2.1 (by omega)
        simp only [Option.some.injEq] at e
        subst e
        rw [add_plain', hc j hm, List.getD_eq_getElem?_getD, List.getElem?_eq_getElem (by omega)]
        rw [List.getElem?_eq_getElem (by omega)] at hj
        simpa using hj
      · rw [List.getElem?_eq_none (by omega)] at hj
        cases hj
    obtain ⟨v', w', hrun, hown', hg, _, hat⟩ := run_append_own_at (P := P) w base t ty T i (.int .i64 0) 1 8 ht hi hz h1 h2 rfl (by omega) (.slice A n c) n (xs.map (Value.int .i64)) hown ad m c2 (ys.map (Value.int .i64)) (by rw [List.length_map]; have := hr.1; omega) hnews (ints_oneCell _ _) (by simp only [maxLen]; omega) (by omega) hbase
    rw [← List.map_append] at hown'
    rcases hown'.2 with ⟨rfl, h0⟩ | ⟨g, cap, cur, rfl, _⟩
    · exact ⟨none, 0, w', by rw [hrun, h0], by unfold OW; rw [h0] at hown' ⊢; exact hown', by unfold Row; rw [← own_map (n := n) (c := c)]; exact hg, by rw [own_map, own_map] at hat; exact hat⟩
    · exact ⟨_, _, w', hrun, hown', by unfold Row; rw [← own_map (n := n) (c := c)]; exact hg, by rw [own_map, own_map] at hat; exact hat⟩
theorem wpList_append_is2 {P : Program} (w : World) {ops : Array Oper} {rest : List Oper} {o : Oper} {a : Act} {Q : Exit → Act → World → Prop} (hgd : o.guard = none) (s x : Operand) (t : TypeId)
    (ho : o.op = .call { callee := .builtin .append, args := #[s, x], argTypes := #[t, t] })
    (base T : Nat) (hinfo : (P.info? T).map (fun i => (i.zero, i.size, i.bytes)) = some (some (.int .i64 0), 1, 8)) (ht : P.underlying t = some (.slice T))
    (A : Option Addr) (n c : Nat) (xs : List Int) (hs : a.eval s = .slice A n c) (hown : OW w T base A n c xs)
    (A2 : Option Addr) (m c2 : Nat) (ys : List Int) (hx : a.eval x = .slice A2 m c2) (hr : IS w A2 m c2 ys) (hb : n + m ≤ 1073741824) (hbase : base ≤ w.heap.size)
    (h : ∀ A' c' w', OW w' T base A' (n + m) c' (xs ++ ys) → Row w w' A → Near A' A w.heap.size → wpList P ops Q rest (a.put o.dst (.slice A' (n + m) c')) w') :
    wpList P ops Q (o :: rest) a w := by
  obtain ⟨A', c', w', hrun, h2, h3, h4⟩ := run_append_is (P := P) (ty := o.type) hinfo ht hown hr hb hbase
  refine wpList_plain hgd fun K hK => ?_
  unfold Oper.wp execOp
  simp only [ho, resolve, invoke, builtin, Sem.run_bind, Sem.run_pure, Result.andThen_ok, List.map_toArray, List.map_cons, List.map_nil, hs, hx, hrun]
  exact hK _ _ (h A' c' w' h2 h3 h4)
theorem bb_at {bytes : Int} {M : Nat} {xs : List Int} {pre : List (List Int)} {at_ : Nat} (h : pre ++ BB bytes M (xs.drop at_) = BB bytes M xs) (hr : allR xs 1 20 = true) (hb : 20 ≤ bytes) (hM : 1 ≤ M) (hk : pre.length < (cntL (BB bytes M xs)).length) :
    ∃ N, 1 ≤ N ∧ N ≤ M ∧ at_ + N ≤ xs.length ∧ (cntL (BB bytes M xs))[pre.length]? = some (N : Int) ∧ (pre ++ [(xs.drop at_).take N]) ++ BB bytes M (xs.drop (at_ + N)) = BB bytes M xs := by
  have hne : xs.drop at_ ≠ [] := by
    intro e
    rw [e, BB_nil, List.append_nil] at h
    rw [← h] at hk
    simp [cntL] at hk
  have hn := BB_next hne (allR_drop hr _) hb hM
  have h1 := fit_pos hne (allR_drop hr at_) hb hM
  obtain ⟨h2, h3⟩ := fit_le M bytes (xs.drop at_)
  rw [List.length_drop] at h3
  rw [List.drop_drop] at hn
  generalize fitN bytes M (xs.drop at_) = N at hn h1 h2 h3
  refine ⟨N, h1, h2, by omega, ?_, by rw [← h, hn, List.append_assoc]; rfl⟩
  have hl : ((xs.drop at_).take N).length = N := by rw [List.length_take, List.length_drop]; omega
  rw [← h, hn, cntL_app]
  rw [List.getElem?_append_right (by simp [cntL])]
  simp [cntL, hl]
theorem bb_end {bytes : Int} {M : Nat} {xs : List Int} {pre : List (List Int)} {at_ : Nat} (h : pre ++ BB bytes M (xs.drop at_) = BB bytes M xs) (hk : pre.length = (cntL (BB bytes M xs)).length) : pre = BB bytes M xs := by
  have e := congrArg List.length h
  simp [cntL] at hk
  rw [List.length_append] at e
  have e2 : (BB bytes M (xs.drop at_)).length = 0 := by omega
  rw [List.eq_nil_of_length_eq_zero e2, List.append_nil] at h
  exact h
set_option maxHeartbeats 8000000 in
theorem spec_BatchBytes_any {A : Option Addr} {n c : Nat} {xs : List Int} (bytes many : Int) (w : World) (h : IS w A n c xs) :
    Calls Try.prog 24 #[.slice A n c, .int .i64 bytes, .int .i64 many] w (GaveInts 3 w (bsV xs bytes many)) := by
  have HL := Lib.hid h.len
  have hcap := h.cap
  have H := Lib.hid h
  clear h
  have I0 := Lib.hid (H.out.alloc (.cells #[] 3))
  have B0 := Lib.hid (below_new w (.cells #[] 3))
  rcases hok : cutOK xs bytes many with _ | _
  · go_enter Try.func24, Try.ntmps24
    go_wp2_with (go_at_call 35; refine (call_b (spec_validSizes_any _ _ _ I0.out) hok).mono ?_; rintro e w' ⟨rfl, rfl⟩)
    go_ret
    exact ⟨_, _, _, rfl, by rw [bsV_no hok]; exact OW.none _ _ _, B0.out⟩
  obtain ⟨h12, hr, hb, hm⟩ := cut_in hok
  obtain ⟨hb0, hb1⟩ := inR_iff.1 hb
  obtain ⟨hm0, hm1⟩ := inR_iff.1 hm
  obtain ⟨M, rfl⟩ := Int.eq_ofNat_of_zero_le (show 0 ≤ many by omega)
  have hM1 : 1 ≤ M := by omega
  have HE : Hid (sumL2 (BB bytes M xs) = bsV xs bytes (M : Int)) := Lib.hid (by simp [bsV, bbV, hok])
  have HOK := Lib.hid hok
  have hn : n ≤ 12 := by have := HL.out; omega
  have HC := Lib.hid (spec_cut_any bytes M _ I0.out hr hn hb0 hb1 hM1 (by omega))
  have hO : OW (w.alloc (.cells #[] 3)) 3 w.heap.size (some ⟨w.heap.size, 0, none⟩) 0 0 [] := by simpa using OW.lit w 3 w.heap.size [] (Nat.le_refl _) (by simp)
  have O0 := Lib.hid hO
  have HR := Lib.hid hr
  have hlen : (BB bytes M xs).length ≤ 12 := by have := BB_len hb0 hM1 hr; omega
  obtain ⟨L, hL⟩ : ∃ L, cntL (BB bytes M xs) = L := ⟨_, rfl⟩
  have hLl : L.length ≤ 12 := by rw [← hL]; simp [cntL]; exact hlen
  have HLL := Lib.hid hL
  clear hok h12 hr hb hm hO hlen hL
  go_enter Try.func24, Try.ntmps24
  go_wp2_with (go_at_call 35; refine (call_b (spec_validSizes_any _ _ _ I0.out) HOK.out).mono ?_; rintro e w' ⟨rfl, rfl⟩)
  refine HC.out.mono ?_
  rintro e w2 ⟨A2, n2, c2, rfl, ho, hb2⟩
  rw [HLL.out] at ho
  have hn2 : n2 ≤ 12 := by have := ho.len; omega
  have hL2 := Lib.hid ho.len
  have O2 := Lib.hid (O0.out.below hb2 (Nat.le_refl _))
  have B2 := Lib.hid (B0.out.trans (hb2.mono B0.out.size))
  have I2 := Lib.hid ho.is
  have hl2 : Hid (Ge A2 (w.heap.size + 1)) := Lib.hid (by have := ho.ge; simpa using this)
  have h2w := Lib.hid hb2
  have hsz2 := hb2.size
  simp at hsz2
  clear ho hb2 O0 B0 I0 HC
  go_wp2_with (fail)
  go_loopw [7, 9, 10] (fun l av iv wr => ∃ (at_ : Nat) (pre : List (List Int)) (A1 : Option Addr) (c1 : Nat), at_ ≤ n ∧ pre.length ≤ n2 ∧ iv = .int .i64 (pre.length : Int) ∧ av = .int .i64 (at_ : Int) ∧ l = .slice A1 pre.length c1 ∧ Hid (pre ++ BB bytes M (xs.drop at_) = BB bytes M xs) ∧ Hid (OW wr 3 w.heap.size A1 pre.length c1 (sumL2 pre)) ∧ Hid (IS wr A2 n2 c2 L) ∧ Hid (Below w.heap.size w wr) ∧ Hid (Disj A2 A1)) (fun _ _ i _ => n2 - (intOf i).toNat)
  case atStart => exact ⟨0, [], _, 0, Nat.zero_le _, Nat.zero_le _, rfl, rfl, rfl, Lib.hid rfl, O2, I2, B2, Lib.hid (Disj.mk (B := w.heap.size + 1) (fun p hp => by cases hp; exact Nat.lt_succ_self _) hl2.out).symm⟩
  case round =>
    obtain ⟨at_, pre, A1, c1, ha, hp, rfl, rfl, rfl, hf, ho, hi2, hb, hd⟩ := hrel
    clear O2 I2 B2
    have hsz := hb.out.size
    by_cases hlt : pre.length < n2
    · have hlt' : (pre.length : Int) < (n2 : Int) := by omega
      obtain ⟨N, hN1, hNM, hNl, hNc, hNf⟩ := bb_at hf.out HR.out hb0 hM1 (by rw [HLL.out, hL2.out]; exact hlt)
      rw [HL.out] at hNl
      rw [HLL.out] at hNc
      obtain ⟨g2, off2, v, rfl, hx, hcN⟩ := hi2.out.at_ hlt
      rw [hNc] at hx
      obtain rfl : (N : Int) = v := by injection hx
      obtain ⟨b, off, _, rfl, _, _⟩ := H.out.at_ (k := at_) (by omega)
      have IW := Lib.hid (H.out.below hb.out (Nat.le_refl _))
      have hcc := H.out.2.1
      obtain ⟨e, he⟩ : ∃ e, at_ + N = e := ⟨_, rfl⟩
      rw [he] at hNl hNf
      have IC := Lib.hid (IW.out.cut (lo := at_) (hi := e) (by omega) hNl)
      have hwe : IntKind.i64.wrap ((at_ : Int) + (N : Int)) = (e : Int) := by rw [IntKind.wrap_i64]; omega
      have hwe2 : (at_ : Int) + (N : Int) = (e : Int) := by omega
      have za : (0 : Int) ≤ (at_ : Int) := by omega
      have zae : (at_ : Int) ≤ (e : Int) := by omega
      have zec : (e : Int) ≤ (c : Int) := by omega
      have hca : ¬ c = at_ := by omega
      have zk : (0 : Int) ≤ (pre.length : Int) := by omega
      obtain ⟨S, hS⟩ : ∃ S, ((xs.take e).drop at_).sum = S := ⟨_, rfl⟩
      have hrc : allR ((xs.take e).drop at_) 0 1000 = true := allR_wide (allR_drop (allR_take HR.out e) at_) (by omega) (by omega)
      have hsb := sum_bd _ hrc
      have hll : ((xs.take e).drop at_).length ≤ 12 := by rw [List.length_drop, List.length_take]; have := HL.out; omega
      rw [hS] at hsb
      have HCS := Lib.hid (call_int (spec_sum_any wr IC.out hrc (by omega)) hS)
      have hpS : sumL2 (pre ++ [(xs.drop at_).take N]) = sumL2 pre ++ [S] := by
        have e1 : (xs.drop at_).take N = (xs.take e).drop at_ := by rw [List.drop_take]; congr 1; omega
        rw [sumL2_app, e1]
        simp [sumL2, hS]
      have HPS := Lib.hid hpS
      have HNF := Lib.hid hNf
      have O7 := Lib.hid (ho.out.alloc (.cells #[.int .i64 S] 3))
      have I7 := Lib.hid (hi2.out.alloc (.cells #[.int .i64 S] 3))
      have SV : Hid (IS (wr.alloc (.cells #[.int .i64 S] 3)) (some ⟨wr.heap.size, 0, none⟩) 1 1 [S]) := Lib.hid (by simpa using (OW.lit wr 3 0 [S] (by simp) (by simp)).is)
      have B7 := Lib.hid (hb.out.alloc hsz (.cells #[.int .i64 S] 3))
      have hpl : (pre ++ [(xs.drop at_).take N]).length = pre.length + 1 := by simp
      have HPL := Lib.hid hpl
      have HHE := Lib.hid he
      have HCA : Hid (∀ w', IS w' (some ⟨g2, off2, none⟩) n2 c2 L → w'.cell? ⟨g2, off2 + pre.length, none⟩ = some (.int .i64 (N : Int))) := Lib.hid fun w' h9 => by
        obtain ⟨g', off', v', e', hx3, hc3⟩ := h9.at_ hlt
        simp only [Option.some.injEq, Addr.mk.injEq, and_true] at e'
        obtain ⟨rfl, rfl⟩ := e'
        rw [hNc] at hx3
        cases hx3
        exact hc3
      clear hx hpS hNf hS hsb hrc hNc he hpl
      have B7z := B7.out.size
      go_wp2_with (first | (go_at_call 37; refine HCS.out.mono ?_; rintro e' w' ⟨rfl, rfl⟩) | (at_builtin; go_must (refine wpList_append_is2 _ rfl (.tmp 27) (.tmp 38) _ rfl w.heap.size 3 infoInt Try.underlying23 _ _ _ _ rfl O7.out _ _ _ _ rfl SV.out (by omega) (by simp; omega) ?_); intro A8 c8 w8 hown8 hg8 hnr8; have O8 := Lib.hid hown8; have B8 := Lib.hid (below_row B7.out hg8 B7z O7.out.ge); have I8 := Lib.hid (I7.out.away hg8 hd.out); have D8 := Lib.hid (hnr8.disj hd.out.symm (fun q hq => by cases hq; have h9 := World.block_lt_of_cell? wr ⟨g2, off2 + pre.length, none⟩ hcN; simp; simp at h9; omega)).symm; clear hown8 hg8 hnr8; have hc8 := (HCA.out w8 I8.out)))
      go_roundw
      case rel => exact ⟨e, pre ++ [(xs.drop at_).take N], A8, c8, hNl, by rw [HPL.out]; exact hlt, by rw [HPL.out]; go_num, by first | rfl | go_num, by rw [HPL.out], HNF, by rw [HPS.out, HPL.out]; exact O8, I8, B8, D8⟩
      case measure => simp [intOf]; omega
    · have hlt' : ¬ (pre.length : Int) < (n2 : Int) := by omega
      have hpe := bb_end hf.out (by rw [HLL.out, hL2.out]; omega)
      have HPE := Lib.hid hpe
      clear hpe
      go_wp2_with (fail)
      go_ret
      exact ⟨_, _, _, rfl, by rw [← HE.out, ← HPE.out]; exact ho.out, hb.out⟩
end Go.Proofs.Ytpodfjblojmkeaa
