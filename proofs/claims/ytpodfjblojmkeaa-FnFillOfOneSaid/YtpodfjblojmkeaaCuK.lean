/-
  The program's BatchBytes: a range over the batches that collects.
-/
import Derived.Test.YtpodfjblojmkeaaCuJ
namespace Go.Proofs.Ytpodfjblojmkeaa
open Go.RowKit Go.Shelf
attribute [local go_sem] Oper.semAt_some

theorem snoc_sum {w : World} (pre : List (Bt w)) (x : Bt w) : (sumL2 ((pre ++ [x]).map Bt.xs)).map (Value.int .i64) = (sumL2 (pre.map Bt.xs)).map (Value.int .i64) ++ [.int .i64 x.xs.sum] := by
  simp [sumL2]
theorem stepIn_append {F : Fence} {n : Nat} {P : Program} (w : World) {ops : Array Oper} {o : Oper} {a : Act} {K : Act → World → Prop} {Q : Exit → Act → World → Prop} {E : Prop}
    (hg : o.guard = none) (s x : Operand) (t : TypeId) (hop : o.op = Op.call { callee := Callee.builtin Builtin.append, args := #[s, x], argTypes := #[t, t] })
    (base : Nat) (e : TypeId) (i : TypeInfo) (z : Value) (size bytes : Nat) (h1 : P.underlying t = some (.slice e)) (h2 : P.info? e = some i) (h3 : i.zero = some z) (h4 : i.size = size) (h5 : i.bytes = bytes) (h6 : z.cells.size = size) (h7 : 0 < size)
    (v : Value) (k : Nat) (xs : List Value) (hs : a.eval s = v) (hown : w.ownsRow base e size v k xs) (ad : Addr) (m c : Nat) (news : List Value) (hx : a.eval x = .slice (some ad) m c) (hn : news.length = m * size)
    (hc : ∀ j u, news[j]? = some u → w.cell? (ad.add j) = some u) (h1c : ∀ u ∈ news, u.oneCell' = true) (b1 : k + m ≤ maxLen) (b2 : (k + m) * bytes ≤ 140737488355328) (b3 : base ≤ w.heap.size)
    (hK : ∀ v' w', w'.ownsRow base e size v' (k + m) (xs ++ news) → w.grownBy w' v.ownBlock → (v' = .slice none 0 0 ↔ v = .slice none 0 0 ∧ m = 0) → K (a.put o.dst v') w') :
    if Region.wanted o (yielded ops a.tmps) = true then Oper.wpIn F n P o a w K Q else E := by
  have hw : Region.wanted o (yielded ops a.tmps) = true := by simp [Region.wanted, hg]
  rw [if_pos hw]
  obtain ⟨v', w', hrun, r1, r2, r3⟩ := run_append_own (P := P) w base t o.type e i z size bytes h1 h2 h3 h4 h5 h6 h7 v k xs hown ad m c news hn hc h1c b1 b2 b3
  unfold Oper.wpIn
  refine ⟨?_, ?_⟩
  · simp [Oper.about, hop, resolve, Target.leads, Sem.run_pure]
  · rw [Oper.semAt_plain F _ _ (by rw [hop]; intro c hc'; cases hc')]
    simp [execOp, hop, resolve, invoke, builtin, hs, hx, hrun, Result.andThen]
    exact hK v' w' r1 r2 r3
set_option maxRecDepth 100000 in
set_option maxHeartbeats 4000000 in
theorem impl_BatchBytes_any {A : Option Addr} {n1 c1 : Nat} {xs : List Int} (bytes many : Int) (w : World) (h : IS w A n1 c1 xs) :
    Calls Try.prog 25 #[.slice A n1 c1, .int .i64 bytes, .int .i64 many] w (GaveInts 3 w (bsV xs bytes many)) := by
  rcases hok : cutOK xs bytes many with _ | _
  · have HOK := Lib.hid hok
    have H := Lib.hid h
    clear h
    go_enter Try.func25, Try.ntmps25
    go_wp2_with (go_at_call 33; refine (call_b (impl_validCut_any bytes many _ H.out) HOK.out).mono ?_; rintro e w' ⟨rfl, rfl⟩)
    go_ret
    exact ⟨_, _, _, rfl, by rw [bsV_no HOK.out]; exact OW.none _ _ _, Below.refl _ _⟩
  obtain ⟨h12, hr, hb, hm⟩ := cut_in hok
  obtain ⟨hb0, hb1⟩ := inR_iff.1 hb
  obtain ⟨hm0, hm1⟩ := inR_iff.1 hm
  obtain ⟨M, rfl⟩ := Int.eq_ofNat_of_zero_le (show 0 ≤ many by omega)
  have hM1 : 1 ≤ M := by omega
  have hM12 : M ≤ 12 := by omega
  have hl := h.len
  have HE : Hid (bsV xs bytes (M : Int) = sumL2 (BB bytes M xs)) := Lib.hid (by simp [bsV, bbV, hok])
  have HOK := Lib.hid hok
  have H := Lib.hid h
  clear h
  obtain ⟨i0, hi, hz0, hz1, hz2⟩ := info_parts infoInt
  refine (callsIn_wide (n := 3)).1 ?_
  refine callsIn_of_wp_marks Try.func25 rfl trivial ?_ rfl
  simp only [Try.ntmps25, List.size_toArray, List.length_cons, List.length_nil, Nat.reduceAdd, Nat.reduceSub, Array.replicate_succ, Array.replicate_zero, List.push_toArray, List.append_toArray, List.nil_append, List.cons_append]
  gi_wp2_with (first | (refine ⟨trivial, ?_⟩; gi_at_call 33; refine (callsIn_wide.2 (call_b (impl_validCut_any bytes (M : Int) _ H.out) HOK.out)).mono ?_; rintro e w' ⟨rfl, rfl⟩) | (refine ⟨trivial, ?_⟩; gi_at_call 34; refine (callsIn_wide.2 (impl_batchesOf_any bytes (M : Int) _)).mono ?_; rintro e w' ⟨rfl, rfl⟩))
  have bO := Boxed.new w 23 (.slice none 0 0)
  have b1 := Boxed.new (w.alloc (.cells #[.slice none 0 0] 23)) 23 (.slice A n1 c1)
  have b2 := Boxed.new ((w.alloc (.cells #[.slice none 0 0] 23)).alloc (.cells #[.slice A n1 c1] 23)) 3 (.int .i64 bytes)
  have b3 := Boxed.new (((w.alloc (.cells #[.slice none 0 0] 23)).alloc (.cells #[.slice A n1 c1] 23)).alloc (.cells #[.int .i64 bytes] 3)) 3 (.int .i64 (M : Int))
  simp only [World.size_alloc] at b1 b2 b3
  have hB0 : Below w.heap.size w ((((w.alloc (.cells #[.slice none 0 0] 23)).alloc (.cells #[.slice A n1 c1] 23)).alloc (.cells #[.int .i64 bytes] 3)).alloc (.cells #[.int .i64 (M : Int)] 3)) := ((((Below.refl _ w).alloc (Nat.le_refl _) _).alloc (by simp) _).alloc (by simp; omega) _).alloc (by simp; omega) _
  obtain ⟨W0, hW0⟩ : ∃ W0, (((w.alloc (.cells #[.slice none 0 0] 23)).alloc (.cells #[.slice A n1 c1] 23)).alloc (.cells #[.int .i64 bytes] 3)).alloc (.cells #[.int .i64 (M : Int)] 3) = W0 := ⟨_, rfl⟩
  have hsz : W0.heap.size = w.heap.size + 4 := by rw [← hW0]; simp
  have bO' : Boxed W0 w.heap.size 23 (.slice none 0 0) := by rw [← hW0]; exact ((bO.alloc _).alloc _).alloc _
  have b1' : Boxed W0 (w.heap.size + 1) 23 (.slice A n1 c1) := by rw [← hW0]; exact (b1.alloc _).alloc _
  have b2' : Boxed W0 (w.heap.size + 1 + 1) 3 (.int .i64 bytes) := by rw [← hW0]; exact b2.alloc _
  have b3' : Boxed W0 (w.heap.size + 1 + 1 + 1) 3 (.int .i64 (M : Int)) := by rw [← hW0]; exact b3
  rw [hW0] at hB0 ⊢
  clear bO b1 b2 b3 hW0
  refine wpIn_rangeFunc_ownG rfl (by omega) (gf := 44) (lb := #[.pointer (some ⟨w.heap.size + 1, 0, none⟩), .pointer (some ⟨w.heap.size + 1 + 1, 0, none⟩), .pointer (some ⟨w.heap.size + 1 + 1 + 1, 0, none⟩)]) rfl trivial (enters_of Try.func44 (by kernel_rfl) rfl)
    (batches_stops 2 (w.heap.size + 1) w.heap.size (w.heap.size + 4) (by omega) bytes M w W0 H.out hr (by omega) hb0 hb1 hM1 hM12 rfl (by omega) (by omega) (by omega) hB0 b1' b2' b3') Kp.trans (Kp.putObj (by omega) (by omega)) (Below.refl _ _) (fun _ => rfl)
    (fun (pre : List (Bt w)) W => (∃ v, Boxed W w.heap.size 23 v ∧ W.ownsRow (w.heap.size + 4) 3 1 v pre.length ((sumL2 (pre.map Bt.xs)).map (Value.int .i64)) ∧ True) ∧ Below w.heap.size W0 W)
    (fun _ _ _ => False)
    (OwnFrom.and (Own.from (holdsRow_own (w.heap.size + 4) w.heap.size 23 3 1 (fun (pre : List (Bt w)) => pre.length) (fun (pre : List (Bt w)) => (sumL2 (pre.map Bt.xs)).map (Value.int .i64)) (fun _ _ => True)) _) (ownFrom_below (by omega) (by omega)))
    (fun _ _ _ _ _ hs _ _ => hs)
    ⟨⟨_, bO', World.ownsRow_nil _ _ _ _, trivial⟩, Below.refl _ _⟩
    (fun (x : Bt w) => { tmps := #[.slice A n1 c1, .int .i64 bytes, .int .i64 (M : Int), undef, undef, undef, .slice none 0 0, .pointer (some ⟨w.heap.size, 0, none⟩), .slice x.1.1 x.1.2.1 x.1.2.2.1, .slice A n1 c1, .int .i64 bytes, .int .i64 (M : Int), .bool true, .bool false, .slice A n1 c1, .int .i64 bytes, .int .i64 (M : Int), .func (.func 44) #[] #[.pointer (some ⟨w.heap.size + 1, 0, none⟩), .pointer (some ⟨w.heap.size + 1 + 1, 0, none⟩), .pointer (some ⟨w.heap.size + 1 + 1 + 1, 0, none⟩)], .slice x.1.1 x.1.2.1 x.1.2.2.1, undef, undef, undef, undef, undef, undef], defers := [] }) ?assign ?body ?done ?stop
  case assign =>
    intro l x W K hK
    dsimp only [Bt.enc]
    gi_wp2
    exact hK
  case body =>
    rintro l pre x W ⟨⟨v, hv, hrow, _⟩, hB⟩ hlt
    have hc := hv.cell
    have hxn := x.2.2.2
    have hsz2 := hB.size
    have hbz : w.heap.size + 4 ≤ W.heap.size := by omega
    have hB' : Below w.heap.size w W := hB0.trans hB
    have hxi := (x.2.1.below (hB'.mono (Nat.le_refl _)) (Nat.le_refl _))
    have HX : Hid (∀ W', W'.heap = W.heap → Calls Try.prog 38 #[.slice x.1.1 x.1.2.1 x.1.2.2.1] W' fun e w' => e = .returned (.int .i64 x.xs.sum) ∧ W' = w') := Lib.hid fun W' hh => impl_sumOf_any W' (hxi.keep fun p _ => by simp [World.cell?, hh]) (allR_wide x.2.2.1 (by omega) (by omega)) (by omega)
    have hca := (hv.alloc (.cells #[.int .i64 x.xs.sum] 3)).cell
    have hmx : Try.prog.follows .mixedOrders = true := by kernel_rfl
    have hrowd : W.drew.ownsRow (w.heap.size + 4) 3 1 v pre.length ((sumL2 (pre.map Bt.xs)).map (Value.int .i64)) := hrow
    have hvd : Boxed W.drew w.heap.size 23 v := hv
    have hbzd : w.heap.size + 4 ≤ W.drew.heap.size := hbz
    gi_wp2
    refine wpIn_region_any hmx ?_
    change wpAnyIn _ _ _ _ _ _ _ _ _ (World.drew _)
    refine wpAnyIn_ready (rs := [0, 1]) (by kernel_rfl) (by simp) ?_
    refine AllReadyIn.cons rfl (fun K hK => ?_) ?_
    · go_simp
      refine hK _ _ ?_
      clear hK K
      refine wpAnyIn_ready (rs := [1]) (by kernel_rfl) (by simp) ?_
      refine AllReadyIn.cons rfl (fun K hK => ?_) AllReadyIn.nil
      go_simp
      refine hK _ _ ?_
      clear hK K
      refine wpAnyIn_ready (rs := [2]) (by kernel_rfl) (by simp) ?_
      refine AllReadyIn.cons rfl (fun K hK => ?_) AllReadyIn.nil
      go_simp
      refine ⟨trivial, (CallsIn.inRound l (callsIn_wide.2 (HX.out W.drew rfl))).mono ?_⟩
      rintro e w' ⟨rfl, rfl⟩
      refine hK _ _ ?_
      clear hK K
      refine wpAnyIn_ready (rs := [3]) (by kernel_rfl) (by simp) ?_
      refine AllReadyIn.cons rfl (fun K hK => ?_) AllReadyIn.nil
      go_simp
      refine hK _ _ ?_
      clear hK K
      refine wpAnyIn_ready (rs := [4]) (by kernel_rfl) (by simp) ?_
      refine AllReadyIn.cons rfl (fun K hK => ?_) AllReadyIn.nil
      refine stepIn_append _ rfl _ _ 23 rfl (w.heap.size + 4) 3 i0 (.int .i64 0) 1 8 Try.underlying23 hi hz0 hz1 hz2 rfl (by decide) v pre.length ((sumL2 (pre.map Bt.xs)).map (Value.int .i64)) (by simp [Act.eval, Act.put]) (hrowd.alloc _) ⟨W.heap.size, 0, none⟩ 1 1 [.int .i64 x.xs.sum] (by simp [Act.eval, Act.put]) rfl (cell_one_new _ _ _) (by simp [Value.oneCell']) (by simp only [maxLen]; omega) (by omega) (by simp; omega) ?_
      intro v' w1 hown' hgrow _
      obtain ⟨g', cap', rfl⟩ := ownsRow_succ hown'
      obtain ⟨hv1, hv2, hr2, hk2, hb2, hp2⟩ := appended2 (n0 := w.heap.size) hvd (by decide) hrowd hbzd (Nat.le_refl _) (by omega) (by omega) hown' hgrow
      have hc1 := hv1.cell
      have hf1 := hv1.frozen
      refine hK _ _ ?_
      clear hK K
      refine wpAnyIn_ready (rs := [5]) (by kernel_rfl) (by simp) ?_
      refine AllReadyIn.cons rfl (fun K hK => ?_) AllReadyIn.nil
      go_simp
      refine hK _ _ ?_
      clear hK K
      refine wpAnyIn_done (by kernel_rfl) ?_ _
      gi_wp2
      exact ⟨((KeepsOthers.drew W).trans hk2).from _, ⟨(below_drewN (Below.refl _ _) 1).trans hb2, hp2⟩, ⟨_, hv2, by rw [snoc_len, snoc_sum]; first | exact hr2 | exact ⟨hr2, trivial⟩⟩, (hB.trans (below_drewN (Below.refl _ _) 1)).trans hb2⟩
    refine AllReadyIn.cons rfl (fun K hK => ?_) AllReadyIn.nil
    go_simp
    refine hK _ _ ?_
    clear hK K
    refine wpAnyIn_ready (rs := [0, 2]) (by kernel_rfl) (by simp) ?_
    refine AllReadyIn.cons rfl (fun K hK => ?_) ?_
    · go_simp
      refine hK _ _ ?_
      clear hK K
      refine wpAnyIn_ready (rs := [2]) (by kernel_rfl) (by simp) ?_
      refine AllReadyIn.cons rfl (fun K hK => ?_) AllReadyIn.nil
      go_simp
      refine ⟨trivial, (CallsIn.inRound l (callsIn_wide.2 (HX.out W.drew rfl))).mono ?_⟩
      rintro e w' ⟨rfl, rfl⟩
      refine hK _ _ ?_
      clear hK K
      refine wpAnyIn_ready (rs := [3]) (by kernel_rfl) (by simp) ?_
      refine AllReadyIn.cons rfl (fun K hK => ?_) AllReadyIn.nil
      go_simp
      refine hK _ _ ?_
      clear hK K
      refine wpAnyIn_ready (rs := [4]) (by kernel_rfl) (by simp) ?_
      refine AllReadyIn.cons rfl (fun K hK => ?_) AllReadyIn.nil
      refine stepIn_append _ rfl _ _ 23 rfl (w.heap.size + 4) 3 i0 (.int .i64 0) 1 8 Try.underlying23 hi hz0 hz1 hz2 rfl (by decide) v pre.length ((sumL2 (pre.map Bt.xs)).map (Value.int .i64)) (by simp [Act.eval, Act.put]) (hrowd.alloc _) ⟨W.heap.size, 0, none⟩ 1 1 [.int .i64 x.xs.sum] (by simp [Act.eval, Act.put]) rfl (cell_one_new _ _ _) (by simp [Value.oneCell']) (by simp only [maxLen]; omega) (by omega) (by simp; omega) ?_
      intro v' w1 hown' hgrow _
      obtain ⟨g', cap', rfl⟩ := ownsRow_succ hown'
      obtain ⟨hv1, hv2, hr2, hk2, hb2, hp2⟩ := appended2 (n0 := w.heap.size) hvd (by decide) hrowd hbzd (Nat.le_refl _) (by omega) (by omega) hown' hgrow
      have hc1 := hv1.cell
      have hf1 := hv1.frozen
      refine hK _ _ ?_
      clear hK K
      refine wpAnyIn_ready (rs := [5]) (by kernel_rfl) (by simp) ?_
      refine AllReadyIn.cons rfl (fun K hK => ?_) AllReadyIn.nil
      go_simp
      refine hK _ _ ?_
      clear hK K
      refine wpAnyIn_done (by kernel_rfl) ?_ _
      gi_wp2
      exact ⟨((KeepsOthers.drew W).trans hk2).from _, ⟨(below_drewN (Below.refl _ _) 1).trans hb2, hp2⟩, ⟨_, hv2, by rw [snoc_len, snoc_sum]; first | exact hr2 | exact ⟨hr2, trivial⟩⟩, (hB.trans (below_drewN (Below.refl _ _) 1)).trans hb2⟩
    refine AllReadyIn.cons rfl (fun K hK => ?_) AllReadyIn.nil
    go_simp
    refine ⟨trivial, (CallsIn.inRound l (callsIn_wide.2 (HX.out W.drew rfl))).mono ?_⟩
    rintro e w' ⟨rfl, rfl⟩
    refine hK _ _ ?_
    clear hK K
    refine wpAnyIn_ready (rs := [0, 3]) (by kernel_rfl) (by simp) ?_
    refine AllReadyIn.cons rfl (fun K hK => ?_) ?_
    · go_simp
      refine hK _ _ ?_
      clear hK K
      refine wpAnyIn_ready (rs := [3]) (by kernel_rfl) (by simp) ?_
      refine AllReadyIn.cons rfl (fun K hK => ?_) AllReadyIn.nil
      go_simp
      refine hK _ _ ?_
      clear hK K
      refine wpAnyIn_ready (rs := [4]) (by kernel_rfl) (by simp) ?_
      refine AllReadyIn.cons rfl (fun K hK => ?_) AllReadyIn.nil
      refine stepIn_append _ rfl _ _ 23 rfl (w.heap.size + 4) 3 i0 (.int .i64 0) 1 8 Try.underlying23 hi hz0 hz1 hz2 rfl (by decide) v pre.length ((sumL2 (pre.map Bt.xs)).map (Value.int .i64)) (by simp [Act.eval, Act.put]) (hrowd.alloc _) ⟨W.heap.size, 0, none⟩ 1 1 [.int .i64 x.xs.sum] (by simp [Act.eval, Act.put]) rfl (cell_one_new _ _ _) (by simp [Value.oneCell']) (by simp only [maxLen]; omega) (by omega) (by simp; omega) ?_
      intro v' w1 hown' hgrow _
      obtain ⟨g', cap', rfl⟩ := ownsRow_succ hown'
      obtain ⟨hv1, hv2, hr2, hk2, hb2, hp2⟩ := appended2 (n0 := w.heap.size) hvd (by decide) hrowd hbzd (Nat.le_refl _) (by omega) (by omega) hown' hgrow
      have hc1 := hv1.cell
      have hf1 := hv1.frozen
      refine hK _ _ ?_
      clear hK K
      refine wpAnyIn_ready (rs := [5]) (by kernel_rfl) (by simp) ?_
      refine AllReadyIn.cons rfl (fun K hK => ?_) AllReadyIn.nil
      go_simp
      refine hK _ _ ?_
      clear hK K
      refine wpAnyIn_done (by kernel_rfl) ?_ _
      gi_wp2
      exact ⟨((KeepsOthers.drew W).trans hk2).from _, ⟨(below_drewN (Below.refl _ _) 1).trans hb2, hp2⟩, ⟨_, hv2, by rw [snoc_len, snoc_sum]; first | exact hr2 | exact ⟨hr2, trivial⟩⟩, (hB.trans (below_drewN (Below.refl _ _) 1)).trans hb2⟩
    refine AllReadyIn.cons rfl (fun K hK => ?_) AllReadyIn.nil
    go_simp
    refine hK _ _ ?_
    clear hK K
    refine wpAnyIn_ready (rs := [0]) (by kernel_rfl) (by simp) ?_
    refine AllReadyIn.cons rfl (fun K hK => ?_) AllReadyIn.nil
    go_simp
    refine hK _ _ ?_
    clear hK K
    refine wpAnyIn_ready (rs := [4]) (by kernel_rfl) (by simp) ?_
    refine AllReadyIn.cons rfl (fun K hK => ?_) AllReadyIn.nil
    refine stepIn_append _ rfl _ _ 23 rfl (w.heap.size + 4) 3 i0 (.int .i64 0) 1 8 Try.underlying23 hi hz0 hz1 hz2 rfl (by decide) v pre.length ((sumL2 (pre.map Bt.xs)).map (Value.int .i64)) (by simp [Act.eval, Act.put]) (hrowd.alloc _) ⟨W.heap.size, 0, none⟩ 1 1 [.int .i64 x.xs.sum] (by simp [Act.eval, Act.put]) rfl (cell_one_new _ _ _) (by simp [Value.oneCell']) (by simp only [maxLen]; omega) (by omega) (by simp; omega) ?_
    intro v' w1 hown' hgrow _
    obtain ⟨g', cap', rfl⟩ := ownsRow_succ hown'
    obtain ⟨hv1, hv2, hr2, hk2, hb2, hp2⟩ := appended2 (n0 := w.heap.size) hvd (by decide) hrowd hbzd (Nat.le_refl _) (by omega) (by omega) hown' hgrow
    have hc1 := hv1.cell
    have hf1 := hv1.frozen
    refine hK _ _ ?_
    clear hK K
    refine wpAnyIn_ready (rs := [5]) (by kernel_rfl) (by simp) ?_
    refine AllReadyIn.cons rfl (fun K hK => ?_) AllReadyIn.nil
    go_simp
    refine hK _ _ ?_
    clear hK K
    refine wpAnyIn_done (by kernel_rfl) ?_ _
    gi_wp2
    exact ⟨((KeepsOthers.drew W).trans hk2).from _, ⟨(below_drewN (Below.refl _ _) 1).trans hb2, hp2⟩, ⟨_, hv2, by rw [snoc_len, snoc_sum]; first | exact hr2 | exact ⟨hr2, trivial⟩⟩, (hB.trans (below_drewN (Below.refl _ _) 1)).trans hb2⟩
  case done =>
    rintro D zs W hD hzs ⟨⟨v, hv, hrow, _⟩, hB⟩ hK
    have hc := hv.cell
    gi_wp2
    refine ⟨by simp, .inl ⟨_, _, rfl, run_takeDeferred hK, ?_⟩⟩
    obtain ⟨A', c', rfl⟩ := row_slice hrow
    have hn : zs.length = (sumL2 (BB bytes M xs)).length := by rw [← hzs]; simp [sumL2]
    refine ⟨_, results_tmp rfl _ _ _, A', _, c', rfl, ?_, (hB0.trans hB).trans (belowK_b (w := w) (Nat.le_refl _) W D _ _ (by omega) hK rfl rfl)⟩
    have h2 := ownsRow_putObj (o' := .deferred none) hrow hK rfl
    rw [hzs] at h2
    rw [HE.out]
    exact OW.base_le h2 (by omega)
  case stop =>
    rintro D c pre W _ _ h _
    exact h.elim
end Go.Proofs.Ytpodfjblojmkeaa
