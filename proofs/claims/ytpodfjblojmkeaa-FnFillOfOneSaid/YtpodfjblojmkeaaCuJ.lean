/-
  The program's CutBatches: a range over the batches that collects.
-/
import Derived.Test.YtpodfjblojmkeaaCuI
namespace Go.Proofs.Ytpodfjblojmkeaa
open Go.RowKit Go.Shelf
attribute [local go_sem] Oper.semAt_some

theorem appended2 {W w1 : World} {n0 base B : Nat} {t e : TypeId} {size : Nat} {v v' : Value} {k m : Nat} {xs ys : List Value} {tmp : Obj}
    (hv : Boxed W B t v) (hte : t ≠ e) (hrow : W.ownsRow base e size v k xs) (hn : base ≤ W.heap.size) (hB : n0 ≤ B) (hn0 : n0 ≤ base) (hBb : B < base)
    (hown' : w1.ownsRow base e size v' m ys) (hgrow : (W.alloc tmp).grownBy w1 v.ownBlock) :
    Boxed w1 B t v ∧ Boxed (w1.setCell ⟨B, 0, none⟩ v') B t v' ∧ (w1.setCell ⟨B, 0, none⟩ v').ownsRow base e size v' m ys ∧ KeepsOthers W (w1.setCell ⟨B, 0, none⟩ v') ∧ Below n0 W (w1.setCell ⟨B, 0, none⟩ v') ∧ (∀ k, k < base → k ≠ B → (w1.setCell ⟨B, 0, none⟩ v').heap[k]? = W.heap[k]?) := by
  have hge : ∀ j, v.ownBlock = some j → base ≤ j := fun j ej => by
    rcases hrow.2 with ⟨rfl, _⟩ | ⟨g, cap, cur, rfl, hb, _, _⟩
    · simp [Value.ownBlock] at ej
    · obtain rfl : g = j := by simpa [Value.ownBlock] using ej
      exact hb
  have hv1 : Boxed w1 B t v := (hv.alloc tmp).kept hgrow (hv.not_row hte hrow)
  refine ⟨hv1, hv1.set v', hown'.kept (grownBy_setCell' w1 B v') (.inr (hv1.not_row hte hown').symm), ?_, ?_, fun k hk hkB => ?_⟩
  · refine ((KeepsOthers.alloc W tmp).trans (KeepsOthers.of_grownBy hgrow fun j o ej hj => ?_)).trans (KeepsOthers.setCell _ _ _)
    rcases (hrow.alloc tmp).2 with ⟨rfl, _⟩ | ⟨g, cap, cur, rfl, _, hgb, _⟩
    · simp [Value.ownBlock] at ej
    · obtain rfl : g = j := by simpa [Value.ownBlock] using ej
      rw [hgb] at hj; cases hj; rfl
  · exact (((Below.refl n0 W).alloc (by omega) tmp).grown hgrow (by simp; omega) fun j ej => Nat.le_trans hn0 (hge j ej)).setCell (p := ⟨B, 0, none⟩) hB v'
  · rw [Below.heap_setCell w1 ⟨B, 0, none⟩ v' k hkB, hgrow.block k (by simp; omega) (fun e2 => by have := hge k e2.symm; omega), Below.heap_alloc W tmp k (by omega)]
theorem snoc_len {w : World} (pre : List (Bt w)) (x : Bt w) : (pre ++ [x]).length = pre.length + 1 := by simp
theorem snoc_cnt {w : World} (pre : List (Bt w)) (x : Bt w) : (cntL ((pre ++ [x]).map Bt.xs)).map (Value.int .i64) = (cntL (pre.map Bt.xs)).map (Value.int .i64) ++ [.int .i64 (x.1.2.1 : Int)] := by
  have h : x.xs.length = x.1.2.1 := x.2.1.len
  simp only [List.map_append, cntL_app, List.map_cons, List.map_nil]
  simp [cntL, h]
theorem row_slice {W : World} {base : Nat} {T : Nat} {v : Value} {k : Nat} {xs : List Value} (h : W.ownsRow base T 1 v k xs) : ∃ A c, v = .slice A k c := by
  rcases h.2 with ⟨rfl, rfl⟩ | ⟨g, cap, cur, rfl, _⟩
  · exact ⟨_, _, rfl⟩
  · exact ⟨_, _, rfl⟩
theorem batches_stops (n b n0 e : Nat) (hn : 1 ≤ n) {A : Option Addr} {n1 c1 : Nat} {xs : List Int} (bytes : Int) (M : Nat) (w0 w : World) (h : IS w0 A n1 c1 xs) (hr : allR xs 1 20 = true) (h12 : n1 ≤ 12) (hb0 : 20 ≤ bytes) (hb1 : bytes ≤ 200) (hM1 : 1 ≤ M) (hM12 : M ≤ 12)
    (hn0 : n0 = w0.heap.size) (hbn : n0 < b) (hbe : b + 3 ≤ e) (he : b + 3 ≤ w.heap.size) (hw : Below n0 w0 w) (c0 : Boxed w b 23 (.slice A n1 c1)) (c1' : Boxed w (b + 1) 3 (.int .i64 bytes)) (c2' : Boxed w (b + 1 + 1) 3 (.int .i64 (M : Int))) :
    SeqStopsK Fence.wide n Try.prog 44 #[.pointer (some ⟨b, 0, none⟩), .pointer (some ⟨b + 1, 0, none⟩), .pointer (some ⟨b + 1 + 1, 0, none⟩)] (Bt.enc (w := w0)) (Kp n0 e) (fun ys => ys.map Bt.xs = BB bytes M xs) (fun _ => True) 12 w := fun l J Jx W hW _ _ hY h0 =>
  batches_in n l b n0 e hn bytes M w0 h hr h12 hb0 hb1 hM1 hM12 hn0 hbn hbe J Jx hY W (hw.trans (hW.mono (by omega))) ((hW.block b (by omega)).trans c0) ((hW.block (b + 1) (by omega)).trans c1') ((hW.block (b + 1 + 1) (by omega)).trans c2') h0
set_option maxRecDepth 100000 in
set_option maxHeartbeats 4000000 in
theorem impl_CutBatches_any {A : Option Addr} {n1 c1 : Nat} {xs : List Int} (bytes many : Int) (w : World) (h : IS w A n1 c1 xs) :
    Calls Try.prog 16 #[.slice A n1 c1, .int .i64 bytes, .int .i64 many] w (GaveInts 3 w (cbV xs bytes many)) := by
  rcases hok : cutOK xs bytes many with _ | _
  · have HOK := Lib.hid hok
    have H := Lib.hid h
    clear h
    go_enter Try.func16, Try.ntmps16
    go_wp2_with (go_at_call 33; refine (call_b (impl_validCut_any bytes many _ H.out) HOK.out).mono ?_; rintro e w' ⟨rfl, rfl⟩)
    go_ret
    exact ⟨_, _, _, rfl, by rw [cbV_no HOK.out]; exact OW.none _ _ _, Below.refl _ _⟩
  obtain ⟨h12, hr, hb, hm⟩ := cut_in hok
  obtain ⟨hb0, hb1⟩ := inR_iff.1 hb
  obtain ⟨hm0, hm1⟩ := inR_iff.1 hm
  obtain ⟨M, rfl⟩ := Int.eq_ofNat_of_zero_le (show 0 ≤ many by omega)
  have hM1 : 1 ≤ M := by omega
  have hM12 : M ≤ 12 := by omega
  have hl := h.len
  have HE : Hid (cbV xs bytes (M : Int) = cntL (BB bytes M xs)) := Lib.hid (by simp [cbV, bbV, hok])
  have HOK := Lib.hid hok
  have H := Lib.hid h
  clear h
  obtain ⟨i0, hi, hz0, hz1, hz2⟩ := info_parts infoInt
  refine (callsIn_wide (n := 3)).1 ?_
  refine callsIn_of_wp_marks Try.func16 rfl trivial ?_ rfl
  simp only [Try.ntmps16, List.size_toArray, List.length_cons, List.length_nil, Nat.reduceAdd, Nat.reduceSub, Array.replicate_succ, Array.replicate_zero, List.push_toArray, List.append_toArray, List.nil_append, List.cons_append]
  gi_wp2_with (first | (refine ⟨trivial, ?_⟩; gi_at_call 33; refine (callsIn_wide.2 (call_b (impl_validCut_any bytes (M : Int) _ H.out) HOK.out)).mono ?_; rintro e w' ⟨rfl, rfl⟩) | (refine ⟨trivial, ?_⟩; gi_at_call 34; refine (callsIn_wide.2 (impl_batchesOf_any bytes (M : Int) _)).mono ?_; rintro e w' ⟨rfl, rfl⟩))
  have bO := Boxed.new w 23 (.slice none 0 0)
  have b1 := Boxed.new (w.alloc (.cells #[.slice none 0 0] 23)) 23 (.slice A n1 c1)
  have b2 := Boxed.new ((w.alloc (.cells #[.slice none 0 0] 23)).alloc (.cells #[.slice A n1 c1] 23)) 3 (.int .i64 bytes)
  have b3 := Boxed.new (((w.alloc (.cells #[.slice none 0 0] 23)).alloc (.cells #[.slice A n1 c1] 23)).alloc (.cells #[.int .i64 bytes] 3)) 3 (.int .i64 (M : Int))
  simp only [World.size_alloc] at b1 b2 b3
  have hB0 : Below w.heap.size w ((((w.alloc (.cells #[.slice none 0 0] 23)).alloc (.cells #[.slice A n1 c1] 23)).alloc (.cells #[.int .i64 bytes] 3)).alloc (.cells #[.int .i64 (M : Int)] 3)) := ((((Below.refl _ w).alloc (Nat.le_refl _) _).alloc (by simp) _).alloc (by simp; omega) _).alloc (by simp; omega) _
  obtain ⟨W0, hW0⟩ : ∃ W0, (((w.alloc (.cells #[.slice none 0 0] 23)).alloc (.cells #[.slice A n1 c1] 23)).alloc (.cells #[.int .i64 bytes] 3)).alloc (.cells #[.int .i64 (M : Int)] 3) = W0 := ⟨_, rfl⟩
  have hsz : W0.heap.size = w.heap.size + 4 := by rw [← hW0]; simp
  have bO' : Boxed W0 w.heap.size 23 (.slice none 0 0) := by rw [← hW0]; exact ((bO.alloc _).alloc _).alloc _
  have b1' : Boxed W0 (w.heap.size + 1) 23 (.slice A n1 c1) := by rw [← hW0]; exact (b1.alloc _).alloc _
  have b2' : Boxed W0 (w.heap.size + 1 + 1) 3 (.int .i64 bytes) := by rw [← hW0]; exact b2.alloc _
  have b3' : Boxed W0 (w.heap.size + 1 + 1 + 1) 3 (.int .i64 (M : Int)) := by rw [← hW0]; exact b3
  rw [hW0] at hB0 ⊢
  clear bO b1 b2 b3 hW0
  refine wpIn_rangeFunc_ownG rfl (by omega) (gf := 44) (lb := #[.pointer (some ⟨w.heap.size + 1, 0, none⟩), .pointer (some ⟨w.heap.size + 1 + 1, 0, none⟩), .pointer (some ⟨w.heap.size + 1 + 1 + 1, 0, none⟩)]) rfl trivial (enters_of Try.func44 (by kernel_rfl) rfl)
    (batches_stops 2 (w.heap.size + 1) w.heap.size (w.heap.size + 4) (by omega) bytes M w W0 H.out hr (by omega) hb0 hb1 hM1 hM12 rfl (by omega) (by omega) (by omega) hB0 b1' b2' b3') Kp.trans (Kp.putObj (by omega) (by omega)) (Below.refl _ _) (fun _ => rfl)
    (fun (pre : List (Bt w)) W => (∃ v, Boxed W w.heap.size 23 v ∧ W.ownsRow (w.heap.size + 4) 3 1 v pre.length ((cntL (pre.map Bt.xs)).map (Value.int .i64)) ∧ True) ∧ Below w.heap.size W0 W)
    (fun _ _ _ => False)
    (OwnFrom.and (Own.from (holdsRow_own (w.heap.size + 4) w.heap.size 23 3 1 (fun (pre : List (Bt w)) => pre.length) (fun (pre : List (Bt w)) => (cntL (pre.map Bt.xs)).map (Value.int .i64)) (fun _ _ => True)) _) (ownFrom_below (by omega) (by omega)))
    (fun _ _ _ _ _ hs _ _ => hs)
    ⟨⟨_, bO', World.ownsRow_nil _ _ _ _, trivial⟩, Below.refl _ _⟩
    (fun (x : Bt w) => { tmps := #[.slice A n1 c1, .int .i64 bytes, .int .i64 (M : Int), undef, undef, undef, .slice none 0 0, .pointer (some ⟨w.heap.size, 0, none⟩), .slice x.1.1 x.1.2.1 x.1.2.2.1, .slice A n1 c1, .int .i64 bytes, .int .i64 (M : Int), .bool true, .bool false, .slice A n1 c1, .int .i64 bytes, .int .i64 (M : Int), .func (.func 44) #[] #[.pointer (some ⟨w.heap.size + 1, 0, none⟩), .pointer (some ⟨w.heap.size + 1 + 1, 0, none⟩), .pointer (some ⟨w.heap.size + 1 + 1 + 1, 0, none⟩)], .slice x.1.1 x.1.2.1 x.1.2.2.1, undef, undef, undef, undef, undef, undef], defers := [] }) ?assign ?body ?done ?stop
  case assign =>
    intro l x W K hK
    dsimp only [Bt.enc]
    gi_wp2
    exact hK
  case body =>
    rintro l pre x W ⟨⟨v, hv, hrow, _⟩, hB⟩ hlt
    have hc := hv.cell
    have hxn := x.2.2.2
    have hsz2 := hB.size
    have hbz : w.heap.size + 4 ≤ W.heap.size := by omega
    gi_wp2_with (gi_at_builtin; refine wpListIn_append_own _ rfl _ _ 23 rfl (w.heap.size + 4) 3 i0 (.int .i64 0) 1 8 Try.underlying23 hi hz0 hz1 hz2 rfl (by decide) _ _ _ rfl (hrow.alloc _) ⟨W.heap.size, 0, none⟩ 1 1 [.int .i64 (x.1.2.1 : Int)] rfl rfl (cell_one_new _ _ _) (by simp [Value.oneCell']) (by simp only [maxLen]; omega) (by omega) (by simp; omega) ?_; intro v' w1 hown' hgrow _; obtain ⟨g', cap', rfl⟩ := ownsRow_succ hown'; obtain ⟨hv1, hv2, hr2, hk2, hb2, hp2⟩ := appended2 (n0 := w.heap.size) hv (by decide) hrow hbz (Nat.le_refl _) (by omega) (by omega) hown' hgrow; have hc1 := hv1.cell; have hf1 := hv1.frozen)
    exact ⟨hk2.from _, ⟨hb2, hp2⟩, ⟨_, hv2, by rw [snoc_len, snoc_cnt]; first | exact hr2 | exact ⟨hr2, trivial⟩⟩, hB.trans hb2⟩
  case done =>
    rintro D zs W hD hzs ⟨⟨v, hv, hrow, _⟩, hB⟩ hK
    have hc := hv.cell
    gi_wp2
    refine ⟨by simp, .inl ⟨_, _, rfl, run_takeDeferred hK, ?_⟩⟩
    obtain ⟨A', c', rfl⟩ := row_slice hrow
    have hn : zs.length = (cntL (BB bytes M xs)).length := by rw [← hzs]; simp [cntL]
    refine ⟨_, results_tmp rfl _ _ _, A', _, c', rfl, ?_, (hB0.trans hB).trans (belowK_b (w := w) (Nat.le_refl _) W D _ _ (by omega) hK rfl rfl)⟩
    have h2 := ownsRow_putObj (o' := .deferred none) hrow hK rfl
    rw [hzs] at h2
    rw [HE.out]
    exact OW.base_le h2 (by omega)
  case stop =>
    rintro D c pre W _ _ h _
    exact h.elim
end Go.Proofs.Ytpodfjblojmkeaa
