/-
  Contracts of the model's readFrame and ReadFrame.
-/
import Derived.Test.YtehbkfgcbeldiaaReadM
namespace Go.Proofs.Ytehbkfgcbeldiaa
open Go.RowKit
attribute [local go_sem ↓] Go.wp_at_zero Go.wp_at_succ

/-- What the model's reading of a frame hands back. -/
def GaveRd (T : Nat) (w : World) (bs : List Int) (e : Ending) (w' : World) : Prop :=
  ∃ A n c, e = .returned (.tuple #[.agg #[.int .i64 (rC bs), .int .i64 (rK bs), .slice A n c], .int .i64 (rL bs)]) ∧ OW w' T w.heap.size A n c (rX bs) ∧ Below w.heap.size w w'
theorem gaveRd_f {T : Nat} {w w' : World} {bs : List Int} (h : rOK bs = false) (hb : Below w.heap.size w w') :
    GaveRd T w bs (.returned (.tuple #[.agg #[.int .i64 0, .int .i64 0, .slice none 0 0], .int .i64 0])) w' := by
  obtain ⟨h1, h2, h3, h4⟩ := r_f h
  refine ⟨none, 0, 0, by rw [h1, h2, h4]; rfl, ?_, hb⟩
  rw [h3]
  exact ⟨rfl, .inl ⟨rfl, rfl⟩⟩
theorem re_a {I T : TypeId} {w w3 : World} {v2 v3 : Int} {A1 : Option Addr} {n1 c1 : Nat} {body : List Int}
    (hb : Below (w.alloc (.cells #[.int .i64 0, .int .i64 0, .slice none 0 0] I)).drew.heap.size (w.alloc (.cells #[.int .i64 0, .int .i64 0, .slice none 0 0] I)).drew w3)
    (ho : OW w3 T (w.alloc (.cells #[.int .i64 0, .int .i64 0, .slice none 0 0] I)).drew.heap.size A1 n1 c1 body) :
    RdCut I T w (w3.alloc (.cells #[.int .i64 v2, .int .i64 v3, .slice A1 n1 c1] I)) w3.heap.size v2 v3 A1 n1 c1 body := by
  have hs : w.heap.size + 1 ≤ w3.heap.size := by simpa [World.drew] using hb.size
  refine ⟨Blk.new _ _ _, (ho.alloc _).base_le (by simp [World.drew]), Below.alloc ?_ (by omega) _, by omega⟩
  exact ((Below.refl _ _).drew).trans (hb.mono (by simp [World.drew]))
theorem re_b {I T : TypeId} {w w3 : World} {v2 v3 : Int} {A1 : Option Addr} {n1 c1 : Nat} {body : List Int}
    (hb : Below ((w.alloc (.cells #[.int .i64 0, .int .i64 0, .slice none 0 0] I)).alloc (.cells #[.int .i64 0, .int .i64 0, .slice none 0 0] I)).drew.heap.size ((w.alloc (.cells #[.int .i64 0, .int .i64 0, .slice none 0 0] I)).alloc (.cells #[.int .i64 0, .int .i64 0, .slice none 0 0] I)).drew w3)
    (ho : OW w3 T ((w.alloc (.cells #[.int .i64 0, .int .i64 0, .slice none 0 0] I)).alloc (.cells #[.int .i64 0, .int .i64 0, .slice none 0 0] I)).drew.heap.size A1 n1 c1 body) :
    RdCut I T w (((w3.setCell ⟨w.heap.size + 1, 0, none⟩ (.int .i64 v2)).setCell ⟨w.heap.size + 1, 1, none⟩ (.int .i64 v3)).setCell ⟨w.heap.size + 1, 2, none⟩ (.slice A1 n1 c1)) (w.heap.size + 1) v2 v3 A1 n1 c1 body := by
  have k : Blk w3 (w.heap.size + 1) I #[.int .i64 0, .int .i64 0, .slice none 0 0] := by
    have h := (Blk.new (w.alloc (.cells #[.int .i64 0, .int .i64 0, .slice none 0 0] I)) I #[.int .i64 0, .int .i64 0, .slice none 0 0]).drew.on hb
    simpa using h
  have hs : w.heap.size + 1 + 1 ≤ w3.heap.size := by simpa [World.drew] using hb.size
  refine ⟨((k.set_ 0 _).set_ 1 _).set_ 2 _, (((ho.setCell (by simp [World.drew]; try omega) _).setCell (by simp [World.drew]; try omega) _).setCell (by simp [World.drew]; try omega) _).base_le (by simp [World.drew]; try omega), (((Below.setCell ?_ (by simp) _).setCell (by simp) _).setCell (by simp) _), by omega⟩
  exact (((Below.refl _ _).alloc (by simp) _).drew).trans (hb.mono (by simp [World.drew]; try omega))
set_option maxHeartbeats 4000000 in
theorem spec_readFrame_main {n c b off m : Nat} {v2 v3 : Int} {bs : List Int} (w : World) (h : IS w (some ⟨b, off, none⟩) n c bs) (h1 : okB bs 60 = true)
    (x0 : bs[0]? = some 165) (x1 : bs[1]? = some (m : Int)) (x2 : bs[2]? = some v2) (x3 : bs[3]? = some v3) (h4 : 5 + m ≤ n) (h8 : m ≤ 8) :
    Calls Try.prog 17 #[.slice (some ⟨b, off, none⟩) n c] w (GaveRd 3 w bs) := by
  have hcap := h.cap
  have hl := h.len
  have HL := Lib.hid hl
  have H := Lib.hid h
  clear h hl
  obtain ⟨_, _, _, e0, y0, c0⟩ := H.out.at_ (k := 0) (by omega)
  obtain ⟨_, _, _, e1, y1, c1⟩ := H.out.at_ (k := 1) (by omega)
  obtain ⟨_, _, _, e2, y2, c2⟩ := H.out.at_ (k := 2) (by omega)
  obtain ⟨_, _, _, e3, y3, c3⟩ := H.out.at_ (k := 3) (by omega)
  simp only [Option.some.injEq, Addr.mk.injEq, and_true] at e0 e1 e2 e3
  obtain ⟨rfl, rfl⟩ := e0
  obtain ⟨rfl, rfl⟩ := e1
  obtain ⟨rfl, rfl⟩ := e2
  obtain ⟨rfl, rfl⟩ := e3
  rw [x0] at y0
  rw [x1] at y1
  rw [x2] at y2
  rw [x3] at y3
  injection y0 with y0
  injection y1 with y1
  injection y2 with y2
  injection y3 with y3
  subst y0 y1 y2 y3
  have hal : allR bs 0 255 = true := by simp [okB] at h1; exact h1.2
  have hv1 := (allR_at x1 hal).2
  have hbl := World.block_lt_of_cell? w _ c0
  simp only [Nat.add_zero] at c0 hbl
  have X0 := Lib.hid x0
  have X1 := Lib.hid x1
  have X2 := Lib.hid x2
  have X3 := Lib.hid x3
  have HA := Lib.hid hal
  clear x0 x1 x2 x3 hal
  have hrn : Hid (rn bs = 4 + m) := Lib.hid (by unfold rn; rw [getD_of X1.out]; simp)
  have e165 : ((165 : Int) != 165) = false := by simp
  have hnc := H.out.2.1
  have hw1 : IntKind.i64.wrap (5 + (m : Int) - 1) = 4 + (m : Int) := by rw [IntWalk.i64_in _ (by omega)]; omega
  have hw0 : (0 : Int) ≤ 4 + (m : Int) := by omega
  have hw2 : (4 + (m : Int)).toNat = 4 + m := by omega
  have hw3 : (4 : Int) ≤ 4 + (m : Int) := by omega
  have hw4 : 4 + (m : Int) ≤ (c : Int) := by omega
  have hw5 : ¬ c = 4 := by omega
  have hw6 : (2 : Int) < (n : Int) := by omega
  have hw7 : (3 : Int) < (n : Int) := by omega
  have HI : Hid (IS w (some ⟨b, off + 4, none⟩) m (c - 4) (rBody bs)) := Lib.hid (by
    have h := H.out.cut (lo := 4) (hi := 4 + m) (by omega) (by omega)
    have e : 4 + m - 4 = m := by omega
    rw [e] at h
    unfold rBody
    rw [hrn.out]
    exact h)
  have HI1 : Hid (IS w (some ⟨b, off + 1, none⟩) (3 + m) (c - 1) ((bs.take (rn bs)).drop 1)) := Lib.hid (by
    have h := H.out.cut (lo := 1) (hi := 4 + m) (by omega) (by omega)
    have e : 4 + m - 1 = 3 + m := by omega
    rw [e] at h
    rw [hrn.out]
    exact h)
  have hcat : catN [rBody bs] ≤ 536870912 := by
    have h := HI.out.len
    simp [catN]
    omega
  obtain ⟨_, _, v4, e4, x4, c4⟩ := H.out.at_ (k := 4 + m) (by omega)
  simp only [Option.some.injEq, Addr.mk.injEq, and_true] at e4
  obtain ⟨rfl, rfl⟩ := e4
  have X4 := Lib.hid x4
  clear x4
  have hlt : Lt (some ⟨b, off + 4, none⟩) w.heap.size := fun p hp => by cases hp; exact hbl
  go_enter Try.func17, Try.ntmps17
  go_upto_region 4 with (fail)
  go_cut [5] (fun s5 wx => ∃ (g : Nat) (A1 : Option Addr) (n1 c1 : Nat), s5 = .pointer (some ⟨g, 0, none⟩) ∧ RdCut 26 3 w wx g v2 v3 A1 n1 c1 (rBody bs))
  case first =>
    go_region_held3 (fun w' => w'.cell? ⟨b, off + 2, none⟩ = some (.int .i64 v2) ∧ w'.cell? ⟨b, off + 3, none⟩ = some (.int .i64 v3)) (refine And.intro (cell_up (w := w) ?_ c2) (cell_up (w := w) ?_ c3) <;> (repeat' (first | exact HW.out | exact Below.refl _ _ | refine Below.drew ?_ | refine Below.alloc ?_ ?_ _ | refine Below.setCell ?_ ?_ _ | omega | (simp; done) | (simp; omega))))
      ((go_at_call 25; go_must (refine (spec_copyInts_any (xs := rBody bs) _ (HI.out.below (by repeat (first | exact Below.refl _ _ | refine Below.drew ?_ | refine Below.alloc ?_ (by simp; try omega) _)) (Nat.le_refl _)) (by omega)).mono ?_; rintro e w3 ⟨A1, n1, c1', rfl, ho, hb⟩; have HO := Lib.hid ho; have HW := Lib.hid (below_then (a := w) (by repeat (first | exact Below.refl _ _ | refine Below.drew ?_ | refine Below.alloc ?_ (by simp; try omega) _)) hb); have hz3 := hb.size; simp at hz3; have HB := Lib.hid hb; obtain ⟨hcc, hff⟩ := bcell hb; clear ho hb)))
    all_goals (go_wp2_with (fail); go_meet; exact ⟨_, A1, n1, c1', rfl, by first | exact re_a HB.out HO.out | exact re_b HB.out HO.out⟩)
  case rest =>
    obtain ⟨g, A1, n1, c1', rfl, k0, o0, b0, hg⟩ := hcut
    have r0 : Blk wc w.heap.size 26 #[.int .i64 0, .int .i64 0, .slice none 0 0] := (b0.block w.heap.size (by omega)).trans (Blk.new w _ _)
    have bw : Below w.heap.size w wc := (below_new w _).trans (b0.mono (by omega))
    have c4w := cell_up bw c4
    obtain ⟨ka, kb, kc⟩ := k0.c3
    have KB := Lib.hid k0
    have RB := Lib.hid r0
    have OB := Lib.hid o0
    have BW := Lib.hid bw
    have HI4 := Lib.hid (HI1.out.below bw (Nat.le_refl _))
    clear k0 r0 o0 b0 bw hw1 c0 c1 c2 c3 c4
    have hsz := RB.out.lt
    have qa := fun d os => cell_regrown ka d os
    have qb := fun d os => cell_regrown kb d os
    have qc := fun d os => cell_regrown kc d os
    have qd := fun d os => cell_regrown c4w d os
    rcases hv : validI v2 v3 (rBody bs) with _ | _
    · have HV := Lib.hid (fun (d : Nat) (os : Array Obj) => call_to (spec_validItem_any v2 v3 _ (OB.out.is.regrown d os)) hv)
      go_wp2_with (fail)
      refine wp_region_quiet_below (by kernel_rfl) (by kernel_rfl) ?_
      repeat (first | go_big_quiet_step ((go_at_call 26; exact Calls.regrown_of (HV.out _ _))) | quiet_step ((go_at_call 26; exact Calls.regrown_of (HV.out _ _))))
      refine wpQuiet_nil ?_
      intro wq hw'
      have hbq : Below wc.heap.size wc wq := by obtain ⟨p, rfl⟩ := hw'; exact below_regrown _ _ _
      have RQ := Lib.hid (RB.out.on hbq)
      have BQ := Lib.hid (below_then BW.out hbq)
      clear hw' hbq qa qb qc qd
      obtain ⟨r0, r1, r2⟩ := RQ.out.c3
      have f0 := RQ.out.frozen 0
      have f1 := RQ.out.frozen 1
      have f2 := RQ.out.frozen 2
      go_wp2_with (fail)
      refine bodyPost_ret (v := .tuple #[.agg #[.int .i64 0, .int .i64 0, .slice none 0 0], .int .i64 0]) (by simp [results, Try.results17, go_sem, r0, r1, r2]) rfl ?_
      refine gaveRd_f (rOK_f5 (by rw [getD_of X2.out, getD_of X3.out]; exact hv)) ?_
      repeat' (first | exact BQ.out | refine Below.setCell ?_ ?_ _ | exact Nat.le_refl _)
    · have hx1 : IntKind.i64.wrap (5 + (m : Int) - 1) = 4 + (m : Int) := by rw [IntWalk.i64_in _ (by omega)]; omega
      have hx2 : (1 : Int) ≤ 4 + (m : Int) := by omega
      have hx3 : 4 + (m : Int) < (n : Int) := by omega
      have hx4 : ¬ c = 1 := by omega
      have HV := Lib.hid (fun (d : Nat) (os : Array Obj) => call_to (spec_validItem_any v2 v3 _ (OB.out.is.regrown d os)) hv)
      have hsub : allR ((bs.take (rn bs)).drop 1) 0 255 = true := allR_sub HA.out
      obtain ⟨cv, hcv⟩ : ∃ cv, chk ((bs.take (rn bs)).drop 1) = cv := ⟨_, rfl⟩
      have HC := Lib.hid (fun (d : Nat) (os : Array Obj) => call_int (spec_checkOf_any _ (HI4.out.regrown d os) hsub) hcv)
      have HCV := Lib.hid hcv
      clear hsub hcv
      by_cases h6 : cv = v4
      · subst h6
        have hne : (cv != cv) = false := by simp
        go_wp2_with (fail)
        refine wp_region_quiet_below (by kernel_rfl) (by kernel_rfl) ?_
        repeat (first | go_big_quiet_step ((first | (go_at_call 26; exact Calls.regrown_of (HV.out _ _)) | (go_at_call 27; exact regrown_same (HC.out _ _)))) | quiet_step ((first | (go_at_call 26; exact Calls.regrown_of (HV.out _ _)) | (go_at_call 27; exact regrown_same (HC.out _ _)))))
        refine wpQuiet_nil ?_
        intro wq hw'
        have hbq : Below wc.heap.size wc wq := by obtain ⟨p, rfl⟩ := hw'; exact below_regrown _ _ _
        have RQ := Lib.hid (RB.out.on hbq)
        have KQ := Lib.hid (KB.out.on hbq)
        have BQ := Lib.hid (below_then BW.out hbq)
        have OQ := Lib.hid (OB.out.below hbq (Nat.le_refl _))
        clear hw' hbq qa qb qc qd
        obtain ⟨r0, r1, r2⟩ := RQ.out.c3
        obtain ⟨k0, k1, k2⟩ := KQ.out.c3
        have f0 := RQ.out.frozen 0
        have f1 := RQ.out.frozen 1
        have f2 := RQ.out.frozen 2
        go_wp2_with (fail)
        have hok : rOK bs = true := rOK_t h1 ⟨by have := HL.out; omega, getD_of X0.out, by rw [hrn.out]; have := HL.out; omega⟩ (by rw [getD_of X2.out, getD_of X3.out]; exact hv) (by rw [HCV.out, hrn.out, getD_of X4.out])
        obtain ⟨t1, t2, t3, t4⟩ := r_t hok
        have e5 : ((4 + m + 1 : Nat) : Int) = 5 + (m : Int) := by clear hx1; omega
        refine bodyPost_ret (v := .tuple #[.agg #[.int .i64 v2, .int .i64 v3, .slice A1 n1 c1'], .int .i64 (5 + (m : Int))]) (by simp [results, Try.results17, go_sem, r0, r1, r2]) rfl ?_
        refine ⟨A1, n1, c1', by rw [t1, t2, t4, getD_of X2.out, getD_of X3.out, hrn.out, e5], ?_, ?_⟩
        · rw [t3]
          refine OW.base_le ?_ (Nat.le_succ w.heap.size)
          repeat' (first | exact OQ.out | refine OW.setCell ?_ ?_ _ | exact Nat.lt_succ_self _)
        · repeat' (first | exact BQ.out | refine Below.setCell ?_ ?_ _ | exact Nat.le_refl _)
      · have hne : (v4 != cv) = true := by simpa using fun e => h6 e.symm
        have H6 := Lib.hid h6
        clear h6
        go_wp2_with (fail)
        refine wp_region_quiet_below (by kernel_rfl) (by kernel_rfl) ?_
        repeat (first | go_big_quiet_step ((first | (go_at_call 26; exact Calls.regrown_of (HV.out _ _)) | (go_at_call 27; exact regrown_same (HC.out _ _)))) | quiet_step ((first | (go_at_call 26; exact Calls.regrown_of (HV.out _ _)) | (go_at_call 27; exact regrown_same (HC.out _ _)))))
        refine wpQuiet_nil ?_
        intro wq hw'
        have hbq : Below wc.heap.size wc wq := by obtain ⟨p, rfl⟩ := hw'; exact below_regrown _ _ _
        have RQ := Lib.hid (RB.out.on hbq)
        have BQ := Lib.hid (below_then BW.out hbq)
        clear hw' hbq qa qb qc qd
        obtain ⟨r0, r1, r2⟩ := RQ.out.c3
        have f0 := RQ.out.frozen 0
        have f1 := RQ.out.frozen 1
        have f2 := RQ.out.frozen 2
        go_wp2_with (fail)
        refine bodyPost_ret (v := .tuple #[.agg #[.int .i64 0, .int .i64 0, .slice none 0 0], .int .i64 0]) (by simp [results, Try.results17, go_sem, r0, r1, r2]) rfl ?_
        refine gaveRd_f (rOK_f6 (by rw [HCV.out, hrn.out, getD_of X4.out]; exact H6.out)) ?_
        repeat' (first | exact BQ.out | refine Below.setCell ?_ ?_ _ | exact Nat.le_refl _)
set_option maxHeartbeats 4000000 in
theorem spec_readFrame_any {A : Option Addr} {n c : Nat} {bs : List Int} (w : World) (h : IS w A n c bs) (h1 : okB bs 60 = true) :
    Calls Try.prog 17 #[.slice A n c] w (GaveRd 3 w bs) := by
  have hcap := h.cap
  have hl := h.len
  have HL := Lib.hid hl
  have H := Lib.hid h
  clear h hl
  rcases Nat.lt_or_ge n 5 with h2 | h2
  · go_enter Try.func17, Try.ntmps17
    go_wp2_with (fail)
    refine bodyPost_ret (v := .tuple #[.agg #[.int .i64 0, .int .i64 0, .slice none 0 0], .int .i64 0]) (by simp [results, Try.results17, go_sem]) rfl ?_
    exact gaveRd_f (rOK_f2 (by have := HL.out; omega)) (below_new _ _)
  obtain ⟨b, off, v0, rfl, x0, c0⟩ := H.out.at_ (k := 0) (by omega)
  obtain ⟨_, _, v1, e1, x1, c1⟩ := H.out.at_ (k := 1) (by omega)
  obtain ⟨_, _, v2, e2, x2, c2⟩ := H.out.at_ (k := 2) (by omega)
  obtain ⟨_, _, v3, e3, x3, c3⟩ := H.out.at_ (k := 3) (by omega)
  simp only [Option.some.injEq, Addr.mk.injEq, and_true] at e1 e2 e3
  obtain ⟨rfl, rfl⟩ := e1
  obtain ⟨rfl, rfl⟩ := e2
  obtain ⟨rfl, rfl⟩ := e3
  have hal : allR bs 0 255 = true := by simp [okB] at h1; exact h1.2
  obtain ⟨hv0, _⟩ := allR_at x1 hal
  obtain ⟨m, rfl⟩ := Int.eq_ofNat_of_zero_le hv0
  have hv1 := (allR_at x1 hal).2
  have hbl := World.block_lt_of_cell? w _ c0
  simp only [Nat.add_zero] at c0 hbl
  have X0 := Lib.hid x0
  have X1 := Lib.hid x1
  have X2 := Lib.hid x2
  have X3 := Lib.hid x3
  have HA := Lib.hid hal
  clear x0 x1 x2 x3 hal hv0
  have hrn : Hid (rn bs = 4 + m) := Lib.hid (by unfold rn; rw [getD_of X1.out]; simp)
  by_cases h3 : v0 = 165
  · subst h3
    have e165 : ((165 : Int) != 165) = false := by simp
    rcases Nat.lt_or_ge 8 m with h8 | h8
    · have h8' : (8 : Int) < (m : Int) := by omega
      go_enter Try.func17, Try.ntmps17
      go_wp2_with (fail)
      refine bodyPost_ret (v := .tuple #[.agg #[.int .i64 0, .int .i64 0, .slice none 0 0], .int .i64 0]) (by simp [results, Try.results17, go_sem]) rfl ?_
      refine gaveRd_f ?_ (below_new _ _)
      by_cases hr : rn bs < bs.length
      · refine rOK_f5 (validI_ff3 (okB_long ?_))
        unfold rBody
        rw [List.length_drop, List.length_take, hrn.out]
        have := hrn.out
        omega
      · exact rOK_f4 hr
    · have h8' : (m : Int) ≤ 8 := by omega
      rcases Nat.lt_or_ge n (5 + m) with h4 | h4
      · have h4' : (n : Int) < 5 + (m : Int) := by omega
        go_enter Try.func17, Try.ntmps17
        go_wp2_with (fail)
        refine bodyPost_ret (v := .tuple #[.agg #[.int .i64 0, .int .i64 0, .slice none 0 0], .int .i64 0]) (by simp [results, Try.results17, go_sem]) rfl ?_
        exact gaveRd_f (rOK_f4 (by rw [hrn.out]; have := HL.out; omega)) (below_new _ _)
      · exact spec_readFrame_main w H.out h1 X0.out X1.out X2.out X3.out h4 h8
  · have e165 : (v0 != 165) = true := by simpa using h3
    have H3 := Lib.hid h3
    clear h3
    go_enter Try.func17, Try.ntmps17
    go_wp2_with (fail)
    refine bodyPost_ret (v := .tuple #[.agg #[.int .i64 0, .int .i64 0, .slice none 0 0], .int .i64 0]) (by simp [results, Try.results17, go_sem]) rfl ?_
    exact gaveRd_f (rOK_f3 (by rw [getD_of X0.out]; exact H3.out)) (below_new _ _)
set_option maxHeartbeats 4000000 in
theorem spec_ReadFrame_any {A : Option Addr} {n c : Nat} {bs : List Int} (w : World) (h : IS w A n c bs) :
    Calls Try.prog 6 #[.slice A n c] w (GaveRead 3 w bs) := by
  have hcap := h.cap
  have hl := h.len
  have HL := Lib.hid hl
  have H := Lib.hid h
  clear h hl
  rcases Int.lt_or_le 60 (n : Int) with h1 | h1
  · have h2 : okB bs 60 = false := okB_long (by rw [HL.out]; exact h1)
    go_enter Try.func6, Try.ntmps6
    go_wp2_with (fail)
    refine bodyPost_ret (v := .tuple #[.agg #[.int .i64 0, .int .i64 0, .slice none 0 0], .int .i64 0, .bool false]) (by simp [results, Try.results6, go_sem]) rfl ?_
    exact gaveRead_f (rOK_f1 h2) (below_new _ _)
  rcases h2 : allR bs 0 255 with _ | _
  · have h3 : okB bs 60 = false := by rw [okB_short (by rw [HL.out]; exact h1)]; exact h2
    go_enter Try.func6, Try.ntmps6
    go_wp2_with (go_at_call 16; refine (spec_allIn_any _ _ _ (H.out.alloc _)).mono ?_; rintro e w' ⟨rfl, rfl⟩)
    refine bodyPost_ret (v := .tuple #[.agg #[.int .i64 0, .int .i64 0, .slice none 0 0], .int .i64 0, .bool false]) (by simp [results, Try.results6, go_sem]) rfl ?_
    exact gaveRead_f (rOK_f1 h3) (below_new _ _)
  · have h3 : okB bs 60 = true := by rw [okB_short (by rw [HL.out]; exact h1)]; exact h2
    have hgt : decide (0 < rL bs) = rOK bs := by
      rcases hr : rOK bs with _ | _
      · rw [(r_f hr).2.2.2]; rfl
      · rw [(r_t hr).2.2.2]; simp
    have HG := Lib.hid hgt
    clear hgt
    go_enter Try.func6, Try.ntmps6
    go_wp2_with (go_at_call 16; refine (spec_allIn_any _ _ _ (H.out.alloc _)).mono ?_; rintro e w' ⟨rfl, rfl⟩)
    refine (spec_readFrame_any _ (H.out.alloc _) h3).mono ?_
    rintro e w1 ⟨A1, n1, c1, rfl, ho1, hb1⟩
    have R1 := Lib.hid ((Blk.new w 26 #[.int .i64 0, .int .i64 0, .slice none 0 0]).on hb1)
    have B1 := Lib.hid (below_then (below_new _ _) hb1)
    have HO1 := Lib.hid ho1
    have hz1 := hb1.size
    simp at hz1
    clear ho1 hb1
    obtain ⟨r0, r1, r2⟩ := R1.out.c3
    have f0 := R1.out.frozen 0
    have f1 := R1.out.frozen 1
    have f2 := R1.out.frozen 2
    have hlt := R1.out.lt
    go_wp2_with (fail)
    refine bodyPost_ret (v := .tuple #[.agg #[.int .i64 (rC bs), .int .i64 (rK bs), .slice A1 n1 c1], .int .i64 (rL bs : Int), .bool (decide (0 < rL bs))]) (by simp [results, Try.results6, go_sem, r0, r1, r2, hlt]) rfl ?_
    refine ⟨A1, n1, c1, by rw [HG.out], ?_, ?_⟩
    · refine OW.alloc ?_ _
      refine OW.base_le (base := (w.alloc (.cells #[.int .i64 0, .int .i64 0, .slice none 0 0] 26)).heap.size) ?_ (by simp)
      repeat' (first | exact HO1.out | refine OW.setCell ?_ ?_ _ | (simp; done))
    · refine Below.alloc ?_ (by simp [World.setCell]; omega) _
      repeat' (first | exact B1.out | refine Below.setCell ?_ ?_ _ | exact Nat.le_refl _)
end Go.Proofs.Ytehbkfgcbeldiaa
