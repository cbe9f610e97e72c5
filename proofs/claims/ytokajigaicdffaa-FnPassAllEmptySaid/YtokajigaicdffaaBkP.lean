/-
  PassAll of the program and of the model. (Its words were written by a program of my own.)
-/
import Derived.Test.YtokajigaicdffaaBk
import Derived.Test.YtokajigaicdffaaFlB
namespace Go.Proofs.Ytokajigaicdffaa
open Go.RowKit

def szOK (xs : List Int) : Bool := decide (xs.length ≤ 12) && allR xs 1 20
def vpOK (t : Int) (xs ys : List Int) : Bool := szOK xs && decide (ys.length = xs.length) && allR ys t 1000 && ascB ys
theorem paOK_vp {s r l t : Int} {xs ys : List Int} (hv : bkV s r l t = true) : paOK s r l t xs ys = vpOK t xs ys := by
  rw [Bool.eq_iff_iff]
  simp only [paOK, vpOK, szOK, hv, Bool.true_and, Bool.and_eq_true, decide_eq_true_eq]
  constructor
  · rintro ⟨⟨⟨⟨a, b⟩, c⟩, d⟩, e⟩; exact ⟨⟨⟨⟨b, c⟩, a.symm⟩, d⟩, e⟩
  · rintro ⟨⟨⟨⟨b, c⟩, a⟩, d⟩, e⟩; exact ⟨⟨⟨⟨a.symm, b⟩, c⟩, d⟩, e⟩
theorem impl_validSizes_any {A : Option Addr} {n c : Nat} {xs : List Int} (w : World) (h : IS w A n c xs) :
    Calls Try.prog 27 #[.slice A n c] w fun e w' => e = .returned (.bool (szOK xs)) ∧ w = w' := by
  have hcap := h.cap
  have HL := Lib.hid h.len
  have H := Lib.hid h
  clear h
  by_cases h12 : (n : Int) ≤ 12
  · go_enter Try.func27, Try.ntmps27
    go_wp2_with (go_at_call 28; refine (impl_allWithin_any _ _ _ H.out).mono ?_; rintro e w' ⟨rfl, rfl⟩)
    go_ret
    exact ⟨ret_bool (by have h1 : xs.length ≤ 12 := by { have := HL.out; omega }
                        simp [szOK, h1]), rfl⟩
  · go_enter Try.func27, Try.ntmps27
    go_wp2_with (fail)
    go_ret
    exact ⟨ret_bool (by have h1 : ¬ xs.length ≤ 12 := by { have := HL.out; omega }
                        simp [szOK, h1]), rfl⟩
set_option maxHeartbeats 1600000 in
theorem impl_validPasses_any {A A' : Option Addr} {n c n' c' : Nat} {xs ys : List Int} (s r l t : Int) (w : World) (h : IS w A n c xs) (h' : IS w A' n' c' ys) :
    Calls Try.prog 17 #[.agg #[.int .i64 s, .int .i64 r, .int .i64 l, .int .i64 t], .slice A n c, .slice A' n' c'] w fun e w' => e = .returned (.bool (vpOK t xs ys)) ∧ Below w.heap.size w w' := by
  have hcap := h.cap
  have hcap' := h'.cap
  have HL := Lib.hid h.len
  have HL' := Lib.hid h'.len
  have H := Lib.hid (h.alloc (.cells #[.int .i64 s, .int .i64 r, .int .i64 l, .int .i64 t] 24))
  have H' := Lib.hid (h'.alloc (.cells #[.int .i64 s, .int .i64 r, .int .i64 l, .int .i64 t] 24))
  have B0 := Lib.hid (below_new w (.cells #[.int .i64 s, .int .i64 r, .int .i64 l, .int .i64 t] 24))
  clear h h'
  rcases hs : szOK xs with _ | _
  · go_enter Try.func17, Try.ntmps17
    go_wp2_with (go_at_call 27; refine (call_b (impl_validSizes_any _ H.out) hs).mono ?_; rintro e w' ⟨rfl, rfl⟩)
    go_ret
    exact ⟨ret_bool (by simp [vpOK, hs]), B0.out⟩
  by_cases hn : n' = n
  · have hn' : ((n' : Int) != (n : Int)) = false := by simp [hn]
    have HN := Lib.hid hn
    clear hn
    rcases ha : allR ys t 1000 with _ | _
    · go_enter Try.func17, Try.ntmps17
      go_wp2_with (first | (go_at_call 27; refine (call_b (impl_validSizes_any _ H.out) hs).mono ?_; rintro e w' ⟨rfl, rfl⟩) | (go_at_call 28; refine (call_b (impl_allWithin_any _ _ _ H'.out) ha).mono ?_; rintro e w' ⟨rfl, rfl⟩))
      go_ret
      exact ⟨ret_bool (by simp [vpOK, ha]), B0.out⟩
    · go_enter Try.func17, Try.ntmps17
      go_wp2_with (first | (go_at_call 27; refine (call_b (impl_validSizes_any _ H.out) hs).mono ?_; rintro e w' ⟨rfl, rfl⟩) | (go_at_call 28; refine (call_b (impl_allWithin_any _ _ _ H'.out) ha).mono ?_; rintro e w' ⟨rfl, rfl⟩) | (go_at_call 29; refine (IsSorted_any _ H'.out).mono ?_; rintro e w' ⟨rfl, mm, rfl⟩))
      go_ret
      exact ⟨ret_bool (by have e : ys.length = xs.length := by { have := HL.out; have := HL'.out; have := HN.out; omega }
                          simp [vpOK, ha, hs, e]), by first | exact B0.out | exact below_drewN B0.out _⟩
  · have hn' : ((n' : Int) != (n : Int)) = true := by simp; omega
    have HN := Lib.hid hn
    clear hn
    go_enter Try.func17, Try.ntmps17
    go_wp2_with (go_at_call 27; refine (call_b (impl_validSizes_any _ H.out) hs).mono ?_; rintro e w' ⟨rfl, rfl⟩)
    go_ret
    exact ⟨ret_bool (by have e : ¬ ys.length = xs.length := by { have := HL.out; have := HL'.out; have := HN.out; omega }
                        simp [vpOK, e]), B0.out⟩
theorem tk_no {P : Program} {f : FuncId} {args : Array Value} {w : World} {R : World → Prop} {s r l t x now : Int}
    (h : Calls P f args w fun e w' => e = .returned (.tuple #[.agg #[.int .i64 (tkS s r l t x now), .int .i64 (tkR s r l t x now), .int .i64 (tkL s r l t x now), .int .i64 (tkT s r l t x now)], .bool (tkOK s r l t x now)]) ∧ R w') (ho : tkOK s r l t x now = false) :
    Calls P f args w fun e w' => e = .returned (.tuple #[.agg #[.int .i64 0, .int .i64 0, .int .i64 0, .int .i64 0], .bool false]) ∧ R w' := by
  simpa [tkS, tkR, tkL, tkT, ho] using h
theorem tk_yes {P : Program} {f : FuncId} {args : Array Value} {w : World} {R : World → Prop} {s r l t x now v : Int}
    (h : Calls P f args w fun e w' => e = .returned (.tuple #[.agg #[.int .i64 (tkS s r l t x now), .int .i64 (tkR s r l t x now), .int .i64 (tkL s r l t x now), .int .i64 (tkT s r l t x now)], .bool (tkOK s r l t x now)]) ∧ R w') (ho : tkOK s r l t x now = true) (hv : lvV s r l t now - x = v) :
    Calls P f args w fun e w' => e = .returned (.tuple #[.agg #[.int .i64 s, .int .i64 r, .int .i64 v, .int .i64 now], .bool true]) ∧ R w' := by
  subst hv
  simpa [tkS, tkR, tkL, tkT, ho] using h
theorem spec_toInt_t (w : World) : Calls Try.prog 22 #[.bool true] w fun e w' => e = .returned (.int .i64 1) ∧ w = w' := by
  go_enter Try.func22, Try.ntmps22
  go_wp2_with (fail)
  go_ret
  exact ⟨rfl, rfl⟩
theorem spec_toInt_f (w : World) : Calls Try.prog 22 #[.bool false] w fun e w' => e = .returned (.int .i64 0) ∧ w = w' := by
  go_enter Try.func22, Try.ntmps22
  go_wp2_with (fail)
  go_ret
  exact ⟨rfl, rfl⟩
theorem disj_bk {g : Nat} {A : Option Addr} {B : Nat} (h : g < B) (k : Ge A B) : Disj (some ⟨g, 0, none⟩) A := fun p q hp hq e => by
  cases hp
  have := k q hq
  have e' : g = q.block := e
  omega
theorem row_bk {w w' : World} {A : Option Addr} {n c : Nat} (h : w.grownBy w' (Value.slice A n c).ownBlock) : Row w w' A := by
  unfold Row
  rwa [← own_map]
set_option maxHeartbeats 1600000 in
theorem impl_PassAll_any {A A' : Option Addr} {n c n' c' : Nat} {xs ys : List Int} (s r l t : Int) (w : World) (h : IS w A n c xs) (h' : IS w A' n' c' ys) :
    Calls Try.prog 7 #[.agg #[.int .i64 s, .int .i64 r, .int .i64 l, .int .i64 t], .slice A n c, .slice A' n' c'] w (GaveInts 3 w (paL s r l t xs ys)) := by
  have hcap := h.cap
  have hcap' := h'.cap
  have HL := Lib.hid h.len
  have HL' := Lib.hid h'.len
  have H0 := Lib.hid h
  have H0' := Lib.hid h'
  have B0 := Lib.hid (below_new w (.cells #[.int .i64 s, .int .i64 r, .int .i64 l, .int .i64 t] 24))
  have P0 := Lib.hid (Blk.new w 24 #[.int .i64 s, .int .i64 r, .int .i64 l, .int .i64 t])
  clear h h'
  rcases hv : bkV s r l t with _ | _
  · skip
    go_enter Try.func7, Try.ntmps7
    go_wp2_with (fail)
    refine (call_bool (impl_ValidBucket_any s r l t _) hv).mono ?_
    rintro e w1 ⟨rfl, hb⟩
    have B1 := Lib.hid (B0.out.trans (hb.mono B0.out.size))
    have P1 := Lib.hid (P0.out.on hb)
    have I1 := Lib.hid (H0.out.below B1.out (Nat.le_refl _))
    have I1' := Lib.hid (H0'.out.below B1.out (Nat.le_refl _))
    clear hb
    obtain ⟨p0, p1, p2, p3⟩ := P1.out.c4
    go_wp2_with (fail)
    go_ret
    exact ⟨none, 0, 0, rfl, by rw [paL_f (by simp [paOK, hv])]; exact OW.none _ _ _, B1.out⟩
  rcases hp : vpOK t xs ys with _ | _
  · have hq : paOK s r l t xs ys = false := by rw [paOK_vp hv, hp]
    have HQ := Lib.hid hq
    clear hq
    go_enter Try.func7, Try.ntmps7
    go_wp2_with (fail)
    refine (call_bool (impl_ValidBucket_any s r l t _) hv).mono ?_
    rintro e w1 ⟨rfl, hb⟩
    have B1 := Lib.hid (B0.out.trans (hb.mono B0.out.size))
    have P1 := Lib.hid (P0.out.on hb)
    have I1 := Lib.hid (H0.out.below B1.out (Nat.le_refl _))
    have I1' := Lib.hid (H0'.out.below B1.out (Nat.le_refl _))
    clear hb
    obtain ⟨p0, p1, p2, p3⟩ := P1.out.c4
    go_wp2_with (fail)
    refine (call_bool (impl_validPasses_any s r l t _ I1.out I1'.out) hp).mono ?_
    rintro e w2 ⟨rfl, hb⟩
    have B2 := Lib.hid (B1.out.trans (hb.mono B1.out.size))
    have P2 := Lib.hid (P1.out.on hb)
    clear hb p0 p1 p2 p3
    go_wp2_with (fail)
    go_ret
    exact ⟨none, 0, 0, rfl, by rw [paL_f (HQ.out)]; exact OW.none _ _ _, B2.out⟩
  have HQ : Hid (paOK s r l t xs ys = true) := Lib.hid (by rw [paOK_vp hv, hp])
  have hn : n' = n := by
    have h1 := (paOK_in HQ.out).2.1
    have h2 := HL.out
    have h3 := HL'.out
    omega
  obtain rfl : n = n' := hn.symm
  have h12n : n ≤ 12 := by have h1 := (paOK_in HQ.out).2.2.1; have h2 := HL.out; omega
  go_enter Try.func7, Try.ntmps7
  go_wp2_with (fail)
  refine (call_bool (impl_ValidBucket_any s r l t _) hv).mono ?_
  rintro e w1 ⟨rfl, hb⟩
  have B1 := Lib.hid (B0.out.trans (hb.mono B0.out.size))
  have P1 := Lib.hid (P0.out.on hb)
  have I1 := Lib.hid (H0.out.below B1.out (Nat.le_refl _))
  have I1' := Lib.hid (H0'.out.below B1.out (Nat.le_refl _))
  clear hb
  obtain ⟨p0, p1, p2, p3⟩ := P1.out.c4
  go_wp2_with (fail)
  refine (call_bool (impl_validPasses_any s r l t _ I1.out I1'.out) hp).mono ?_
  rintro e w2 ⟨rfl, hb⟩
  have B2 := Lib.hid (B1.out.trans (hb.mono B1.out.size))
  have P2 := Lib.hid (P1.out.on hb)
  clear hb p0 p1 p2 p3
  clear B1 P1 I1 I1' hv hp
  go_wp2_with (fail)
  go_loopw [7, 24] (fun q i wr => ∃ (k : Nat) (A1 : Option Addr) (c1 : Nat), k ≤ n ∧ i = .int .i64 (k : Int) ∧ q = .slice A1 k c1 ∧ Hid (OW wr 3 (w.heap.size + 1) A1 k c1 (paN s r l t xs ys k)) ∧ Hid (Blk wr w.heap.size 24 #[.int .i64 s, .int .i64 r, .int .i64 (paP s r l t xs ys k).1, .int .i64 (paP s r l t xs ys k).2]) ∧ Hid (Below w.heap.size w wr)) (fun _ i _ => n - (intOf i).toNat)
  case atStart => exact ⟨0, none, 0, Nat.zero_le _, rfl, rfl, Lib.hid (OW.none _ _ _), P2, B2⟩
  case round =>
    obtain ⟨k, A1, c1, hk, rfl, rfl, HO, HM, HB⟩ := hrel
    clear P2 B2
    by_cases hlt : k < n
    · have hlt' : (k : Int) < (n : Int) := by omega
      obtain ⟨g, off, x, rfl, hx, hc⟩ := (H0.out.below HB.out (Nat.le_refl _)).at_ hlt
      obtain ⟨g', off', y, rfl, hy, hc'⟩ := (H0'.out.below HB.out (Nat.le_refl _)).at_ hlt
      have hx2 := getD_of hx
      have hy2 := getD_of hy
      obtain ⟨q, hq⟩ : ∃ q, paP s r l t xs ys k = q := ⟨_, rfl⟩
      obtain ⟨L, T⟩ := q
      have hb := paN_succ s r l t xs ys k
      have hpn := @paP_no s r l t xs ys k
      have hpy := @paP_yes s r l t xs ys k
      have hpb : paB s r l t xs ys k = tkOK s r L T x y := by unfold paB; rw [hq, hx2, hy2]
      rw [hpb] at hb hpn hpy
      rw [hq, hx2, hy2] at hpy
      rw [hq] at hpn
      rw [hq] at HM
      simp only at hpy HM
      have HN2 := Lib.hid hb
      have HPN := Lib.hid hpn
      have HPY := Lib.hid hpy
      clear hx hy hx2 hy2 hq hb hpn hpy hpb
      have hml := HM.out.lt
      obtain ⟨m0, m1, m2, m3⟩ := HM.out.c4
      rcases ho : tkOK s r L T x y with _ | _
      · have HT := Lib.hid ho
        have HNX := Lib.hid (HPN.out ho)
        have HNS : Hid (paN s r l t xs ys (k + 1) = paN s r l t xs ys k ++ [0]) := Lib.hid (by rw [HN2.out, HT.out]; rfl)
        clear ho
        go_wp2_with (fail)
        go_region_held3 (fun w' => w'.cell? ⟨w.heap.size, 0, none⟩ = some (.int .i64 s) ∧ w'.cell? ⟨w.heap.size, 1, none⟩ = some (.int .i64 r) ∧ w'.cell? ⟨w.heap.size, 2, none⟩ = some (.int .i64 L) ∧ w'.cell? ⟨w.heap.size, 3, none⟩ = some (.int .i64 T) ∧ w'.cell? ⟨g', off' + k, none⟩ = some (.int .i64 y))
          (refine And.intro ?_ (And.intro ?_ (And.intro ?_ (And.intro ?_ ?_))) <;> ((first | with_reducible refine cell_up (w := wr) ?_ m0 | with_reducible refine cell_up (w := wr) ?_ m1 | with_reducible refine cell_up (w := wr) ?_ m2 | with_reducible refine cell_up (w := wr) ?_ m3 | with_reducible refine cell_up (w := wr) ?_ hc'); (repeat' (first | with_reducible exact HW.out | with_reducible exact Below.refl _ _ | with_reducible refine Below.drew ?_ | with_reducible refine Below.setCell ?_ (by first | omega | (simp; done) | (simp; omega)) _ | with_reducible refine Below.alloc ?_ (by first | omega | (simp; done) | (simp; omega)) _))))
          (first
            | (go_at_call 10; go_must (refine (tk_no (impl_TakeFrom_any s r L T x y _) HT.out).mono ?_; rintro e w6 ⟨rfl, hb⟩; have HW : Hid (Below wr.heap.size wr w6) := Lib.hid (by first | exact hb | exact (Below.refl wr.heap.size wr).drew.trans hb | exact below_then (below_new wr (.cells #[.int .i64 0, .int .i64 0, .int .i64 0, .int .i64 0] 24)) hb | exact below_then (Below.drew (below_new wr (.cells #[.int .i64 0, .int .i64 0, .int .i64 0, .int .i64 0] 24))) hb); (try (have N0 : Hid (Blk w6 wr.heap.size 24 #[.int .i64 0, .int .i64 0, .int .i64 0, .int .i64 0]) := Lib.hid (Blk.on (by first | exact Blk.new wr _ _ | exact (Blk.new wr _ _).drew) hb); have n0 := N0.out.frozen 0; have n1 := N0.out.frozen 1; have n2 := N0.out.frozen 2; have n3 := N0.out.frozen 3; obtain ⟨k0, k1, k2, k3⟩ := N0.out.c4)); have zs6 := HW.out.size; clear hb)))
        · skip
          have BV : Hid (Below wr.heap.size wr (w6.alloc (.cells #[.int .i64 0, .int .i64 0, .int .i64 0, .int .i64 0] 24))) := Lib.hid (HW.out.alloc HW.out.size _)
          have N := Lib.hid (Blk.new w6 24 #[.int .i64 0, .int .i64 0, .int .i64 0, .int .i64 0])
          have hg0 : w.heap.size < w6.heap.size := by have h1 := HM.out.lt; have h2 := zs6; omega
          obtain ⟨V, eV⟩ : ∃ vv : World, vv = (w6.alloc (.cells #[.int .i64 0, .int .i64 0, .int .i64 0, .int .i64 0] 24)) := ⟨_, rfl⟩
          rw [← eV] at BV N ⊢
          clear eV
          obtain ⟨gn, hgn⟩ : ∃ z, z = w6.heap.size := ⟨_, rfl⟩
          have hg1 : wr.heap.size ≤ gn := by have h2 := zs6; omega
          rw [← hgn] at hg0 N ⊢
          clear hgn m0 m1 m2 m3 hc hc'
          have OV := Lib.hid (HO.out.below BV.out (Nat.le_refl _))
          have MV := Lib.hid (HM.out.on BV.out)
          have WV := Lib.hid (HB.out.trans (BV.out.mono HB.out.size))
          have hgl := N.out.lt
          have hol := HO.out.lt
          have hbv := BV.out.size
          have O7 := Lib.hid (OV.out.alloc (.cells #[.int .i64 0] 3))
          have SV : Hid (IS (V.alloc (.cells #[.int .i64 0] 3)) (some ⟨V.heap.size, 0, none⟩) 1 1 [0]) := Lib.hid (by simpa using (OW.lit V 3 0 [0] (by simp) (by simp)).is)
          have M7 := Lib.hid (MV.out.alloc (.cells #[.int .i64 0] 3))
          have N7 := Lib.hid (N.out.alloc (.cells #[.int .i64 0] 3))
          have B7 := Lib.hid (WV.out.alloc WV.out.size (.cells #[.int .i64 0] 3))
          have DM : Hid (Disj (some ⟨w.heap.size, 0, none⟩) A1) := Lib.hid (disj_bk (show w.heap.size < w.heap.size + 1 by omega) HO.out.ge)
          have DN : Hid (Disj (some ⟨gn, 0, none⟩) A1) := Lib.hid (Disj.symm (Disj.mk (B := wr.heap.size) hol (fun p hp => by cases hp; exact hg1)))
          have hgeA : Hid (Ge A1 (w.heap.size + 1)) := Lib.hid HO.out.ge
          clear OV WV hol
          go_wp2_with (at_builtin; go_must (refine wpList_append_is _ rfl (.tmp 41) (.tmp 42) _ rfl (w.heap.size + 1) 3 infoInt Try.underlying25 _ _ _ _ rfl O7.out _ _ _ _ rfl SV.out (by omega) (by simp; omega) ?_); intro A8 c8 w8 hown8 hg8; have O8 := Lib.hid hown8; have G8 := Lib.hid (row_bk hg8); have M8 := Lib.hid (M7.out.away G8.out DM.out); have N8 := Lib.hid (N7.out.away G8.out DN.out); have B8 := Lib.hid (below_row B7.out G8.out B7.out.size (hgeA.out.mono (by omega))); have hz8 := G8.out.size; simp at hz8; obtain ⟨q0, q1, q2, q3⟩ := N8.out.c4; obtain ⟨r0, r1, r2, r3⟩ := M8.out.c4; have f0 := M8.out.frozen 0; have f1 := M8.out.frozen 1; have f2 := M8.out.frozen 2; have f3 := M8.out.frozen 3; clear hown8 hg8)
          go_roundw
          case rel =>
            refine ⟨k + 1, A8, c8, by omega, by first | rfl | go_num, rfl, Lib.hid (by rw [HNS.out]; exact O8.out), Lib.hid (by rw [HNX.out]; exact M8.out), B8⟩
          case measure => simp [intOf]; omega
        · skip
          have BV : Hid (Below wr.heap.size wr ((((w6.setCell ⟨wr.heap.size, 0, none⟩ (.int .i64 0)).setCell ⟨wr.heap.size, 1, none⟩ (.int .i64 0)).setCell ⟨wr.heap.size, 2, none⟩ (.int .i64 0)).setCell ⟨wr.heap.size, 3, none⟩ (.int .i64 0))) := Lib.hid ((((HW.out.setCell (Nat.le_refl _) _).setCell (Nat.le_refl _) _).setCell (Nat.le_refl _) _).setCell (Nat.le_refl _) _)
          have N : Hid (Blk ((((w6.setCell ⟨wr.heap.size, 0, none⟩ (.int .i64 0)).setCell ⟨wr.heap.size, 1, none⟩ (.int .i64 0)).setCell ⟨wr.heap.size, 2, none⟩ (.int .i64 0)).setCell ⟨wr.heap.size, 3, none⟩ (.int .i64 0)) wr.heap.size 24 #[.int .i64 0, .int .i64 0, .int .i64 0, .int .i64 0]) := Lib.hid ((((N0.out.set_ 0 _).set_ 1 _).set_ 2 _).set_ 3 _)
          clear n0 n1 n2 n3 k0 k1 k2 k3 N0
          have hg0 : w.heap.size < wr.heap.size := by have h1 := HM.out.lt; have h2 := zs6; omega
          obtain ⟨V, eV⟩ : ∃ vv : World, vv = ((((w6.setCell ⟨wr.heap.size, 0, none⟩ (.int .i64 0)).setCell ⟨wr.heap.size, 1, none⟩ (.int .i64 0)).setCell ⟨wr.heap.size, 2, none⟩ (.int .i64 0)).setCell ⟨wr.heap.size, 3, none⟩ (.int .i64 0)) := ⟨_, rfl⟩
          rw [← eV] at BV N ⊢
          clear eV
          obtain ⟨gn, hgn⟩ : ∃ z, z = wr.heap.size := ⟨_, rfl⟩
          have hg1 : wr.heap.size ≤ gn := by have h2 := zs6; omega
          rw [← hgn] at hg0 N ⊢
          clear hgn m0 m1 m2 m3 hc hc'
          have OV := Lib.hid (HO.out.below BV.out (Nat.le_refl _))
          have MV := Lib.hid (HM.out.on BV.out)
          have WV := Lib.hid (HB.out.trans (BV.out.mono HB.out.size))
          have hgl := N.out.lt
          have hol := HO.out.lt
          have hbv := BV.out.size
          have O7 := Lib.hid (OV.out.alloc (.cells #[.int .i64 0] 3))
          have SV : Hid (IS (V.alloc (.cells #[.int .i64 0] 3)) (some ⟨V.heap.size, 0, none⟩) 1 1 [0]) := Lib.hid (by simpa using (OW.lit V 3 0 [0] (by simp) (by simp)).is)
          have M7 := Lib.hid (MV.out.alloc (.cells #[.int .i64 0] 3))
          have N7 := Lib.hid (N.out.alloc (.cells #[.int .i64 0] 3))
          have B7 := Lib.hid (WV.out.alloc WV.out.size (.cells #[.int .i64 0] 3))
          have DM : Hid (Disj (some ⟨w.heap.size, 0, none⟩) A1) := Lib.hid (disj_bk (show w.heap.size < w.heap.size + 1 by omega) HO.out.ge)
          have DN : Hid (Disj (some ⟨gn, 0, none⟩) A1) := Lib.hid (Disj.symm (Disj.mk (B := wr.heap.size) hol (fun p hp => by cases hp; exact hg1)))
          have hgeA : Hid (Ge A1 (w.heap.size + 1)) := Lib.hid HO.out.ge
          clear OV WV hol
          go_wp2_with (at_builtin; go_must (refine wpList_append_is _ rfl (.tmp 41) (.tmp 42) _ rfl (w.heap.size + 1) 3 infoInt Try.underlying25 _ _ _ _ rfl O7.out _ _ _ _ rfl SV.out (by omega) (by simp; omega) ?_); intro A8 c8 w8 hown8 hg8; have O8 := Lib.hid hown8; have G8 := Lib.hid (row_bk hg8); have M8 := Lib.hid (M7.out.away G8.out DM.out); have N8 := Lib.hid (N7.out.away G8.out DN.out); have B8 := Lib.hid (below_row B7.out G8.out B7.out.size (hgeA.out.mono (by omega))); have hz8 := G8.out.size; simp at hz8; obtain ⟨q0, q1, q2, q3⟩ := N8.out.c4; obtain ⟨r0, r1, r2, r3⟩ := M8.out.c4; have f0 := M8.out.frozen 0; have f1 := M8.out.frozen 1; have f2 := M8.out.frozen 2; have f3 := M8.out.frozen 3; clear hown8 hg8)
          go_roundw
          case rel =>
            refine ⟨k + 1, A8, c8, by omega, by first | rfl | go_num, rfl, Lib.hid (by rw [HNS.out]; exact O8.out), Lib.hid (by rw [HNX.out]; exact M8.out), B8⟩
          case measure => simp [intOf]; omega
      · have HT := Lib.hid ho
        have HNX := Lib.hid (HPY.out ho)
        obtain ⟨v, hv⟩ : ∃ v, lvV s r L T y - x = v := ⟨_, rfl⟩
        rw [hv] at HNX
        have HV := Lib.hid hv
        clear hv
        have HNS : Hid (paN s r l t xs ys (k + 1) = paN s r l t xs ys k ++ [1]) := Lib.hid (by rw [HN2.out, HT.out]; rfl)
        clear ho
        go_wp2_with (fail)
        go_region_held3 (fun w' => w'.cell? ⟨w.heap.size, 0, none⟩ = some (.int .i64 s) ∧ w'.cell? ⟨w.heap.size, 1, none⟩ = some (.int .i64 r) ∧ w'.cell? ⟨w.heap.size, 2, none⟩ = some (.int .i64 L) ∧ w'.cell? ⟨w.heap.size, 3, none⟩ = some (.int .i64 T) ∧ w'.cell? ⟨g', off' + k, none⟩ = some (.int .i64 y))
          (refine And.intro ?_ (And.intro ?_ (And.intro ?_ (And.intro ?_ ?_))) <;> ((first | with_reducible refine cell_up (w := wr) ?_ m0 | with_reducible refine cell_up (w := wr) ?_ m1 | with_reducible refine cell_up (w := wr) ?_ m2 | with_reducible refine cell_up (w := wr) ?_ m3 | with_reducible refine cell_up (w := wr) ?_ hc'); (repeat' (first | with_reducible exact HW.out | with_reducible exact Below.refl _ _ | with_reducible refine Below.drew ?_ | with_reducible refine Below.setCell ?_ (by first | omega | (simp; done) | (simp; omega)) _ | with_reducible refine Below.alloc ?_ (by first | omega | (simp; done) | (simp; omega)) _))))
          (first
            | (go_at_call 10; go_must (refine (tk_yes (impl_TakeFrom_any s r L T x y _) HT.out HV.out).mono ?_; rintro e w6 ⟨rfl, hb⟩; have HW : Hid (Below wr.heap.size wr w6) := Lib.hid (by first | exact hb | exact (Below.refl wr.heap.size wr).drew.trans hb | exact below_then (below_new wr (.cells #[.int .i64 0, .int .i64 0, .int .i64 0, .int .i64 0] 24)) hb | exact below_then (Below.drew (below_new wr (.cells #[.int .i64 0, .int .i64 0, .int .i64 0, .int .i64 0] 24))) hb); (try (have N0 : Hid (Blk w6 wr.heap.size 24 #[.int .i64 0, .int .i64 0, .int .i64 0, .int .i64 0]) := Lib.hid (Blk.on (by first | exact Blk.new wr _ _ | exact (Blk.new wr _ _).drew) hb); have n0 := N0.out.frozen 0; have n1 := N0.out.frozen 1; have n2 := N0.out.frozen 2; have n3 := N0.out.frozen 3; obtain ⟨k0, k1, k2, k3⟩ := N0.out.c4)); have zs6 := HW.out.size; clear hb)))
        · skip
          have BV : Hid (Below wr.heap.size wr (w6.alloc (.cells #[.int .i64 s, .int .i64 r, .int .i64 v, .int .i64 y] 24))) := Lib.hid (HW.out.alloc HW.out.size _)
          have N := Lib.hid (Blk.new w6 24 #[.int .i64 s, .int .i64 r, .int .i64 v, .int .i64 y])
          have hg0 : w.heap.size < w6.heap.size := by have h1 := HM.out.lt; have h2 := zs6; omega
          obtain ⟨V, eV⟩ : ∃ vv : World, vv = (w6.alloc (.cells #[.int .i64 s, .int .i64 r, .int .i64 v, .int .i64 y] 24)) := ⟨_, rfl⟩
          rw [← eV] at BV N ⊢
          clear eV
          obtain ⟨gn, hgn⟩ : ∃ z, z = w6.heap.size := ⟨_, rfl⟩
          have hg1 : wr.heap.size ≤ gn := by have h2 := zs6; omega
          rw [← hgn] at hg0 N ⊢
          clear hgn m0 m1 m2 m3 hc hc'
          have OV := Lib.hid (HO.out.below BV.out (Nat.le_refl _))
          have MV := Lib.hid (HM.out.on BV.out)
          have WV := Lib.hid (HB.out.trans (BV.out.mono HB.out.size))
          have hgl := N.out.lt
          have hol := HO.out.lt
          have hbv := BV.out.size
          have O7 := Lib.hid (OV.out.alloc (.cells #[.int .i64 1] 3))
          have SV : Hid (IS (V.alloc (.cells #[.int .i64 1] 3)) (some ⟨V.heap.size, 0, none⟩) 1 1 [1]) := Lib.hid (by simpa using (OW.lit V 3 0 [1] (by simp) (by simp)).is)
          have M7 := Lib.hid (MV.out.alloc (.cells #[.int .i64 1] 3))
          have N7 := Lib.hid (N.out.alloc (.cells #[.int .i64 1] 3))
          have B7 := Lib.hid (WV.out.alloc WV.out.size (.cells #[.int .i64 1] 3))
          have DM : Hid (Disj (some ⟨w.heap.size, 0, none⟩) A1) := Lib.hid (disj_bk (show w.heap.size < w.heap.size + 1 by omega) HO.out.ge)
          have DN : Hid (Disj (some ⟨gn, 0, none⟩) A1) := Lib.hid (Disj.symm (Disj.mk (B := wr.heap.size) hol (fun p hp => by cases hp; exact hg1)))
          have hgeA : Hid (Ge A1 (w.heap.size + 1)) := Lib.hid HO.out.ge
          clear OV WV hol
          go_wp2_with (at_builtin; go_must (refine wpList_append_is _ rfl (.tmp 44) (.tmp 45) _ rfl (w.heap.size + 1) 3 infoInt Try.underlying25 _ _ _ _ rfl O7.out _ _ _ _ rfl SV.out (by omega) (by simp; omega) ?_); intro A8 c8 w8 hown8 hg8; have O8 := Lib.hid hown8; have G8 := Lib.hid (row_bk hg8); have M8 := Lib.hid (M7.out.away G8.out DM.out); have N8 := Lib.hid (N7.out.away G8.out DN.out); have B8 := Lib.hid (below_row B7.out G8.out B7.out.size (hgeA.out.mono (by omega))); have hz8 := G8.out.size; simp at hz8; obtain ⟨q0, q1, q2, q3⟩ := N8.out.c4; obtain ⟨r0, r1, r2, r3⟩ := M8.out.c4; have f0 := M8.out.frozen 0; have f1 := M8.out.frozen 1; have f2 := M8.out.frozen 2; have f3 := M8.out.frozen 3; clear hown8 hg8)
          go_roundw
          case rel =>
            refine ⟨k + 1, A8, c8, by omega, by first | rfl | go_num, rfl, Lib.hid ?_, Lib.hid ?_, Lib.hid ?_⟩
            · rw [HNS.out]
              exact (((O8.out.setCell (p := ⟨w.heap.size, 0, none⟩) (by show w.heap.size < w.heap.size + 1; omega) _).setCell (p := ⟨w.heap.size, 1, none⟩) (by show w.heap.size < w.heap.size + 1; omega) _).setCell (p := ⟨w.heap.size, 2, none⟩) (by show w.heap.size < w.heap.size + 1; omega) _).setCell (p := ⟨w.heap.size, 3, none⟩) (by show w.heap.size < w.heap.size + 1; omega) _
            · rw [HNX.out]
              exact (((M8.out.set_ 0 _).set_ 1 _).set_ 2 _).set_ 3 _
            · exact (((B8.out.setCell (p := ⟨w.heap.size, 0, none⟩) (Nat.le_refl _) _).setCell (p := ⟨w.heap.size, 1, none⟩) (Nat.le_refl _) _).setCell (p := ⟨w.heap.size, 2, none⟩) (Nat.le_refl _) _).setCell (p := ⟨w.heap.size, 3, none⟩) (Nat.le_refl _) _
          case measure => simp [intOf]; omega
        · skip
          have BV : Hid (Below wr.heap.size wr ((((w6.setCell ⟨wr.heap.size, 0, none⟩ (.int .i64 s)).setCell ⟨wr.heap.size, 1, none⟩ (.int .i64 r)).setCell ⟨wr.heap.size, 2, none⟩ (.int .i64 v)).setCell ⟨wr.heap.size, 3, none⟩ (.int .i64 y))) := Lib.hid ((((HW.out.setCell (Nat.le_refl _) _).setCell (Nat.le_refl _) _).setCell (Nat.le_refl _) _).setCell (Nat.le_refl _) _)
          have N : Hid (Blk ((((w6.setCell ⟨wr.heap.size, 0, none⟩ (.int .i64 s)).setCell ⟨wr.heap.size, 1, none⟩ (.int .i64 r)).setCell ⟨wr.heap.size, 2, none⟩ (.int .i64 v)).setCell ⟨wr.heap.size, 3, none⟩ (.int .i64 y)) wr.heap.size 24 #[.int .i64 s, .int .i64 r, .int .i64 v, .int .i64 y]) := Lib.hid ((((N0.out.set_ 0 _).set_ 1 _).set_ 2 _).set_ 3 _)
          clear n0 n1 n2 n3 k0 k1 k2 k3 N0
          have hg0 : w.heap.size < wr.heap.size := by have h1 := HM.out.lt; have h2 := zs6; omega
          obtain ⟨V, eV⟩ : ∃ vv : World, vv = ((((w6.setCell ⟨wr.heap.size, 0, none⟩ (.int .i64 s)).setCell ⟨wr.heap.size, 1, none⟩ (.int .i64 r)).setCell ⟨wr.heap.size, 2, none⟩ (.int .i64 v)).setCell ⟨wr.heap.size, 3, none⟩ (.int .i64 y)) := ⟨_, rfl⟩
          rw [← eV] at BV N ⊢
          clear eV
          obtain ⟨gn, hgn⟩ : ∃ z, z = wr.heap.size := ⟨_, rfl⟩
          have hg1 : wr.heap.size ≤ gn := by have h2 := zs6; omega
          rw [← hgn] at hg0 N ⊢
          clear hgn m0 m1 m2 m3 hc hc'
          have OV := Lib.hid (HO.out.below BV.out (Nat.le_refl _))
          have MV := Lib.hid (HM.out.on BV.out)
          have WV := Lib.hid (HB.out.trans (BV.out.mono HB.out.size))
          have hgl := N.out.lt
          have hol := HO.out.lt
          have hbv := BV.out.size
          have O7 := Lib.hid (OV.out.alloc (.cells #[.int .i64 1] 3))
          have SV : Hid (IS (V.alloc (.cells #[.int .i64 1] 3)) (some ⟨V.heap.size, 0, none⟩) 1 1 [1]) := Lib.hid (by simpa using (OW.lit V 3 0 [1] (by simp) (by simp)).is)
          have M7 := Lib.hid (MV.out.alloc (.cells #[.int .i64 1] 3))
          have N7 := Lib.hid (N.out.alloc (.cells #[.int .i64 1] 3))
          have B7 := Lib.hid (WV.out.alloc WV.out.size (.cells #[.int .i64 1] 3))
          have DM : Hid (Disj (some ⟨w.heap.size, 0, none⟩) A1) := Lib.hid (disj_bk (show w.heap.size < w.heap.size + 1 by omega) HO.out.ge)
          have DN : Hid (Disj (some ⟨gn, 0, none⟩) A1) := Lib.hid (Disj.symm (Disj.mk (B := wr.heap.size) hol (fun p hp => by cases hp; exact hg1)))
          have hgeA : Hid (Ge A1 (w.heap.size + 1)) := Lib.hid HO.out.ge
          clear OV WV hol
          go_wp2_with (at_builtin; go_must (refine wpList_append_is _ rfl (.tmp 44) (.tmp 45) _ rfl (w.heap.size + 1) 3 infoInt Try.underlying25 _ _ _ _ rfl O7.out _ _ _ _ rfl SV.out (by omega) (by simp; omega) ?_); intro A8 c8 w8 hown8 hg8; have O8 := Lib.hid hown8; have G8 := Lib.hid (row_bk hg8); have M8 := Lib.hid (M7.out.away G8.out DM.out); have N8 := Lib.hid (N7.out.away G8.out DN.out); have B8 := Lib.hid (below_row B7.out G8.out B7.out.size (hgeA.out.mono (by omega))); have hz8 := G8.out.size; simp at hz8; obtain ⟨q0, q1, q2, q3⟩ := N8.out.c4; obtain ⟨r0, r1, r2, r3⟩ := M8.out.c4; have f0 := M8.out.frozen 0; have f1 := M8.out.frozen 1; have f2 := M8.out.frozen 2; have f3 := M8.out.frozen 3; clear hown8 hg8)
          go_roundw
          case rel =>
            refine ⟨k + 1, A8, c8, by omega, by first | rfl | go_num, rfl, Lib.hid ?_, Lib.hid ?_, Lib.hid ?_⟩
            · rw [HNS.out]
              exact (((O8.out.setCell (p := ⟨w.heap.size, 0, none⟩) (by show w.heap.size < w.heap.size + 1; omega) _).setCell (p := ⟨w.heap.size, 1, none⟩) (by show w.heap.size < w.heap.size + 1; omega) _).setCell (p := ⟨w.heap.size, 2, none⟩) (by show w.heap.size < w.heap.size + 1; omega) _).setCell (p := ⟨w.heap.size, 3, none⟩) (by show w.heap.size < w.heap.size + 1; omega) _
            · rw [HNX.out]
              exact (((M8.out.set_ 0 _).set_ 1 _).set_ 2 _).set_ 3 _
            · exact (((B8.out.setCell (p := ⟨w.heap.size, 0, none⟩) (Nat.le_refl _) _).setCell (p := ⟨w.heap.size, 1, none⟩) (Nat.le_refl _) _).setCell (p := ⟨w.heap.size, 2, none⟩) (Nat.le_refl _) _).setCell (p := ⟨w.heap.size, 3, none⟩) (Nat.le_refl _) _
          case measure => simp [intOf]; omega
    · have hlt' : ¬ (k : Int) < (n : Int) := by omega
      obtain rfl : k = n := by omega
      go_wp2_with (fail)
      go_ret
      refine ⟨A1, k, c1, rfl, ?_, HB.out⟩
      rw [paL_t HQ.out, HL.out]
      exact HO.out.base_le (by omega)
set_option maxHeartbeats 1600000 in
theorem spec_PassAll_any {A A' : Option Addr} {n c n' c' : Nat} {xs ys : List Int} (s r l t : Int) (w : World) (h : IS w A n c xs) (h' : IS w A' n' c' ys) :
    Calls Try.prog 9 #[.agg #[.int .i64 s, .int .i64 r, .int .i64 l, .int .i64 t], .slice A n c, .slice A' n' c'] w (GaveInts 3 w (paL s r l t xs ys)) := by
  have hcap := h.cap
  have hcap' := h'.cap
  have HL := Lib.hid h.len
  have HL' := Lib.hid h'.len
  have H0 := Lib.hid h
  have H0' := Lib.hid h'
  have B0 := Lib.hid ((below_new w (.cells #[.int .i64 s, .int .i64 r, .int .i64 l, .int .i64 t] 24)).alloc (by simp) (.cells #[] 3))
  have P0 := Lib.hid ((Blk.new w 24 #[.int .i64 s, .int .i64 r, .int .i64 l, .int .i64 t]).alloc (.cells #[] 3))
  have O0 : Hid (OW ((w.alloc (.cells #[.int .i64 s, .int .i64 r, .int .i64 l, .int .i64 t] 24)).alloc (.cells #[] 3)) 3 (w.heap.size + 1) (some ⟨w.heap.size + 1, 0, none⟩) 0 0 []) := Lib.hid (by simpa using OW.lit (w.alloc (.cells #[.int .i64 s, .int .i64 r, .int .i64 l, .int .i64 t] 24)) 3 (w.heap.size + 1) [] (by simp) (by simp))
  clear h h'
  rcases hv : bkV s r l t with _ | _
  · skip
    go_enter Try.func9, Try.ntmps9
    go_wp2_with (fail)
    refine (call_bool (spec_validBucket_any s r l t _) hv).mono ?_
    rintro e w1 ⟨rfl, hb⟩
    have B1 := Lib.hid (B0.out.trans (hb.mono B0.out.size))
    have P1 := Lib.hid (P0.out.on hb)
    have O1 := Lib.hid (O0.out.below hb (Nat.le_refl _))
    have I1 := Lib.hid (H0.out.below B1.out (Nat.le_refl _))
    have I1' := Lib.hid (H0'.out.below B1.out (Nat.le_refl _))
    clear hb
    obtain ⟨p0, p1, p2, p3⟩ := P1.out.c4
    go_wp2_with (fail)
    go_ret
    exact ⟨none, 0, 0, rfl, by rw [paL_f (by simp [paOK, hv])]; exact OW.none _ _ _, B1.out⟩
  have KO : Hid (paOK s r l t xs ys = true → n' = n ∧ n ≤ 12 ∧ allR xs 1 20 = true ∧ flOK ys 0 1 = true ∧ allR ys t 1000 = true) := Lib.hid (fun h => by
    obtain ⟨a, b, c, d, e, f⟩ := paOK_in h
    have h1 := HL.out
    have h2 := HL'.out
    refine ⟨by omega, by omega, d, ?_, e⟩
    have e2 : allR ys 0 1000 = true := by
      unfold allR at e ⊢
      rw [List.all_eq_true] at e ⊢
      intro x hx
      have h3 := inR_iff.1 (e x hx)
      have h4 := bkV_in a
      exact inR_t (by omega) h3.2
    have e3 : ys.length ≤ 12 := by omega
    simp [flOK, okT, e2, f, e3]
    decide)
  have KN : Hid (∀ b : Bool, b = false → (paOK s r l t xs ys = true → b = true) → paOK s r l t xs ys = false) := Lib.hid (fun b hb h => by
    rcases e : paOK s r l t xs ys with _ | _
    · rfl
    · rw [h e] at hb; cases hb)
  by_cases hn : n' = n
  rotate_left
  · have hn' : ((n : Int) != (n' : Int)) = true := by simp; omega
    have hq : paOK s r l t xs ys = false := KN.out false rfl (fun h => absurd (KO.out h).1 hn)
    have HQ := Lib.hid hq
    clear hq hn
    go_enter Try.func9, Try.ntmps9
    go_wp2_with (fail)
    refine (call_bool (spec_validBucket_any s r l t _) hv).mono ?_
    rintro e w1 ⟨rfl, hb⟩
    have B1 := Lib.hid (B0.out.trans (hb.mono B0.out.size))
    have P1 := Lib.hid (P0.out.on hb)
    have O1 := Lib.hid (O0.out.below hb (Nat.le_refl _))
    have I1 := Lib.hid (H0.out.below B1.out (Nat.le_refl _))
    have I1' := Lib.hid (H0'.out.below B1.out (Nat.le_refl _))
    clear hb
    obtain ⟨p0, p1, p2, p3⟩ := P1.out.c4
    go_wp2_with (fail)
    go_ret
    exact ⟨none, 0, 0, rfl, by rw [paL_f (HQ.out)]; exact OW.none _ _ _, B1.out⟩
  have hn' : ((n : Int) != (n' : Int)) = false := by simp [hn]
  have HN := Lib.hid hn
  by_cases h12 : n ≤ 12
  rotate_left
  · have h12' : (12 : Int) < (n : Int) := by omega
    have hq : paOK s r l t xs ys = false := KN.out false rfl (fun h => absurd (KO.out h).2.1 h12)
    have HQ := Lib.hid hq
    clear hq hn h12
    go_enter Try.func9, Try.ntmps9
    go_wp2_with (fail)
    refine (call_bool (spec_validBucket_any s r l t _) hv).mono ?_
    rintro e w1 ⟨rfl, hb⟩
    have B1 := Lib.hid (B0.out.trans (hb.mono B0.out.size))
    have P1 := Lib.hid (P0.out.on hb)
    have O1 := Lib.hid (O0.out.below hb (Nat.le_refl _))
    have I1 := Lib.hid (H0.out.below B1.out (Nat.le_refl _))
    have I1' := Lib.hid (H0'.out.below B1.out (Nat.le_refl _))
    clear hb
    obtain ⟨p0, p1, p2, p3⟩ := P1.out.c4
    go_wp2_with (fail)
    go_ret
    exact ⟨none, 0, 0, rfl, by rw [paL_f (HQ.out)]; exact OW.none _ _ _, B1.out⟩
  have h12' : ¬ (12 : Int) < (n : Int) := by omega
  rcases hx : allR xs 1 20 with _ | _
  · have hq : paOK s r l t xs ys = false := KN.out _ hx (fun h => (KO.out h).2.2.1)
    have HQ := Lib.hid hq
    clear hq hn
    go_enter Try.func9, Try.ntmps9
    go_wp2_with (fail)
    refine (call_bool (spec_validBucket_any s r l t _) hv).mono ?_
    rintro e w1 ⟨rfl, hb⟩
    have B1 := Lib.hid (B0.out.trans (hb.mono B0.out.size))
    have P1 := Lib.hid (P0.out.on hb)
    have O1 := Lib.hid (O0.out.below hb (Nat.le_refl _))
    have I1 := Lib.hid (H0.out.below B1.out (Nat.le_refl _))
    have I1' := Lib.hid (H0'.out.below B1.out (Nat.le_refl _))
    clear hb
    obtain ⟨p0, p1, p2, p3⟩ := P1.out.c4
    go_wp2_with (first | (go_at_call 19; refine (call_b (spec_allIn_any _ _ _ I1.out) hx).mono ?_; rintro e w' ⟨rfl, rfl⟩) | (go_at_call 20; refine (spec_validTimes_any _ _ _ I1'.out).mono ?_; rintro e w' ⟨rfl, mm, rfl⟩))
    go_ret
    exact ⟨none, 0, 0, rfl, by rw [paL_f (HQ.out)]; exact OW.none _ _ _, B1.out⟩
  rcases hf : flOK ys 0 1 with _ | _
  · have hq : paOK s r l t xs ys = false := KN.out _ hf (fun h => (KO.out h).2.2.2.1)
    have HQ := Lib.hid hq
    clear hq hn
    go_enter Try.func9, Try.ntmps9
    go_wp2_with (fail)
    refine (call_bool (spec_validBucket_any s r l t _) hv).mono ?_
    rintro e w1 ⟨rfl, hb⟩
    have B1 := Lib.hid (B0.out.trans (hb.mono B0.out.size))
    have P1 := Lib.hid (P0.out.on hb)
    have O1 := Lib.hid (O0.out.below hb (Nat.le_refl _))
    have I1 := Lib.hid (H0.out.below B1.out (Nat.le_refl _))
    have I1' := Lib.hid (H0'.out.below B1.out (Nat.le_refl _))
    clear hb
    obtain ⟨p0, p1, p2, p3⟩ := P1.out.c4
    go_wp2_with (first | (go_at_call 19; refine (call_b (spec_allIn_any _ _ _ I1.out) hx).mono ?_; rintro e w' ⟨rfl, rfl⟩) | (go_at_call 20; refine (call_bool (spec_validTimes_any _ _ _ I1'.out) hf).mono ?_; rintro e w' ⟨rfl, mm, rfl⟩))
    go_ret
    exact ⟨none, 0, 0, rfl, by rw [paL_f (HQ.out)]; exact OW.none _ _ _, below_drewN B1.out _⟩
  rcases hy : allR ys t 1000 with _ | _
  · have hq : paOK s r l t xs ys = false := KN.out _ hy (fun h => (KO.out h).2.2.2.2)
    have HQ := Lib.hid hq
    clear hq hn
    go_enter Try.func9, Try.ntmps9
    go_wp2_with (fail)
    refine (call_bool (spec_validBucket_any s r l t _) hv).mono ?_
    rintro e w1 ⟨rfl, hb⟩
    have B1 := Lib.hid (B0.out.trans (hb.mono B0.out.size))
    have P1 := Lib.hid (P0.out.on hb)
    have O1 := Lib.hid (O0.out.below hb (Nat.le_refl _))
    have I1 := Lib.hid (H0.out.below B1.out (Nat.le_refl _))
    have I1' := Lib.hid (H0'.out.below B1.out (Nat.le_refl _))
    clear hb
    obtain ⟨p0, p1, p2, p3⟩ := P1.out.c4
    go_wp2_with (first | (go_at_call 19; with_reducible refine (call_b (spec_allIn_any 1 20 _ I1.out) hx).mono ?_; rintro e w' ⟨rfl, rfl⟩) | (go_at_call 20; refine (call_bool (spec_validTimes_any _ _ _ I1'.out) hf).mono ?_; rintro e w' ⟨rfl, mm, rfl⟩) | (go_at_call 19; with_reducible refine (call_b (spec_allIn_any t 1000 _ (I1'.out.drewN mm)) hy).mono ?_; rintro e w' ⟨rfl, rfl⟩))
    go_ret
    exact ⟨none, 0, 0, rfl, by rw [paL_f (HQ.out)]; exact OW.none _ _ _, below_drewN B1.out _⟩
  have HQ : Hid (paOK s r l t xs ys = true) := Lib.hid (by
    have h1 := HL.out
    have h2 := HL'.out
    have hfl : ascB ys = true := by simp only [flOK, okT, Bool.and_eq_true] at hf; simp_all
    have e1 : xs.length = ys.length := by omega
    have e2 : xs.length ≤ 12 := by omega
    simp only [paOK, hv, hx, hy, hfl, decide_eq_true e1, decide_eq_true e2, Bool.and_self])
  clear hn
  have hn : n' = n := HN.out
  obtain rfl : n = n' := hn.symm
  go_enter Try.func9, Try.ntmps9
  go_wp2_with (fail)
  refine (call_bool (spec_validBucket_any s r l t _) hv).mono ?_
  rintro e w1 ⟨rfl, hb⟩
  have B1 := Lib.hid (B0.out.trans (hb.mono B0.out.size))
  have P1 := Lib.hid (P0.out.on hb)
  have O1 := Lib.hid (O0.out.below hb (Nat.le_refl _))
  have I1 := Lib.hid (H0.out.below B1.out (Nat.le_refl _))
  have I1' := Lib.hid (H0'.out.below B1.out (Nat.le_refl _))
  clear hb
  obtain ⟨p0, p1, p2, p3⟩ := P1.out.c4
  go_wp2_with (first | (go_at_call 19; with_reducible refine (call_b (spec_allIn_any 1 20 _ I1.out) hx).mono ?_; rintro e w' ⟨rfl, rfl⟩) | (go_at_call 20; refine (call_bool (spec_validTimes_any _ _ _ I1'.out) hf).mono ?_; rintro e w' ⟨rfl, mm, rfl⟩) | (go_at_call 19; with_reducible refine (call_b (spec_allIn_any t 1000 _ (I1'.out.drewN mm)) hy).mono ?_; rintro e w' ⟨rfl, rfl⟩))
  obtain ⟨w2, e2⟩ : ∃ vv : World, vv = w1.drewN mm := ⟨_, rfl⟩
  have B2 : Hid (Below w.heap.size w w2) := Lib.hid (by rw [e2]; exact below_drewN B1.out mm)
  have P2 : Hid (Blk w2 w.heap.size 24 #[.int .i64 s, .int .i64 r, .int .i64 l, .int .i64 t]) := Lib.hid (by rw [e2]; exact P1.out.drewN mm)
  have O2 : Hid (OW w2 3 (w.heap.size + 1) (some ⟨w.heap.size + 1, 0, none⟩) 0 0 []) := Lib.hid (by rw [e2]; exact O1.out.drewN mm)
  rw [← e2]
  clear e2 p0 p1 p2 p3
  clear B1 P1 I1 I1' O1 hv hx hf hy
  go_wp2_with (fail)
  go_loopw [7, 8] (fun q i wr => ∃ (k : Nat) (A1 : Option Addr) (c1 : Nat), k ≤ n ∧ i = .int .i64 (k : Int) ∧ q = .slice A1 k c1 ∧ Hid (OW wr 3 (w.heap.size + 1) A1 k c1 (paN s r l t xs ys k)) ∧ Hid (Blk wr w.heap.size 24 #[.int .i64 s, .int .i64 r, .int .i64 (paP s r l t xs ys k).1, .int .i64 (paP s r l t xs ys k).2]) ∧ Hid (Below w.heap.size w wr)) (fun _ i _ => n - (intOf i).toNat)
  case atStart => exact ⟨0, some ⟨w.heap.size + 1, 0, none⟩, 0, Nat.zero_le _, rfl, rfl, O2, P2, B2⟩
  case round =>
    obtain ⟨k, A1, c1, hk, rfl, rfl, HO, HM, HB⟩ := hrel
    clear P2 B2 O2
    by_cases hlt : k < n
    · have hlt' : (k : Int) < (n : Int) := by omega
      obtain ⟨g, off, x, rfl, hx, hc⟩ := (H0.out.below HB.out (Nat.le_refl _)).at_ hlt
      obtain ⟨g', off', y, rfl, hy, hc'⟩ := (H0'.out.below HB.out (Nat.le_refl _)).at_ hlt
      have hx2 := getD_of hx
      have hy2 := getD_of hy
      obtain ⟨q, hq⟩ : ∃ q, paP s r l t xs ys k = q := ⟨_, rfl⟩
      obtain ⟨L, T⟩ := q
      have hb := paN_succ s r l t xs ys k
      have hpn := @paP_no s r l t xs ys k
      have hpy := @paP_yes s r l t xs ys k
      have hpb : paB s r l t xs ys k = tkOK s r L T x y := by unfold paB; rw [hq, hx2, hy2]
      rw [hpb] at hb hpn hpy
      rw [hq, hx2, hy2] at hpy
      rw [hq] at hpn
      rw [hq] at HM
      simp only at hpy HM
      have HN2 := Lib.hid hb
      have HPN := Lib.hid hpn
      have HPY := Lib.hid hpy
      clear hx hy hx2 hy2 hq hb hpn hpy hpb
      have hml := HM.out.lt
      obtain ⟨m0, m1, m2, m3⟩ := HM.out.c4
      rcases ho : tkOK s r L T x y with _ | _
      · have HT := Lib.hid ho
        have HNX := Lib.hid (HPN.out ho)
        have HNS : Hid (paN s r l t xs ys (k + 1) = paN s r l t xs ys k ++ [0]) := Lib.hid (by rw [HN2.out, HT.out]; rfl)
        clear ho
        go_wp2_with (fail)
        go_region_held3 (fun w' => w'.cell? ⟨w.heap.size, 0, none⟩ = some (.int .i64 s) ∧ w'.cell? ⟨w.heap.size, 1, none⟩ = some (.int .i64 r) ∧ w'.cell? ⟨w.heap.size, 2, none⟩ = some (.int .i64 L) ∧ w'.cell? ⟨w.heap.size, 3, none⟩ = some (.int .i64 T) ∧ w'.cell? ⟨g', off' + k, none⟩ = some (.int .i64 y) ∧ w'.cell? ⟨g, off + k, none⟩ = some (.int .i64 x))
          (refine And.intro ?_ (And.intro ?_ (And.intro ?_ (And.intro ?_ (And.intro ?_ ?_)))) <;> ((first | with_reducible refine cell_up (w := wr) ?_ m0 | with_reducible refine cell_up (w := wr) ?_ m1 | with_reducible refine cell_up (w := wr) ?_ m2 | with_reducible refine cell_up (w := wr) ?_ m3 | with_reducible refine cell_up (w := wr) ?_ hc' | with_reducible refine cell_up (w := wr) ?_ hc); (repeat' (first | with_reducible exact HW.out | with_reducible exact Below.refl _ _ | with_reducible refine Below.drew ?_ | with_reducible refine Below.setCell ?_ (by first | omega | (simp; done) | (simp; omega)) _ | with_reducible refine Below.alloc ?_ (by first | omega | (simp; done) | (simp; omega)) _))))
          (first
            | (go_at_call 21; go_must (refine (tk_no (spec_TakeFrom_any s r L T x y _) HT.out).mono ?_; rintro e w6 ⟨rfl, hb⟩; have HW : Hid (Below wr.heap.size wr w6) := Lib.hid (by first | exact hb | exact (Below.refl wr.heap.size wr).drew.trans hb | exact below_then (below_new wr (.cells #[.int .i64 0, .int .i64 0, .int .i64 0, .int .i64 0] 24)) hb | exact below_then (Below.drew (below_new wr (.cells #[.int .i64 0, .int .i64 0, .int .i64 0, .int .i64 0] 24))) hb); (try (have N0 : Hid (Blk w6 wr.heap.size 24 #[.int .i64 0, .int .i64 0, .int .i64 0, .int .i64 0]) := Lib.hid (Blk.on (by first | exact Blk.new wr _ _ | exact (Blk.new wr _ _).drew) hb); have n0 := N0.out.frozen 0; have n1 := N0.out.frozen 1; have n2 := N0.out.frozen 2; have n3 := N0.out.frozen 3; obtain ⟨k0, k1, k2, k3⟩ := N0.out.c4)); have zs6 := HW.out.size; clear hb)))
        · skip
          have BV : Hid (Below wr.heap.size wr (w6.alloc (.cells #[.int .i64 0, .int .i64 0, .int .i64 0, .int .i64 0] 24))) := Lib.hid (HW.out.alloc HW.out.size _)
          have N := Lib.hid (Blk.new w6 24 #[.int .i64 0, .int .i64 0, .int .i64 0, .int .i64 0])
          have hg0 : w.heap.size < w6.heap.size := by have h1 := HM.out.lt; have h2 := zs6; omega
          obtain ⟨V, eV⟩ : ∃ vv : World, vv = (w6.alloc (.cells #[.int .i64 0, .int .i64 0, .int .i64 0, .int .i64 0] 24)) := ⟨_, rfl⟩
          rw [← eV] at BV N ⊢
          clear eV
          obtain ⟨gn, hgn⟩ : ∃ z, z = w6.heap.size := ⟨_, rfl⟩
          have hg1 : wr.heap.size ≤ gn := by have h2 := zs6; omega
          rw [← hgn] at hg0 N ⊢
          clear hgn m0 m1 m2 m3 hc hc'
          have OV := Lib.hid (HO.out.below BV.out (Nat.le_refl _))
          have MV := Lib.hid (HM.out.on BV.out)
          have WV := Lib.hid (HB.out.trans (BV.out.mono HB.out.size))
          have hgl := N.out.lt
          have hol := HO.out.lt
          have hbv := BV.out.size
          have O7 := Lib.hid (OV.out.alloc (.cells #[.int .i64 0] 3))
          have SV : Hid (IS (V.alloc (.cells #[.int .i64 0] 3)) (some ⟨V.heap.size, 0, none⟩) 1 1 [0]) := Lib.hid (by simpa using (OW.lit V 3 0 [0] (by simp) (by simp)).is)
          have M7 := Lib.hid (MV.out.alloc (.cells #[.int .i64 0] 3))
          have N7 := Lib.hid (N.out.alloc (.cells #[.int .i64 0] 3))
          have B7 := Lib.hid (WV.out.alloc WV.out.size (.cells #[.int .i64 0] 3))
          have DM : Hid (Disj (some ⟨w.heap.size, 0, none⟩) A1) := Lib.hid (disj_bk (show w.heap.size < w.heap.size + 1 by omega) HO.out.ge)
          have DN : Hid (Disj (some ⟨gn, 0, none⟩) A1) := Lib.hid (Disj.symm (Disj.mk (B := wr.heap.size) hol (fun p hp => by cases hp; exact hg1)))
          have hgeA : Hid (Ge A1 (w.heap.size + 1)) := Lib.hid HO.out.ge
          clear OV WV hol
          go_wp2_with (first | (go_at_call 22; refine (spec_toInt_f _).mono ?_; rintro e w' ⟨rfl, rfl⟩) | (at_builtin; go_must (refine wpList_append_is _ rfl (.tmp 65) (.tmp 68) _ rfl (w.heap.size + 1) 3 infoInt Try.underlying25 _ _ _ _ rfl O7.out _ _ _ _ rfl SV.out (by omega) (by simp; omega) ?_); intro A8 c8 w8 hown8 hg8; have O8 := Lib.hid hown8; have G8 := Lib.hid (row_bk hg8); have M8 := Lib.hid (M7.out.away G8.out DM.out); have N8 := Lib.hid (N7.out.away G8.out DN.out); have B8 := Lib.hid (below_row B7.out G8.out B7.out.size (hgeA.out.mono (by omega))); have hz8 := G8.out.size; simp at hz8; obtain ⟨q0, q1, q2, q3⟩ := N8.out.c4; obtain ⟨r0, r1, r2, r3⟩ := M8.out.c4; have f0 := M8.out.frozen 0; have f1 := M8.out.frozen 1; have f2 := M8.out.frozen 2; have f3 := M8.out.frozen 3; clear hown8 hg8))
          go_roundw
          case rel =>
            refine ⟨k + 1, A8, c8, by omega, by first | rfl | go_num, rfl, Lib.hid (by rw [HNS.out]; exact O8.out), Lib.hid (by rw [HNX.out]; exact M8.out), B8⟩
          case measure => simp [intOf]; omega
        · skip
          have BV : Hid (Below wr.heap.size wr ((((w6.setCell ⟨wr.heap.size, 0, none⟩ (.int .i64 0)).setCell ⟨wr.heap.size, 1, none⟩ (.int .i64 0)).setCell ⟨wr.heap.size, 2, none⟩ (.int .i64 0)).setCell ⟨wr.heap.size, 3, none⟩ (.int .i64 0))) := Lib.hid ((((HW.out.setCell (Nat.le_refl _) _).setCell (Nat.le_refl _) _).setCell (Nat.le_refl _) _).setCell (Nat.le_refl _) _)
          have N : Hid (Blk ((((w6.setCell ⟨wr.heap.size, 0, none⟩ (.int .i64 0)).setCell ⟨wr.heap.size, 1, none⟩ (.int .i64 0)).setCell ⟨wr.heap.size, 2, none⟩ (.int .i64 0)).setCell ⟨wr.heap.size, 3, none⟩ (.int .i64 0)) wr.heap.size 24 #[.int .i64 0, .int .i64 0, .int .i64 0, .int .i64 0]) := Lib.hid ((((N0.out.set_ 0 _).set_ 1 _).set_ 2 _).set_ 3 _)
          clear n0 n1 n2 n3 k0 k1 k2 k3 N0
          have hg0 : w.heap.size < wr.heap.size := by have h1 := HM.out.lt; have h2 := zs6; omega
          obtain ⟨V, eV⟩ : ∃ vv : World, vv = ((((w6.setCell ⟨wr.heap.size, 0, none⟩ (.int .i64 0)).setCell ⟨wr.heap.size, 1, none⟩ (.int .i64 0)).setCell ⟨wr.heap.size, 2, none⟩ (.int .i64 0)).setCell ⟨wr.heap.size, 3, none⟩ (.int .i64 0)) := ⟨_, rfl⟩
          rw [← eV] at BV N ⊢
          clear eV
          obtain ⟨gn, hgn⟩ : ∃ z, z = wr.heap.size := ⟨_, rfl⟩
          have hg1 : wr.heap.size ≤ gn := by have h2 := zs6; omega
          rw [← hgn] at hg0 N ⊢
          clear hgn m0 m1 m2 m3 hc hc'
          have OV := Lib.hid (HO.out.below BV.out (Nat.le_refl _))
          have MV := Lib.hid (HM.out.on BV.out)
          have WV := Lib.hid (HB.out.trans (BV.out.mono HB.out.size))
          have hgl := N.out.lt
          have hol := HO.out.lt
          have hbv := BV.out.size
          have O7 := Lib.hid (OV.out.alloc (.cells #[.int .i64 0] 3))
          have SV : Hid (IS (V.alloc (.cells #[.int .i64 0] 3)) (some ⟨V.heap.size, 0, none⟩) 1 1 [0]) := Lib.hid (by simpa using (OW.lit V 3 0 [0] (by simp) (by simp)).is)
          have M7 := Lib.hid (MV.out.alloc (.cells #[.int .i64 0] 3))
          have N7 := Lib.hid (N.out.alloc (.cells #[.int .i64 0] 3))
          have B7 := Lib.hid (WV.out.alloc WV.out.size (.cells #[.int .i64 0] 3))
          have DM : Hid (Disj (some ⟨w.heap.size, 0, none⟩) A1) := Lib.hid (disj_bk (show w.heap.size < w.heap.size + 1 by omega) HO.out.ge)
          have DN : Hid (Disj (some ⟨gn, 0, none⟩) A1) := Lib.hid (Disj.symm (Disj.mk (B := wr.heap.size) hol (fun p hp => by cases hp; exact hg1)))
          have hgeA : Hid (Ge A1 (w.heap.size + 1)) := Lib.hid HO.out.ge
          clear OV WV hol
          go_wp2_with (first | (go_at_call 22; refine (spec_toInt_f _).mono ?_; rintro e w' ⟨rfl, rfl⟩) | (at_builtin; go_must (refine wpList_append_is _ rfl (.tmp 65) (.tmp 68) _ rfl (w.heap.size + 1) 3 infoInt Try.underlying25 _ _ _ _ rfl O7.out _ _ _ _ rfl SV.out (by omega) (by simp; omega) ?_); intro A8 c8 w8 hown8 hg8; have O8 := Lib.hid hown8; have G8 := Lib.hid (row_bk hg8); have M8 := Lib.hid (M7.out.away G8.out DM.out); have N8 := Lib.hid (N7.out.away G8.out DN.out); have B8 := Lib.hid (below_row B7.out G8.out B7.out.size (hgeA.out.mono (by omega))); have hz8 := G8.out.size; simp at hz8; obtain ⟨q0, q1, q2, q3⟩ := N8.out.c4; obtain ⟨r0, r1, r2, r3⟩ := M8.out.c4; have f0 := M8.out.frozen 0; have f1 := M8.out.frozen 1; have f2 := M8.out.frozen 2; have f3 := M8.out.frozen 3; clear hown8 hg8))
          go_roundw
          case rel =>
            refine ⟨k + 1, A8, c8, by omega, by first | rfl | go_num, rfl, Lib.hid (by rw [HNS.out]; exact O8.out), Lib.hid (by rw [HNX.out]; exact M8.out), B8⟩
          case measure => simp [intOf]; omega
      · have HT := Lib.hid ho
        have HNX := Lib.hid (HPY.out ho)
        obtain ⟨v, hv⟩ : ∃ v, lvV s r L T y - x = v := ⟨_, rfl⟩
        rw [hv] at HNX
        have HV := Lib.hid hv
        clear hv
        have HNS : Hid (paN s r l t xs ys (k + 1) = paN s r l t xs ys k ++ [1]) := Lib.hid (by rw [HN2.out, HT.out]; rfl)
        clear ho
        go_wp2_with (fail)
        go_region_held3 (fun w' => w'.cell? ⟨w.heap.size, 0, none⟩ = some (.int .i64 s) ∧ w'.cell? ⟨w.heap.size, 1, none⟩ = some (.int .i64 r) ∧ w'.cell? ⟨w.heap.size, 2, none⟩ = some (.int .i64 L) ∧ w'.cell? ⟨w.heap.size, 3, none⟩ = some (.int .i64 T) ∧ w'.cell? ⟨g', off' + k, none⟩ = some (.int .i64 y) ∧ w'.cell? ⟨g, off + k, none⟩ = some (.int .i64 x))
          (refine And.intro ?_ (And.intro ?_ (And.intro ?_ (And.intro ?_ (And.intro ?_ ?_)))) <;> ((first | with_reducible refine cell_up (w := wr) ?_ m0 | with_reducible refine cell_up (w := wr) ?_ m1 | with_reducible refine cell_up (w := wr) ?_ m2 | with_reducible refine cell_up (w := wr) ?_ m3 | with_reducible refine cell_up (w := wr) ?_ hc' | with_reducible refine cell_up (w := wr) ?_ hc); (repeat' (first | with_reducible exact HW.out | with_reducible exact Below.refl _ _ | with_reducible refine Below.drew ?_ | with_reducible refine Below.setCell ?_ (by first | omega | (simp; done) | (simp; omega)) _ | with_reducible refine Below.alloc ?_ (by first | omega | (simp; done) | (simp; omega)) _))))
          (first
            | (go_at_call 21; go_must (refine (tk_yes (spec_TakeFrom_any s r L T x y _) HT.out HV.out).mono ?_; rintro e w6 ⟨rfl, hb⟩; have HW : Hid (Below wr.heap.size wr w6) := Lib.hid (by first | exact hb | exact (Below.refl wr.heap.size wr).drew.trans hb | exact below_then (below_new wr (.cells #[.int .i64 0, .int .i64 0, .int .i64 0, .int .i64 0] 24)) hb | exact below_then (Below.drew (below_new wr (.cells #[.int .i64 0, .int .i64 0, .int .i64 0, .int .i64 0] 24))) hb); (try (have N0 : Hid (Blk w6 wr.heap.size 24 #[.int .i64 0, .int .i64 0, .int .i64 0, .int .i64 0]) := Lib.hid (Blk.on (by first | exact Blk.new wr _ _ | exact (Blk.new wr _ _).drew) hb); have n0 := N0.out.frozen 0; have n1 := N0.out.frozen 1; have n2 := N0.out.frozen 2; have n3 := N0.out.frozen 3; obtain ⟨k0, k1, k2, k3⟩ := N0.out.c4)); have zs6 := HW.out.size; clear hb)))
        · skip
          have BV : Hid (Below wr.heap.size wr (w6.alloc (.cells #[.int .i64 s, .int .i64 r, .int .i64 v, .int .i64 y] 24))) := Lib.hid (HW.out.alloc HW.out.size _)
          have N := Lib.hid (Blk.new w6 24 #[.int .i64 s, .int .i64 r, .int .i64 v, .int .i64 y])
          have hg0 : w.heap.size < w6.heap.size := by have h1 := HM.out.lt; have h2 := zs6; omega
          obtain ⟨V, eV⟩ : ∃ vv : World, vv = (w6.alloc (.cells #[.int .i64 s, .int .i64 r, .int .i64 v, .int .i64 y] 24)) := ⟨_, rfl⟩
          rw [← eV] at BV N ⊢
          clear eV
          obtain ⟨gn, hgn⟩ : ∃ z, z = w6.heap.size := ⟨_, rfl⟩
          have hg1 : wr.heap.size ≤ gn := by have h2 := zs6; omega
          rw [← hgn] at hg0 N ⊢
          clear hgn m0 m1 m2 m3 hc hc'
          have OV := Lib.hid (HO.out.below BV.out (Nat.le_refl _))
          have MV := Lib.hid (HM.out.on BV.out)
          have WV := Lib.hid (HB.out.trans (BV.out.mono HB.out.size))
          have hgl := N.out.lt
          have hol := HO.out.lt
          have hbv := BV.out.size
          obtain ⟨q0, q1, q2, q3⟩ := N.out.c4
          obtain ⟨r0, r1, r2, r3⟩ := MV.out.c4
          have f0 := MV.out.frozen 0
          have f1 := MV.out.frozen 1
          have f2 := MV.out.frozen 2
          have f3 := MV.out.frozen 3
          have MU := Lib.hid ((((MV.out.set_ 0 (.int .i64 s)).set_ 1 (.int .i64 r)).set_ 2 (.int .i64 v)).set_ 3 (.int .i64 y))
          have OU := Lib.hid ((((OV.out.setCell (p := ⟨w.heap.size, 0, none⟩) (by show w.heap.size < w.heap.size + 1; omega) (.int .i64 s)).setCell (p := ⟨w.heap.size, 1, none⟩) (by show w.heap.size < w.heap.size + 1; omega) (.int .i64 r)).setCell (p := ⟨w.heap.size, 2, none⟩) (by show w.heap.size < w.heap.size + 1; omega) (.int .i64 v)).setCell (p := ⟨w.heap.size, 3, none⟩) (by show w.heap.size < w.heap.size + 1; omega) (.int .i64 y))
          have WU := Lib.hid ((((WV.out.setCell (p := ⟨w.heap.size, 0, none⟩) (Nat.le_refl _) (.int .i64 s)).setCell (p := ⟨w.heap.size, 1, none⟩) (Nat.le_refl _) (.int .i64 r)).setCell (p := ⟨w.heap.size, 2, none⟩) (Nat.le_refl _) (.int .i64 v)).setCell (p := ⟨w.heap.size, 3, none⟩) (Nat.le_refl _) (.int .i64 y))
          obtain ⟨U, eU⟩ : ∃ u : World, u = ((((V.setCell ⟨w.heap.size, 0, none⟩ (.int .i64 s)).setCell ⟨w.heap.size, 1, none⟩ (.int .i64 r)).setCell ⟨w.heap.size, 2, none⟩ (.int .i64 v)).setCell ⟨w.heap.size, 3, none⟩ (.int .i64 y)) := ⟨_, rfl⟩
          rw [← eU] at MU OU WU
          have O7 := Lib.hid (OU.out.alloc (.cells #[.int .i64 1] 3))
          have SV : Hid (IS (U.alloc (.cells #[.int .i64 1] 3)) (some ⟨U.heap.size, 0, none⟩) 1 1 [1]) := Lib.hid (by simpa using (OW.lit U 3 0 [1] (by simp) (by simp)).is)
          have M7 := Lib.hid (MU.out.alloc (.cells #[.int .i64 1] 3))
          have B7 := Lib.hid (WU.out.alloc WU.out.size (.cells #[.int .i64 1] 3))
          have DM : Hid (Disj (some ⟨w.heap.size, 0, none⟩) A1) := Lib.hid (disj_bk (show w.heap.size < w.heap.size + 1 by omega) HO.out.ge)
          have hgeA : Hid (Ge A1 (w.heap.size + 1)) := Lib.hid HO.out.ge
          have hul : w.heap.size + 1 ≤ U.heap.size := by have := MU.out.lt; omega
          clear OV WV hol
          go_wp2_with (first | (go_at_call 22; rw [← eU]; clear eU; refine (spec_toInt_t _).mono ?_; rintro e w' ⟨rfl, rfl⟩) | (at_builtin; go_must (refine wpList_append_is _ rfl (.tmp 65) (.tmp 68) _ rfl (w.heap.size + 1) 3 infoInt Try.underlying25 _ _ _ _ rfl O7.out _ _ _ _ rfl SV.out (by omega) (by simp; omega) ?_); intro A8 c8 w8 hown8 hg8; have O8 := Lib.hid hown8; have G8 := Lib.hid (row_bk hg8); have M8 := Lib.hid (M7.out.away G8.out DM.out); have B8 := Lib.hid (below_row B7.out G8.out B7.out.size (hgeA.out.mono (by omega))); have hz8 := G8.out.size; simp at hz8; clear hown8 hg8))
          go_roundw
          case rel =>
            refine ⟨k + 1, A8, c8, by omega, by first | rfl | go_num, rfl, Lib.hid (by rw [HNS.out]; exact O8.out), Lib.hid (by rw [HNX.out]; exact M8.out), B8⟩
          case measure => simp [intOf]; omega
        · skip
          have BV : Hid (Below wr.heap.size wr ((((w6.setCell ⟨wr.heap.size, 0, none⟩ (.int .i64 s)).setCell ⟨wr.heap.size, 1, none⟩ (.int .i64 r)).setCell ⟨wr.heap.size, 2, none⟩ (.int .i64 v)).setCell ⟨wr.heap.size, 3, none⟩ (.int .i64 y))) := Lib.hid ((((HW.out.setCell (Nat.le_refl _) _).setCell (Nat.le_refl _) _).setCell (Nat.le_refl _) _).setCell (Nat.le_refl _) _)
          have N : Hid (Blk ((((w6.setCell ⟨wr.heap.size, 0, none⟩ (.int .i64 s)).setCell ⟨wr.heap.size, 1, none⟩ (.int .i64 r)).setCell ⟨wr.heap.size, 2, none⟩ (.int .i64 v)).setCell ⟨wr.heap.size, 3, none⟩ (.int .i64 y)) wr.heap.size 24 #[.int .i64 s, .int .i64 r, .int .i64 v, .int .i64 y]) := Lib.hid ((((N0.out.set_ 0 _).set_ 1 _).set_ 2 _).set_ 3 _)
          clear n0 n1 n2 n3 k0 k1 k2 k3 N0
          have hg0 : w.heap.size < wr.heap.size := by have h1 := HM.out.lt; have h2 := zs6; omega
          obtain ⟨V, eV⟩ : ∃ vv : World, vv = ((((w6.setCell ⟨wr.heap.size, 0, none⟩ (.int .i64 s)).setCell ⟨wr.heap.size, 1, none⟩ (.int .i64 r)).setCell ⟨wr.heap.size, 2, none⟩ (.int .i64 v)).setCell ⟨wr.heap.size, 3, none⟩ (.int .i64 y)) := ⟨_, rfl⟩
          rw [← eV] at BV N ⊢
          clear eV
          obtain ⟨gn, hgn⟩ : ∃ z, z = wr.heap.size := ⟨_, rfl⟩
          have hg1 : wr.heap.size ≤ gn := by have h2 := zs6; omega
          rw [← hgn] at hg0 N ⊢
          clear hgn m0 m1 m2 m3 hc hc'
          have OV := Lib.hid (HO.out.below BV.out (Nat.le_refl _))
          have MV := Lib.hid (HM.out.on BV.out)
          have WV := Lib.hid (HB.out.trans (BV.out.mono HB.out.size))
          have hgl := N.out.lt
          have hol := HO.out.lt
          have hbv := BV.out.size
          obtain ⟨q0, q1, q2, q3⟩ := N.out.c4
          obtain ⟨r0, r1, r2, r3⟩ := MV.out.c4
          have f0 := MV.out.frozen 0
          have f1 := MV.out.frozen 1
          have f2 := MV.out.frozen 2
          have f3 := MV.out.frozen 3
          have MU := Lib.hid ((((MV.out.set_ 0 (.int .i64 s)).set_ 1 (.int .i64 r)).set_ 2 (.int .i64 v)).set_ 3 (.int .i64 y))
          have OU := Lib.hid ((((OV.out.setCell (p := ⟨w.heap.size, 0, none⟩) (by show w.heap.size < w.heap.size + 1; omega) (.int .i64 s)).setCell (p := ⟨w.heap.size, 1, none⟩) (by show w.heap.size < w.heap.size + 1; omega) (.int .i64 r)).setCell (p := ⟨w.heap.size, 2, none⟩) (by show w.heap.size < w.heap.size + 1; omega) (.int .i64 v)).setCell (p := ⟨w.heap.size, 3, none⟩) (by show w.heap.size < w.heap.size + 1; omega) (.int .i64 y))
          have WU := Lib.hid ((((WV.out.setCell (p := ⟨w.heap.size, 0, none⟩) (Nat.le_refl _) (.int .i64 s)).setCell (p := ⟨w.heap.size, 1, none⟩) (Nat.le_refl _) (.int .i64 r)).setCell (p := ⟨w.heap.size, 2, none⟩) (Nat.le_refl _) (.int .i64 v)).setCell (p := ⟨w.heap.size, 3, none⟩) (Nat.le_refl _) (.int .i64 y))
          obtain ⟨U, eU⟩ : ∃ u : World, u = ((((V.setCell ⟨w.heap.size, 0, none⟩ (.int .i64 s)).setCell ⟨w.heap.size, 1, none⟩ (.int .i64 r)).setCell ⟨w.heap.size, 2, none⟩ (.int .i64 v)).setCell ⟨w.heap.size, 3, none⟩ (.int .i64 y)) := ⟨_, rfl⟩
          rw [← eU] at MU OU WU
          have O7 := Lib.hid (OU.out.alloc (.cells #[.int .i64 1] 3))
          have SV : Hid (IS (U.alloc (.cells #[.int .i64 1] 3)) (some ⟨U.heap.size, 0, none⟩) 1 1 [1]) := Lib.hid (by simpa using (OW.lit U 3 0 [1] (by simp) (by simp)).is)
          have M7 := Lib.hid (MU.out.alloc (.cells #[.int .i64 1] 3))
          have B7 := Lib.hid (WU.out.alloc WU.out.size (.cells #[.int .i64 1] 3))
          have DM : Hid (Disj (some ⟨w.heap.size, 0, none⟩) A1) := Lib.hid (disj_bk (show w.heap.size < w.heap.size + 1 by omega) HO.out.ge)
          have hgeA : Hid (Ge A1 (w.heap.size + 1)) := Lib.hid HO.out.ge
          have hul : w.heap.size + 1 ≤ U.heap.size := by have := MU.out.lt; omega
          clear OV WV hol
          go_wp2_with (first | (go_at_call 22; rw [← eU]; clear eU; refine (spec_toInt_t _).mono ?_; rintro e w' ⟨rfl, rfl⟩) | (at_builtin; go_must (refine wpList_append_is _ rfl (.tmp 65) (.tmp 68) _ rfl (w.heap.size + 1) 3 infoInt Try.underlying25 _ _ _ _ rfl O7.out _ _ _ _ rfl SV.out (by omega) (by simp; omega) ?_); intro A8 c8 w8 hown8 hg8; have O8 := Lib.hid hown8; have G8 := Lib.hid (row_bk hg8); have M8 := Lib.hid (M7.out.away G8.out DM.out); have B8 := Lib.hid (below_row B7.out G8.out B7.out.size (hgeA.out.mono (by omega))); have hz8 := G8.out.size; simp at hz8; clear hown8 hg8))
          go_roundw
          case rel =>
            refine ⟨k + 1, A8, c8, by omega, by first | rfl | go_num, rfl, Lib.hid (by rw [HNS.out]; exact O8.out), Lib.hid (by rw [HNX.out]; exact M8.out), B8⟩
          case measure => simp [intOf]; omega
    · have hlt' : ¬ (k : Int) < (n : Int) := by omega
      obtain rfl : k = n := by omega
      go_wp2_with (fail)
      go_ret
      refine ⟨A1, k, c1, rfl, ?_, HB.out⟩
      rw [paL_t HQ.out, HL.out]
      exact HO.out.base_le (by omega)
end Go.Proofs.Ytokajigaicdffaa
