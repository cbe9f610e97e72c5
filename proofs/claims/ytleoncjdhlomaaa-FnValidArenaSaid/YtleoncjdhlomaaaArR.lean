/-
  Contracts of arenas: a block laid.
-/
import Derived.Test.YtleoncjdhlomaaaArQ
import Derived.Test.YtleoncjdhlomaaaArE
namespace Go.Proofs.Ytleoncjdhlomaaa
open Go.RowKit
attribute [local go_sem ↓] Go.wp_at_zero Go.wp_at_succ
theorem SlT.three {w : World} {b : Nat} {A A2 A3 : Option Addr} {n c n2 c2 n3 c3 : Nat} {x y z : List Tr} (hc : w.cell? ⟨b, 0, none⟩ = some (.slice A n c)) (hc2 : w.cell? ⟨b, 1, none⟩ = some (.slice A2 n2 c2)) (hc3 : w.cell? ⟨b, 2, none⟩ = some (.slice A3 n3 c3)) (hi : TS w A n c x) (hi2 : TS w A2 n2 c2 y) (hi3 : TS w A3 n3 c3 z) :
    SlT w (some ⟨b, 0, none⟩) 3 [x, y, z] := by
  refine ⟨rfl, fun j hj => ?_⟩
  rcases (by omega : j = 0 ∨ j = 1 ∨ j = 2) with rfl | rfl | rfl
  · exact ⟨b, 0, A, n, c, x, rfl, rfl, hc, hi⟩
  · exact ⟨b, 0, A2, n2, c2, y, rfl, rfl, by simpa using hc2, hi2⟩
  · exact ⟨b, 0, A3, n3, c3, z, rfl, rfl, by simpa using hc3, hi3⟩
theorem flat3 {w : World} {T base : Nat} {A : Option Addr} {n c : Nat} {x y z : List Tr} (h : OT w T base A n c [x, y, z].flatten) : OT w T base A n c (x ++ y ++ z) := by simpa using h
set_option maxHeartbeats 8000000 in
theorem impl_AllocBlock_any {A : Option Addr} {n c : Nat} {xs : List Tr} (s nm sz : Int) (w : World) (h : TS w A n c xs) :
    Calls Try.prog 18 #[.agg #[.int .i64 s, .slice A n c], .int .i64 nm, .int .i64 sz] w (GaveArB 39 w (alS s xs nm sz) (alX s xs nm sz) (alOK s xs nm sz)) := by
  have hl := h.len
  have hcap := h.cap
  have H := Lib.hid h
  clear h
  rcases hv : validA s xs with _ | _
  · clear hl
    go_enter Try.func18, Try.ntmps18
    go_wp2_with (fail)
    refine (call_b (impl_ValidArena_any s _ ((H.out.alloc _).alloc _)) hv).mono ?_
    rintro e w1 ⟨rfl, hb⟩
    have B1 := Lib.hid (Below.trans (((Below.refl w.heap.size w).alloc (Nat.le_refl _) _).alloc (by simp) _) (hb.mono (by simp; try omega)))
    have P1 : Hid (Blk w1 w.heap.size 25 #[.int .i64 s, .slice A n c]) := Lib.hid (((Blk.new w _ _).alloc _).on hb)
    have Q1 : Hid (Blk w1 (w.heap.size + 1) 25 #[.int .i64 0, .slice none 0 0]) := Lib.hid ((by simpa using Blk.new (w.alloc (.cells #[.int .i64 s, .slice A n c] 25)) 25 #[.int .i64 0, .slice none 0 0] : Blk _ (w.heap.size + 1) _ _).on hb)
    have T1 := Lib.hid (((H.out.alloc _).alloc _).below hb (Nat.le_refl _))
    have hz1 := hb.size
    simp at hz1
    clear hb
    obtain ⟨p0, p1⟩ := P1.out.c2
    obtain ⟨q0, q1⟩ := Q1.out.c2
    have f0 := Q1.out.frozen 0
    have f1 := Q1.out.frozen 1
    go_wp2_with (fail)
    refine bodyPost_ret (v := .tuple #[.agg #[.int .i64 0, .slice none 0 0], .bool false]) (by simp [results, Try.results18, go_sem, q0, q1]) rfl ?_
    refine gaveAl_f (by simp [alOK, hv]) ?_
    repeat' (first | with_reducible exact B1.out | refine Below.setCell ?_ ?_ _ | (show w.heap.size ≤ _; first | omega | (simp; done) | (simp; omega)))
  obtain ⟨h10, _⟩ := validA_used hv
  have hn : n ≤ 10 := by omega
  have HV := Lib.hid hv
  have HL := Lib.hid hl
  clear hl h10 hv
  rcases hnm : inR nm 0 99 with _ | _
  · have HN := Lib.hid hnm
    clear hnm
    go_enter Try.func18, Try.ntmps18
    go_wp2_with (fail)
    refine (call_b (impl_ValidArena_any s _ ((H.out.alloc _).alloc _)) HV.out).mono ?_
    rintro e w1 ⟨rfl, hb⟩
    have B1 := Lib.hid (Below.trans (((Below.refl w.heap.size w).alloc (Nat.le_refl _) _).alloc (by simp) _) (hb.mono (by simp; try omega)))
    have P1 : Hid (Blk w1 w.heap.size 25 #[.int .i64 s, .slice A n c]) := Lib.hid (((Blk.new w _ _).alloc _).on hb)
    have Q1 : Hid (Blk w1 (w.heap.size + 1) 25 #[.int .i64 0, .slice none 0 0]) := Lib.hid ((by simpa using Blk.new (w.alloc (.cells #[.int .i64 s, .slice A n c] 25)) 25 #[.int .i64 0, .slice none 0 0] : Blk _ (w.heap.size + 1) _ _).on hb)
    have T1 := Lib.hid (((H.out.alloc _).alloc _).below hb (Nat.le_refl _))
    have hz1 := hb.size
    simp at hz1
    clear hb
    obtain ⟨p0, p1⟩ := P1.out.c2
    go_wp2_with (fail)
    refine (call_b (impl_within_any nm 0 99 _) HN.out).mono ?_
    rintro e w' ⟨rfl, rfl⟩
    obtain ⟨q0, q1⟩ := Q1.out.c2
    have f0 := Q1.out.frozen 0
    have f1 := Q1.out.frozen 1
    go_wp2_with (fail)
    refine bodyPost_ret (v := .tuple #[.agg #[.int .i64 0, .slice none 0 0], .bool false]) (by simp [results, Try.results18, go_sem, q0, q1]) rfl ?_
    refine gaveAl_f (by simp [alOK, HN.out]) ?_
    repeat' (first | with_reducible exact B1.out | refine Below.setCell ?_ ?_ _ | (show w.heap.size ≤ _; first | omega | (simp; done) | (simp; omega)))
  have HN := Lib.hid hnm
  clear hnm
  rcases hsz : inR sz 1 64 with _ | _
  · have HS := Lib.hid hsz
    clear hsz
    go_enter Try.func18, Try.ntmps18
    go_wp2_with (fail)
    refine (call_b (impl_ValidArena_any s _ ((H.out.alloc _).alloc _)) HV.out).mono ?_
    rintro e w1 ⟨rfl, hb⟩
    have B1 := Lib.hid (Below.trans (((Below.refl w.heap.size w).alloc (Nat.le_refl _) _).alloc (by simp) _) (hb.mono (by simp; try omega)))
    have P1 : Hid (Blk w1 w.heap.size 25 #[.int .i64 s, .slice A n c]) := Lib.hid (((Blk.new w _ _).alloc _).on hb)
    have Q1 : Hid (Blk w1 (w.heap.size + 1) 25 #[.int .i64 0, .slice none 0 0]) := Lib.hid ((by simpa using Blk.new (w.alloc (.cells #[.int .i64 s, .slice A n c] 25)) 25 #[.int .i64 0, .slice none 0 0] : Blk _ (w.heap.size + 1) _ _).on hb)
    have T1 := Lib.hid (((H.out.alloc _).alloc _).below hb (Nat.le_refl _))
    have hz1 := hb.size
    simp at hz1
    clear hb
    obtain ⟨p0, p1⟩ := P1.out.c2
    go_wp2_with (fail)
    refine (call_b (impl_within_any nm 0 99 _) HN.out).mono ?_
    rintro e w' ⟨rfl, rfl⟩
    go_wp2_with (fail)
    refine (call_b (impl_within_any sz 1 64 _) HS.out).mono ?_
    rintro e w' ⟨rfl, rfl⟩
    obtain ⟨q0, q1⟩ := Q1.out.c2
    have f0 := Q1.out.frozen 0
    have f1 := Q1.out.frozen 1
    go_wp2_with (fail)
    refine bodyPost_ret (v := .tuple #[.agg #[.int .i64 0, .slice none 0 0], .bool false]) (by simp [results, Try.results18, go_sem, q0, q1]) rfl ?_
    refine gaveAl_f (by simp [alOK, HS.out]) ?_
    repeat' (first | with_reducible exact B1.out | refine Below.setCell ?_ ?_ _ | (show w.heap.size ≤ _; first | omega | (simp; done) | (simp; omega)))
  have HS := Lib.hid hsz
  clear hsz
  by_cases hw : whereA nm xs < xs.length
  · obtain ⟨K, hK⟩ : ∃ K : Nat, K = whereA nm xs := ⟨_, rfl⟩
    have E1 : Hid (namedA nm xs = (K : Int)) := Lib.hid (by rw [named_eq hw, hK])
    have hk0 : (0 : Int) ≤ (K : Int) := by omega
    have HW := Lib.hid hw
    clear hK hw
    go_enter Try.func18, Try.ntmps18
    go_wp2_with (fail)
    refine (call_b (impl_ValidArena_any s _ ((H.out.alloc _).alloc _)) HV.out).mono ?_
    rintro e w1 ⟨rfl, hb⟩
    have B1 := Lib.hid (Below.trans (((Below.refl w.heap.size w).alloc (Nat.le_refl _) _).alloc (by simp) _) (hb.mono (by simp; try omega)))
    have P1 : Hid (Blk w1 w.heap.size 25 #[.int .i64 s, .slice A n c]) := Lib.hid (((Blk.new w _ _).alloc _).on hb)
    have Q1 : Hid (Blk w1 (w.heap.size + 1) 25 #[.int .i64 0, .slice none 0 0]) := Lib.hid ((by simpa using Blk.new (w.alloc (.cells #[.int .i64 s, .slice A n c] 25)) 25 #[.int .i64 0, .slice none 0 0] : Blk _ (w.heap.size + 1) _ _).on hb)
    have T1 := Lib.hid (((H.out.alloc _).alloc _).below hb (Nat.le_refl _))
    have hz1 := hb.size
    simp at hz1
    clear hb
    obtain ⟨p0, p1⟩ := P1.out.c2
    go_wp2_with (fail)
    refine (call_b (impl_within_any nm 0 99 _) HN.out).mono ?_
    rintro e w' ⟨rfl, rfl⟩
    go_wp2_with (fail)
    refine (call_b (impl_within_any sz 1 64 _) HS.out).mono ?_
    rintro e w' ⟨rfl, rfl⟩
    go_wp2_with (fail)
    refine (call_int (impl_placeOfName_any s nm _ T1.out (by omega)) E1.out).mono ?_
    rintro e w2 ⟨rfl, hb⟩
    have B2 := Lib.hid (B1.out.trans (hb.mono B1.out.size))
    have P2 := Lib.hid (P1.out.on hb)
    have Q2 := Lib.hid (Q1.out.on hb)
    have T2 := Lib.hid (T1.out.below hb (Nat.le_refl _))
    have hz2 := hb.size
    clear hb p0 p1
    obtain ⟨p0, p1⟩ := P2.out.c2
    obtain ⟨q0, q1⟩ := Q2.out.c2
    have f0 := Q2.out.frozen 0
    have f1 := Q2.out.frozen 1
    go_wp2_with (fail)
    refine bodyPost_ret (v := .tuple #[.agg #[.int .i64 0, .slice none 0 0], .bool false]) (by simp [results, Try.results18, go_sem, q0, q1]) rfl ?_
    refine gaveAl_f (by simp [alOK, HW.out]) ?_
    repeat' (first | with_reducible exact B2.out | refine Below.setCell ?_ ?_ _ | (show w.heap.size ≤ _; first | omega | (simp; done) | (simp; omega)))
  have E1 : Hid (namedA nm xs = -1) := Lib.hid (by simp [namedA, hw])
  have HW := Lib.hid hw
  clear hw
  by_cases h10 : n = 10
  · have h10i : (n : Int) = 10 := by omega
    have h10b : ((n : Int) == 10) = true := by simp [h10i]
    have HT : Hid (xs.length = 10) := Lib.hid (by have := HL.out; omega)
    clear h10
    go_enter Try.func18, Try.ntmps18
    go_wp2_with (fail)
    refine (call_b (impl_ValidArena_any s _ ((H.out.alloc _).alloc _)) HV.out).mono ?_
    rintro e w1 ⟨rfl, hb⟩
    have B1 := Lib.hid (Below.trans (((Below.refl w.heap.size w).alloc (Nat.le_refl _) _).alloc (by simp) _) (hb.mono (by simp; try omega)))
    have P1 : Hid (Blk w1 w.heap.size 25 #[.int .i64 s, .slice A n c]) := Lib.hid (((Blk.new w _ _).alloc _).on hb)
    have Q1 : Hid (Blk w1 (w.heap.size + 1) 25 #[.int .i64 0, .slice none 0 0]) := Lib.hid ((by simpa using Blk.new (w.alloc (.cells #[.int .i64 s, .slice A n c] 25)) 25 #[.int .i64 0, .slice none 0 0] : Blk _ (w.heap.size + 1) _ _).on hb)
    have T1 := Lib.hid (((H.out.alloc _).alloc _).below hb (Nat.le_refl _))
    have hz1 := hb.size
    simp at hz1
    clear hb
    obtain ⟨p0, p1⟩ := P1.out.c2
    go_wp2_with (fail)
    refine (call_b (impl_within_any nm 0 99 _) HN.out).mono ?_
    rintro e w' ⟨rfl, rfl⟩
    go_wp2_with (fail)
    refine (call_b (impl_within_any sz 1 64 _) HS.out).mono ?_
    rintro e w' ⟨rfl, rfl⟩
    go_wp2_with (fail)
    refine (call_int (impl_placeOfName_any s nm _ T1.out (by omega)) E1.out).mono ?_
    rintro e w2 ⟨rfl, hb⟩
    have B2 := Lib.hid (B1.out.trans (hb.mono B1.out.size))
    have P2 := Lib.hid (P1.out.on hb)
    have Q2 := Lib.hid (Q1.out.on hb)
    have T2 := Lib.hid (T1.out.below hb (Nat.le_refl _))
    have hz2 := hb.size
    clear hb p0 p1
    obtain ⟨p0, p1⟩ := P2.out.c2
    obtain ⟨q0, q1⟩ := Q2.out.c2
    have f0 := Q2.out.frozen 0
    have f1 := Q2.out.frozen 1
    go_wp2_with (fail)
    refine bodyPost_ret (v := .tuple #[.agg #[.int .i64 0, .slice none 0 0], .bool false]) (by simp [results, Try.results18, go_sem, q0, q1]) rfl ?_
    refine gaveAl_f (by simp [alOK, HT.out]) ?_
    repeat' (first | with_reducible exact B2.out | refine Below.setCell ?_ ?_ _ | (show w.heap.size ≤ _; first | omega | (simp; done) | (simp; omega)))
  have h10i : ¬ (n : Int) = 10 := by omega
  have HT : Hid (¬ xs.length = 10) := Lib.hid (by have := HL.out; omega)
  go_enter Try.func18, Try.ntmps18
  go_wp2_with (fail)
  refine (call_b (impl_ValidArena_any s _ ((H.out.alloc _).alloc _)) HV.out).mono ?_
  rintro e w1 ⟨rfl, hb⟩
  have B1 := Lib.hid (Below.trans (((Below.refl w.heap.size w).alloc (Nat.le_refl _) _).alloc (by simp) _) (hb.mono (by simp; try omega)))
  have P1 : Hid (Blk w1 w.heap.size 25 #[.int .i64 s, .slice A n c]) := Lib.hid (((Blk.new w _ _).alloc _).on hb)
  have Q1 : Hid (Blk w1 (w.heap.size + 1) 25 #[.int .i64 0, .slice none 0 0]) := Lib.hid ((by simpa using Blk.new (w.alloc (.cells #[.int .i64 s, .slice A n c] 25)) 25 #[.int .i64 0, .slice none 0 0] : Blk _ (w.heap.size + 1) _ _).on hb)
  have T1 := Lib.hid (((H.out.alloc _).alloc _).below hb (Nat.le_refl _))
  have hz1 := hb.size
  simp at hz1
  clear hb
  obtain ⟨p0, p1⟩ := P1.out.c2
  go_wp2_with (fail)
  refine (call_b (impl_within_any nm 0 99 _) HN.out).mono ?_
  rintro e w' ⟨rfl, rfl⟩
  go_wp2_with (fail)
  refine (call_b (impl_within_any sz 1 64 _) HS.out).mono ?_
  rintro e w' ⟨rfl, rfl⟩
  go_wp2_with (fail)
  refine (call_int (impl_placeOfName_any s nm _ T1.out (by omega)) E1.out).mono ?_
  rintro e w2 ⟨rfl, hb⟩
  have B2 := Lib.hid (B1.out.trans (hb.mono B1.out.size))
  have P2 := Lib.hid (P1.out.on hb)
  have Q2 := Lib.hid (Q1.out.on hb)
  have T2 := Lib.hid (T1.out.below hb (Nat.le_refl _))
  have hz2 := hb.size
  clear hb p0 p1
  obtain ⟨p0, p1⟩ := P2.out.c2
  go_wp2_with (fail)
  refine (impl_freeList_any s _ T2.out HV.out).mono ?_
  rintro e w3 ⟨A5, n5, c5, rfl, ho, hb⟩
  obtain rfl : n5 = n + 1 := by have h1 := ho.len; rw [gapsA_len] at h1; have := HL.out; omega
  have O5 := Lib.hid ho
  have B3 := Lib.hid (B2.out.trans (hb.mono B2.out.size))
  have P3 := Lib.hid (P2.out.on hb)
  have Q3 := Lib.hid (Q2.out.on hb)
  have T3 := Lib.hid (T2.out.below hb (Nat.le_refl _))
  have hz3 := hb.size
  clear ho hb p0 p1
  have hpl : w.heap.size < w3.heap.size := by omega
  have hql : w.heap.size + 1 < w3.heap.size := by omega
  go_wp2_with (fail)
  go_loopw [39] (fun i wr => ∃ k : Nat, k ≤ n + 1 ∧ i = .int .i64 k ∧ Hid (∀ j, j < k → ∀ y, (gapsA s xs)[j]? = some y → y.2 < sz) ∧ Hid (Below w3.heap.size w3 wr)) (fun i _ => n + 1 - (intOf i).toNat)
  case atStart => exact ⟨0, by omega, rfl, Lib.hid (fun j hj => absurd hj (by omega)), Lib.hid (Below.refl _ _)⟩
  case round =>
    obtain ⟨k, hk, rfl, HP, HB⟩ := hrel
    have next : ∀ g : Int × Int, (gapsA s xs)[k]? = some g → g.2 < sz → ∀ j, j < k + 1 → ∀ y, (gapsA s xs)[j]? = some y → y.2 < sz := fun g hg hlt j hj y hy => by
      rcases Nat.lt_or_ge j k with h1 | h1
      · exact HP.out j h1 y hy
      · obtain rfl : j = k := by omega
        obtain rfl : g = y := by rw [hg] at hy; injection hy
        exact hlt
    have NX := Lib.hid next
    clear next
    have hzr := HB.out.size
    have BR := Lib.hid (B3.out.trans (HB.out.mono B3.out.size))
    have PR := Lib.hid (P3.out.on HB.out)
    have QR := Lib.hid (Q3.out.on HB.out)
    have TR := Lib.hid (T3.out.below HB.out (Nat.le_refl _))
    have OR := Lib.hid (O5.out.below HB.out (Nat.le_refl _))
    by_cases hlt : k < n + 1
    · obtain ⟨g, x, rfl, hx, hg, ca, cb⟩ := OR.out.at_ hlt
      have HX := Lib.hid hx
      have hki : (k : Int) < (n : Int) + 1 := by omega
      have hki0 : (0 : Int) ≤ (k : Int) := by omega
      obtain ⟨y, z⟩ := x
      clear hx
      simp only at ca cb
      by_cases hf : sz ≤ z
      · have hkn : k ≤ n := by omega
        obtain ⟨e1, e2⟩ := fit_vals HX.out (fit_at HX.out hf HP.out)
        have HF := Lib.hid (fit_at HX.out hf HP.out)
        have HPl := Lib.hid e2
        clear e1 e2
        rcases A with _ | ⟨b, off, sp⟩
        · have hc0 : c = 0 := H.out.2.2.2.2 rfl
          have hn0 : n = 0 := by have := H.out.2.1; omega
          have hK0 : k = 0 := by omega
          subst hc0 hn0 hK0
          go_upto_region 10 with (fail)
          obtain ⟨W, eW⟩ : ∃ v : World, v = (wr.alloc (.cells #[.int .i64 y, .int .i64 z] 59)).alloc (.cells #[.int .i64 nm, .int .i64 y, .int .i64 sz] 39) := ⟨_, rfl⟩
          have PW : Hid (Blk W w.heap.size 25 #[.int .i64 s, .slice none 0 0]) := Lib.hid (by rw [eW]; exact (PR.out.alloc _).alloc _)
          have QW : Hid (Blk W (w.heap.size + 1) 25 #[.int .i64 0, .slice none 0 0]) := Lib.hid (by rw [eW]; exact (QR.out.alloc _).alloc _)
          have TW : Hid (TS W none 0 0 xs) := Lib.hid (by rw [eW]; exact (TR.out.alloc _).alloc _)
          have NW : Hid (TS W (some ⟨wr.heap.size + 1, 0, none⟩) 1 1 [⟨nm, y, sz⟩]) := Lib.hid (by rw [eW]; have h := (OT.lit (wr.alloc (.cells #[.int .i64 y, .int .i64 z] 59)) 39 0 [⟨nm, y, sz⟩] (by simp) (by simp)).ts; simpa [cellsT] using h)
          have BW : Hid (Below w.heap.size w W) := Lib.hid (by rw [eW]; exact (BR.out.alloc BR.out.size _).alloc (by simp; have := BR.out.size; omega) _)
          have hzW : wr.heap.size + 2 ≤ W.heap.size := by rw [eW]; simp
          have hplW : w.heap.size < W.heap.size := by omega
          have hqlW : w.heap.size + 1 < W.heap.size := by omega
          rw [← eW]
          clear eW
          obtain ⟨p0, p1⟩ := PW.out.c2
          have HT4 : Hid (TS W none 0 0 (xs.take 0)) := Lib.hid (TW.out.firstN (by omega))
          have T7 : Hid (TS W none 0 0 (xs.drop 0)) := Lib.hid (by simpa using TW.out)
          have hcat : catTN [xs.take 0, [⟨nm, y, sz⟩], xs.drop 0] ≤ 536870912 := by
            simp [catTN]
            have := HL.out
            omega
          go_region_held3 (fun w' => w'.cell? ⟨w.heap.size, 0, none⟩ = some (.int .i64 s) ∧ w'.cell? ⟨w.heap.size, 1, none⟩ = some (.slice none 0 0)) (refine And.intro ?_ ?_ <;> (repeat (with_reducible refine cell_setB (by show w.heap.size ≠ w.heap.size + 1; omega) ?_)) <;> first | (refine cell_up (w := W) ?_ p0 <;> (repeat' (first | with_reducible exact W4.out | exact Below.refl _ _ | refine Below.drew ?_ | refine Below.alloc ?_ ?_ _ | omega | (simp; done) | (simp; omega)))) | (refine cell_up (w := W) ?_ p1 <;> (repeat' (first | with_reducible exact W4.out | exact Below.refl _ _ | refine Below.drew ?_ | refine Below.alloc ?_ ?_ _ | omega | (simp; done) | (simp; omega)))))
            ((go_at_call 44; go_must (refine (concatT_any (X := [xs.take 0, [⟨nm, y, sz⟩], xs.drop 0]) _ ?_ (by omega) hcat).mono ?_; (focus (exact SlT.three (Blk.new _ _ _).c3.1 (Blk.new _ _ _).c3.2.1 (Blk.new _ _ _).c3.2.2 (HT4.out.below (by repeat (first | exact Below.refl _ _ | refine Below.drew ?_ | refine Below.alloc ?_ (by simp; try omega) _)) (Nat.le_refl _)) (NW.out.below (by repeat (first | exact Below.refl _ _ | refine Below.drew ?_ | refine Below.alloc ?_ (by simp; try omega) _)) (Nat.le_refl _)) (T7.out.below (by repeat (first | exact Below.refl _ _ | refine Below.drew ?_ | refine Below.alloc ?_ (by simp; try omega) _)) (Nat.le_refl _)))); rintro e w4 ⟨A4, n4, c4, rfl, ho, hb⟩; have O4 := Lib.hid (flat3 ho); have W4 := Lib.hid (below_then (a := W) (by repeat (first | exact Below.refl _ _ | refine Below.drew ?_ | refine Below.alloc ?_ (by simp; try omega) _)) hb); have Q4 := Lib.hid (QW.out.on W4.out); clear ho hb; obtain ⟨q0, q1⟩ := Q4.out.c2; have g0 := Q4.out.frozen 0; have g1 := Q4.out.frozen 1)))
          all_goals (
            rename_i KK hKK _
            show KK _ _
            refine hKK _ _ ?_
            go_wp2_with (fail)
            have QF := (Q4.out.set_ 0 (.int .i64 s)).set_ 1 (.slice A4 n4 c4)
            obtain ⟨z0, z1⟩ := (by simpa using QF : Blk _ _ 25 #[.int .i64 s, .slice A4 n4 c4]).c2
            refine bodyPost_ret (v := .tuple #[.agg #[.int .i64 s, .slice A4 n4 c4], .bool true]) (by simp [results, Try.results18, go_sem, z0, z1]) rfl ?_
            have hok : alOK s xs nm sz = true := by
              have hlt2 : fitA s xs sz < (gapsA s xs).length := by rw [HF.out, gapsA_len, HL.out]; omega
              simp [alOK, HV.out, HN.out, HW.out, HS.out, HT.out, hlt2]
            have B8 := BW.out.trans (W4.out.mono (Nat.le_of_lt hplW))
            refine ⟨A4, n4, c4, by simp only [alS, hok, if_true], ?_, (B8.setCell (by show w.heap.size ≤ w.heap.size + 1; omega) _).setCell (by show w.heap.size ≤ w.heap.size + 1; omega) _⟩
            simp only [alX, hok, if_true, HPl.out, HF.out]
            refine ((O4.out.setCell2 (.inl ?_) _).setCell2 (.inl ?_) _).base_le ?_ <;> first | (show w.heap.size + 1 < (W.alloc _).heap.size; simp; omega) | (show w.heap.size ≤ (W.alloc _).heap.size; simp; omega))
        have hnc := H.out.2.1
        have hki1 : (k : Int) ≤ (n : Int) := by omega
        have hkc : (k : Int) ≤ (c : Int) := by omega
        have hnci : (n : Int) ≤ (c : Int) := by omega
        go_upto_region 10 with (fail)
        obtain ⟨W, eW⟩ : ∃ v : World, v = (wr.alloc (.cells #[.int .i64 y, .int .i64 z] 59)).alloc (.cells #[.int .i64 nm, .int .i64 y, .int .i64 sz] 39) := ⟨_, rfl⟩
        have PW : Hid (Blk W w.heap.size 25 #[.int .i64 s, .slice (some ⟨b, off, sp⟩) n c]) := Lib.hid (by rw [eW]; exact (PR.out.alloc _).alloc _)
        have QW : Hid (Blk W (w.heap.size + 1) 25 #[.int .i64 0, .slice none 0 0]) := Lib.hid (by rw [eW]; exact (QR.out.alloc _).alloc _)
        have TW : Hid (TS W (some ⟨b, off, sp⟩) n c xs) := Lib.hid (by rw [eW]; exact (TR.out.alloc _).alloc _)
        have NW : Hid (TS W (some ⟨wr.heap.size + 1, 0, none⟩) 1 1 [⟨nm, y, sz⟩]) := Lib.hid (by rw [eW]; have h := (OT.lit (wr.alloc (.cells #[.int .i64 y, .int .i64 z] 59)) 39 0 [⟨nm, y, sz⟩] (by simp) (by simp)).ts; simpa [cellsT] using h)
        have BW : Hid (Below w.heap.size w W) := Lib.hid (by rw [eW]; exact (BR.out.alloc BR.out.size _).alloc (by simp; have := BR.out.size; omega) _)
        have hzW : wr.heap.size + 2 ≤ W.heap.size := by rw [eW]; simp
        have hplW : w.heap.size < W.heap.size := by omega
        have hqlW : w.heap.size + 1 < W.heap.size := by omega
        rw [← eW]
        clear eW
        obtain ⟨p0, p1⟩ := PW.out.c2
        have HT4 := Lib.hid (TW.out.firstN hkn)
        obtain ⟨AX, hAX⟩ : ∃ v, (if c = k then some (⟨b, off, sp⟩ : Addr) else some ((⟨b, off, sp⟩ : Addr).add (k * 3))) = v := ⟨_, rfl⟩
        have T7 : Hid (TS W AX (n - k) (c - k) (xs.drop k)) := Lib.hid (hAX ▸ TW.out.restN hkn)
        have hcat : catTN [xs.take k, [⟨nm, y, sz⟩], xs.drop k] ≤ 536870912 := by
          simp [catTN]
          have := HL.out
          omega
        go_region_held3 (fun w' => w'.cell? ⟨w.heap.size, 0, none⟩ = some (.int .i64 s) ∧ w'.cell? ⟨w.heap.size, 1, none⟩ = some (.slice (some ⟨b, off, sp⟩) n c)) (refine And.intro ?_ ?_ <;> (repeat (with_reducible refine cell_setB (by show w.heap.size ≠ w.heap.size + 1; omega) ?_)) <;> first | (refine cell_up (w := W) ?_ p0 <;> (repeat' (first | with_reducible exact W4.out | exact Below.refl _ _ | refine Below.drew ?_ | refine Below.alloc ?_ ?_ _ | omega | (simp; done) | (simp; omega)))) | (refine cell_up (w := W) ?_ p1 <;> (repeat' (first | with_reducible exact W4.out | exact Below.refl _ _ | refine Below.drew ?_ | refine Below.alloc ?_ ?_ _ | omega | (simp; done) | (simp; omega)))))
          ((go_at_call 44; go_must (refine (concatT_any (X := [xs.take k, [⟨nm, y, sz⟩], xs.drop k]) _ ?_ (by omega) hcat).mono ?_; (focus (exact SlT.three (Blk.new _ _ _).c3.1 (Blk.new _ _ _).c3.2.1 (Blk.new _ _ _).c3.2.2 (HT4.out.below (by repeat (first | exact Below.refl _ _ | refine Below.drew ?_ | refine Below.alloc ?_ (by simp; try omega) _)) (Nat.le_refl _)) (NW.out.below (by repeat (first | exact Below.refl _ _ | refine Below.drew ?_ | refine Below.alloc ?_ (by simp; try omega) _)) (Nat.le_refl _)) (T7.out.below (by repeat (first | exact Below.refl _ _ | refine Below.drew ?_ | refine Below.alloc ?_ (by simp; try omega) _)) (Nat.le_refl _)))); rintro e w4 ⟨A4, n4, c4, rfl, ho, hb⟩; have O4 := Lib.hid (flat3 ho); have W4 := Lib.hid (below_then (a := W) (by repeat (first | exact Below.refl _ _ | refine Below.drew ?_ | refine Below.alloc ?_ (by simp; try omega) _)) hb); have Q4 := Lib.hid (QW.out.on W4.out); clear ho hb; obtain ⟨q0, q1⟩ := Q4.out.c2; have g0 := Q4.out.frozen 0; have g1 := Q4.out.frozen 1)))
        all_goals (
          rename_i KK hKK _
          show KK _ _
          refine hKK _ _ ?_
          go_wp2_with (fail)
          have QF := (Q4.out.set_ 0 (.int .i64 s)).set_ 1 (.slice A4 n4 c4)
          obtain ⟨z0, z1⟩ := (by simpa using QF : Blk _ _ 25 #[.int .i64 s, .slice A4 n4 c4]).c2
          refine bodyPost_ret (v := .tuple #[.agg #[.int .i64 s, .slice A4 n4 c4], .bool true]) (by simp [results, Try.results18, go_sem, z0, z1]) rfl ?_
          have hok : alOK s xs nm sz = true := by
            have hlt2 : fitA s xs sz < (gapsA s xs).length := by rw [HF.out, gapsA_len, HL.out]; omega
            simp [alOK, HV.out, HN.out, HW.out, HS.out, HT.out, hlt2]
          have B8 := BW.out.trans (W4.out.mono (Nat.le_of_lt hplW))
          refine ⟨A4, n4, c4, by simp only [alS, hok, if_true], ?_, (B8.setCell (by show w.heap.size ≤ w.heap.size + 1; omega) _).setCell (by show w.heap.size ≤ w.heap.size + 1; omega) _⟩
          simp only [alX, hok, if_true, HPl.out, HF.out]
          refine ((O4.out.setCell2 (.inl ?_) _).setCell2 (.inl ?_) _).base_le ?_ <;> first | (show w.heap.size + 1 < (W.alloc _).heap.size; simp; omega) | (show w.heap.size ≤ (W.alloc _).heap.size; simp; omega))
      · go_wp2_with (fail)
        go_roundw
        case rel => exact ⟨k + 1, by omega, by go_num, Lib.hid (NX.out _ HX.out (by show z < sz; omega)), Lib.hid (HB.out.alloc HB.out.size _)⟩
        case measure => simp [intOf]; omega
    · have hki : ¬ (k : Int) < (n : Int) + 1 := by omega
      have HF : Hid (fitA s xs sz = (gapsA s xs).length) := Lib.hid (fit_none (by
        obtain rfl : k = n + 1 := by omega
        rw [gapsA_len, HL.out]; exact HP.out))
      obtain ⟨q0, q1⟩ := QR.out.c2
      have f0 := QR.out.frozen 0
      have f1 := QR.out.frozen 1
      go_wp2_with (fail)
      refine bodyPost_ret (v := .tuple #[.agg #[.int .i64 0, .slice none 0 0], .bool false]) (by simp [results, Try.results18, go_sem, q0, q1]) rfl ?_
      refine gaveAl_f (by simp [alOK, HF.out]) ?_
      repeat' (first | with_reducible exact BR.out | refine Below.setCell ?_ ?_ _ | (show w.heap.size ≤ _; first | omega | (simp; done) | (simp; omega)))
end Go.Proofs.Ytleoncjdhlomaaa
