/-
  The walk of FnQueueBytesPush. (Its words were written by a program of my own.)
-/
import Derived.Test.YtmlnaijpbfddaaaDrawQ
import Derived.Test.YtmlnaijpbfddaaaQuT
import Derived.Test.YtmlnaijpbfddaaaQuD
import Derived.Test.YtmlnaijpbfddaaaPoT
import Derived.Test.YtmlnaijpbfddaaaQuC
import Derived.Test.YtmlnaijpbfddaaaArF0
import Derived.Test.YtmlnaijpbfddaaaGenQ
import Derived.Test.YtmlnaijpbfddaaaQpM
import Derived.Deep.RegionHeld3
import Derived.Deep.DeepMust
import Derived.Deep.DeepCutAuto
namespace Go.Proofs.Ytmlnaijpbfddaaa
open Go.RowKit
-- CALL: W s0
set_option maxHeartbeats 4000000 in
theorem walk_FnQueueBytesPush {A : Option Addr} {n c : Nat} {zs : List Int} (w : World) (h : BS w A n c zs) :
    Calls Try.prog 4 #[.slice A n c] w fun e w' => e = .returned (.bool true) ∧ Below w.heap.size w w' := by
  have H := Lib.hid h
  clear h
  rcases Nat.lt_or_ge 1048576 n with h1 | h1
  · have h1' : (1048576 : Int) < (n : Int) := by omega
    go_enter Try.func4, Try.ntmps4
    go_wp2_with (fail)
    go_ret
    exact ⟨rfl, Below.refl _ _⟩
  have h1' : ¬ (1048576 : Int) < (n : Int) := by omega
  go_enter Try.func4, Try.ntmps4
  go_wp2_with (fail)
  refine (spec_DrawQueueBytes_any w H.out h1).mono ?_
  rintro e w1 ⟨xs, sh, db, t, A1, n1, c1, A2, n2, c2, A3, n3, c3, rfl, hn1, hn2, hn3, ⟨ht0, ht1⟩, i1, i2, i3, hb⟩
  have T1 := Lib.hid i1
  have S2 := Lib.hid i2
  have S3 := Lib.hid i3
  have B1 := Lib.hid hb
  have hz1 := B1.out.size
  clear hb i1 i2 i3
  replace T1 := Lib.hid (T1.out.alloc (.cells #[.slice A1 n1 c1, .slice A2 n2 c2, .slice A3 n3 c3, .int .i64 t] 26))
  replace S2 := Lib.hid (S2.out.alloc (.cells #[.slice A1 n1 c1, .slice A2 n2 c2, .slice A3 n3 c3, .int .i64 t] 26))
  replace S3 := Lib.hid (S3.out.alloc (.cells #[.slice A1 n1 c1, .slice A2 n2 c2, .slice A3 n3 c3, .int .i64 t] 26))
  replace B1 := Lib.hid (B1.out.alloc B1.out.size (.cells #[.slice A1 n1 c1, .slice A2 n2 c2, .slice A3 n3 c3, .int .i64 t] 26))
  have X := Lib.hid (Blk.new w1 26 #[.slice A1 n1 c1, .slice A2 n2 c2, .slice A3 n3 c3, .int .i64 t])
  obtain ⟨os, hos⟩ : ∃ os, quB xs sh db t = os := ⟨_, rfl⟩
  have HXL := Lib.hid T1.out.len
  have HOS := Lib.hid hos
  clear hos
  go_wp2_with (fail)
  refine (ints_at (impl_QueueBytes_any t _ T1.out S2.out S3.out) HOS.out).mono ?_
  rintro e w2 ⟨A4, n4, c4, rfl, ho, hb⟩
  have HL := Lib.hid ho.len
  replace T1 := Lib.hid (T1.out.below hb (Nat.le_refl _))
  replace S2 := Lib.hid (S2.out.below hb (Nat.le_refl _))
  replace S3 := Lib.hid (S3.out.below hb (Nat.le_refl _))
  replace X := Lib.hid (X.out.on hb)
  replace B1 := Lib.hid (B1.out.trans (hb.mono B1.out.size))
  clear hb
  have I1 := Lib.hid ho.is
  clear ho
  rcases hv : validQ xs sh db t with _ | _
  · skip
    rw [← HOS.out, quB_no hv] at HL
    obtain rfl : n4 = 0 := HL.out.symm
    obtain ⟨x0, x1, x2, x3⟩ := X.out.c4
    go_wp2_with (fail)
    refine (ints_at (spec_QueueBytes_any t _ T1.out S2.out S3.out) HOS.out).mono ?_
    clear x0 x1 x2 x3
    rintro e w3 ⟨A5, n5, c5, rfl, ho, hb⟩
    replace T1 := Lib.hid (T1.out.below hb (Nat.le_refl _))
    replace S2 := Lib.hid (S2.out.below hb (Nat.le_refl _))
    replace S3 := Lib.hid (S3.out.below hb (Nat.le_refl _))
    replace I1 := Lib.hid (I1.out.below hb (Nat.le_refl _))
    replace X := Lib.hid (X.out.on hb)
    replace B1 := Lib.hid (B1.out.trans (hb.mono B1.out.size))
    clear hb
    have K := Lib.hid ho.is
    clear ho
    go_wp2_with (fail)
    refine (call_b (laws_equalInts_any _ I1.out K.out) (decide_eq_true rfl)).mono ?_
    rintro e w4 ⟨rfl, mm, h4⟩
    replace T1 := Lib.hid (show TS w4 A1 n1 c1 xs by rw [h4]; exact T1.out.drewN mm)
    replace S2 := Lib.hid (show IS w4 A2 n2 c2 sh by rw [h4]; exact S2.out.drewN mm)
    replace S3 := Lib.hid (show IS w4 A3 n3 c3 db by rw [h4]; exact S3.out.drewN mm)
    replace I1 := Lib.hid (show IS w4 A4 0 c4 os by rw [h4]; exact I1.out.drewN mm)
    replace K := Lib.hid (show IS w4 A5 n5 c5 os by rw [h4]; exact K.out.drewN mm)
    replace X := Lib.hid (show Blk w4 (w1.heap.size) 26 #[.slice A1 n1 c1, .slice A2 n2 c2, .slice A3 n3 c3, .int .i64 t] by rw [h4]; exact X.out)
    replace B1 := Lib.hid (show Below w.heap.size w w4 by rw [h4]; exact below_drewN B1.out mm)
    clear h4
    clear K
    obtain ⟨x0, x1, x2, x3⟩ := X.out.c4
    go_wp2_with (fail)
    refine (ints_at (spec_QueueBytes_any t _ T1.out S2.out S3.out) HOS.out).mono ?_
    clear x0 x1 x2 x3
    rintro e w5 ⟨A5, n5, c5, rfl, ho, hb⟩
    replace T1 := Lib.hid (T1.out.below hb (Nat.le_refl _))
    replace S2 := Lib.hid (S2.out.below hb (Nat.le_refl _))
    replace S3 := Lib.hid (S3.out.below hb (Nat.le_refl _))
    replace I1 := Lib.hid (I1.out.below hb (Nat.le_refl _))
    replace X := Lib.hid (X.out.on hb)
    replace B1 := Lib.hid (B1.out.trans (hb.mono B1.out.size))
    clear hb
    have K := Lib.hid ho.is
    clear ho
    go_wp2_with (fail)
    refine (call_b (laws_equalInts_any _ I1.out K.out) (decide_eq_true rfl)).mono ?_
    rintro e w6 ⟨rfl, mm, h4⟩
    replace T1 := Lib.hid (show TS w6 A1 n1 c1 xs by rw [h4]; exact T1.out.drewN mm)
    replace S2 := Lib.hid (show IS w6 A2 n2 c2 sh by rw [h4]; exact S2.out.drewN mm)
    replace S3 := Lib.hid (show IS w6 A3 n3 c3 db by rw [h4]; exact S3.out.drewN mm)
    replace I1 := Lib.hid (show IS w6 A4 0 c4 os by rw [h4]; exact I1.out.drewN mm)
    replace K := Lib.hid (show IS w6 A5 n5 c5 os by rw [h4]; exact K.out.drewN mm)
    replace X := Lib.hid (show Blk w6 (w1.heap.size) 26 #[.slice A1 n1 c1, .slice A2 n2 c2, .slice A3 n3 c3, .int .i64 t] by rw [h4]; exact X.out)
    replace B1 := Lib.hid (show Below w.heap.size w w6 by rw [h4]; exact below_drewN B1.out mm)
    clear h4
    clear K
    go_wp2_with (fail)
    go_ret
    exact ⟨ret_bool (by first | rfl | (simp; done) | (simp; omega)), B1.out⟩
  have hO := HOS.out
  rw [quB_yes hv] at hO
  have HV := Lib.hid hv
  obtain rfl : n4 = 3 := by have := HL.out; rw [← hO] at this; exact this.symm
  have HO := Lib.hid hO
  clear hO hv
  obtain ⟨x0, x1, x2, x3⟩ := X.out.c4
  go_wp2_with (fail)
  refine (ints_at (spec_QueueBytes_any t _ T1.out S2.out S3.out) HOS.out).mono ?_
  clear x0 x1 x2 x3
  rintro e w3 ⟨A5, n5, c5, rfl, ho, hb⟩
  replace T1 := Lib.hid (T1.out.below hb (Nat.le_refl _))
  replace S2 := Lib.hid (S2.out.below hb (Nat.le_refl _))
  replace S3 := Lib.hid (S3.out.below hb (Nat.le_refl _))
  replace I1 := Lib.hid (I1.out.below hb (Nat.le_refl _))
  replace X := Lib.hid (X.out.on hb)
  replace B1 := Lib.hid (B1.out.trans (hb.mono B1.out.size))
  clear hb
  have K := Lib.hid ho.is
  clear ho
  go_wp2_with (fail)
  refine (call_b (laws_equalInts_any _ I1.out K.out) (decide_eq_true rfl)).mono ?_
  rintro e w4 ⟨rfl, mm, h4⟩
  replace T1 := Lib.hid (show TS w4 A1 n1 c1 xs by rw [h4]; exact T1.out.drewN mm)
  replace S2 := Lib.hid (show IS w4 A2 n2 c2 sh by rw [h4]; exact S2.out.drewN mm)
  replace S3 := Lib.hid (show IS w4 A3 n3 c3 db by rw [h4]; exact S3.out.drewN mm)
  replace I1 := Lib.hid (show IS w4 A4 3 c4 os by rw [h4]; exact I1.out.drewN mm)
  replace K := Lib.hid (show IS w4 A5 n5 c5 os by rw [h4]; exact K.out.drewN mm)
  replace X := Lib.hid (show Blk w4 (w1.heap.size) 26 #[.slice A1 n1 c1, .slice A2 n2 c2, .slice A3 n3 c3, .int .i64 t] by rw [h4]; exact X.out)
  replace B1 := Lib.hid (show Below w.heap.size w w4 by rw [h4]; exact below_drewN B1.out mm)
  clear h4
  clear K
  go_wp2_with (fail)
  go_loopw [5] (fun i wr => ∃ C : Nat, C ≤ 3 ∧ i = .int .i64 (C : Int) ∧ Hid (Below w4.heap.size w4 wr)) (fun i _ => 3 - (intOf i).toNat)
  case atStart => exact ⟨0, by omega, rfl, Lib.hid (Below.refl _ _)⟩
  case round =>
    obtain ⟨C, hC, rfl, HB⟩ := hrel
    rename World => wo
    by_cases hl : C < 3
    · have hl' : (C : Int) < 3 := by omega
      have Tr := Lib.hid (T1.out.below HB.out (Nat.le_refl _))
      have S2r := Lib.hid (S2.out.below HB.out (Nat.le_refl _))
      have S3r := Lib.hid (S3.out.below HB.out (Nat.le_refl _))
      have Ir := Lib.hid (I1.out.below HB.out (Nat.le_refl _))
      have Xr := Lib.hid (X.out.on HB.out)
      obtain ⟨xa, xb, xc, xd⟩ := Xr.out.c4
      go_wp2_with (fail)
      obtain ⟨Y, eY⟩ : ∃ v, v = wo.alloc (.cells #[.slice none 0 0, .slice A2 n2 c2, .slice A3 n3 c3, .int .i64 t] 26) := ⟨_, rfl⟩
      have BY : Hid (Below wo.heap.size wo Y) := Lib.hid (by rw [eY]; exact below_new wo _)
      have MY : Hid (Blk Y wo.heap.size 26 #[.slice none 0 0, .slice A2 n2 c2, .slice A3 n3 c3, .int .i64 t]) := Lib.hid (by rw [eY]; exact Blk.new wo 26 #[.slice none 0 0, .slice A2 n2 c2, .slice A3 n3 c3, .int .i64 t])
      rw [← eY]
      clear eY xa xb xc xd
      go_loopw [7] (fun i wq => ∃ (k m d : Nat) (E : Option Addr), k ≤ n1 ∧ m ≤ k ∧ i = .int .i64 (k : Int) ∧ Hid (Below wo.heap.size wo wq) ∧ Hid (Blk wq wo.heap.size 26 #[.slice E m d, .slice A2 n2 c2, .slice A3 n3 c3, .int .i64 t]) ∧ Hid (TS wq E m d (clsF (xs.take k) (C : Int)))) (fun i _ => n1 - (intOf i).toNat)
      case atStart => exact ⟨0, 0, 0, none, Nat.zero_le _, Nat.le_refl _, rfl, BY, MY, Lib.hid (by simpa [clsF] using TS.nil _)⟩
      case round =>
        obtain ⟨k, m, d, E, hk, hm, rfl, HQ, MQ, LQ⟩ := hrel
        rename World => wq
        have Tq := Lib.hid (Tr.out.below HQ.out (Nat.le_refl _))
        have Xq := Lib.hid (Xr.out.on HQ.out)
        by_cases hkl : k < n1
        · have hkl' : (k : Int) < (n1 : Int) := by omega
          obtain ⟨b, off, x, rfl, hx, ca, cb, cc⟩ := Tq.out.at_ (k := k) hkl
          obtain ⟨x0, x1, x2, x3⟩ := Xq.out.c4
          obtain ⟨m0, m1, m2, m3⟩ := MQ.out.c4
          have z1 : (0 : Int) ≤ (k : Int) := by omega
          have f0 := MQ.out.frozen 0
          have ml := MQ.out.lt
          have xl := Xq.out.lt
          have bl := World.block_lt_of_cell? _ _ ca
          have ml2 : wo.heap.size < wq.heap.size + 1 := by omega
          have xl2 : w1.heap.size < wq.heap.size + 1 := by omega
          have bl2 : b < wq.heap.size + 1 := Nat.lt_succ_of_lt bl
          by_cases hc : x.b = (C : Int)
          · have hc' : (x.b == (C : Int)) = true := by simp [hc]
            have LN := Lib.hid (clsF_yes hx hc)
            have T2 := Lib.hid (LQ.out.alloc (.cells #[] 28))
            have T12 := Lib.hid (T2.out.alloc (.cells #[.int .i64 x.a, .int .i64 x.b, .int .i64 x.c] 28))
            have T21 := Lib.hid ((LQ.out.alloc (.cells #[.int .i64 x.a, .int .i64 x.b, .int .i64 x.c] 28)).alloc (.cells #[] 28))
            have G1 := Lib.hid (Blk.new wq 28 #[])
            have G12 := Lib.hid (G1.out.alloc (.cells #[.int .i64 x.a, .int .i64 x.b, .int .i64 x.c] 28))
            have G21 : Hid (Blk ((wq.alloc (.cells #[.int .i64 x.a, .int .i64 x.b, .int .i64 x.c] 28)).alloc (.cells #[] 28)) (wq.heap.size + 1) 28 #[]) := Lib.hid (by simpa using Blk.new (wq.alloc (.cells #[.int .i64 x.a, .int .i64 x.b, .int .i64 x.c] 28)) 28 #[])
            have S12 : Hid (TS ((wq.alloc (.cells #[] 28)).alloc (.cells #[.int .i64 x.a, .int .i64 x.b, .int .i64 x.c] 28)) (some ⟨wq.heap.size + 1, 0, none⟩) 1 1 [x]) := Lib.hid (by simpa using ts_one (wq.alloc (.cells #[] 28)) 28 x.a x.b x.c)
            have S21 : Hid (TS ((wq.alloc (.cells #[.int .i64 x.a, .int .i64 x.b, .int .i64 x.c] 28)).alloc (.cells #[] 28)) (some ⟨wq.heap.size, 0, none⟩) 1 1 [x]) := Lib.hid ((ts_one wq 28 x.a x.b x.c).alloc (.cells #[] 28))
            have B2 := Lib.hid (below_new wq (.cells #[] 28))
            have B12 := Lib.hid (B2.out.alloc (by simp) (.cells #[.int .i64 x.a, .int .i64 x.b, .int .i64 x.c] 28))
            have B21 := Lib.hid ((below_new wq (.cells #[.int .i64 x.a, .int .i64 x.b, .int .i64 x.c] 28)).alloc (by simp) (.cells #[] 28))
            clear hx hc
            go_wp2_with (fail)
            go_region_law (first
              | (refine step_append_new rfl (.tmp 51) (.tmp 53) 23 rfl 28 (wq.heap.size) wq.heap.size infoEnt2 Try.underlying23 (by first | (simp [Act.eval]; done) | (simp [Act.eval, Act.put]; done) | rfl) (by first | exact G1.out | exact (G1.out).drew) E m d (clsF (xs.take k) (C : Int)) (by first | (simp [Act.eval]; done) | (simp [Act.eval, Act.put]; done) | rfl) (by first | exact T2.out | exact (T2.out).drew) (by omega) (by omega) ?_; intro E1 d1 wa ho hb hq; have O1 := Lib.hid ho; have WA : Hid (Below wq.heap.size wq wa) := Lib.hid (below_then (by first | exact B2.out | exact Below.drew (B2.out)) hb); have za := WA.out.size; have x0a := cell_up WA.out x0; have caa := cell_up WA.out ca; have cba := cell_up WA.out cb; have cca := cell_up WA.out cc; clear ho hb hq)
              | (refine step_append_new rfl (.tmp 51) (.tmp 53) 23 rfl 28 (wq.heap.size) wq.heap.size infoEnt2 Try.underlying23 (by simp [Act.eval]) (by first | exact G12.out | exact (G12.out).drew) E m d (clsF (xs.take k) (C : Int)) (by simp [Act.eval]) (by first | exact T12.out | exact (T12.out).drew) (by omega) (by omega) ?_; intro E1 d1 wa ho hb hq; have O1 := Lib.hid ho; have WA : Hid (Below wq.heap.size wq wa) := Lib.hid (below_then (by first | exact B12.out | exact Below.drew (B12.out)) hb); have za := WA.out.size; have x0a := cell_up WA.out x0; have caa := cell_up WA.out ca; have cba := cell_up WA.out cb; have cca := cell_up WA.out cc; have SS2 := Lib.hid (TS.below (by first | exact S12.out | exact (S12.out).drew) hb (Nat.le_refl _)); clear ho hb hq)
              | (refine step_append_new rfl (.tmp 51) (.tmp 53) 23 rfl 28 (wq.heap.size + 1) wq.heap.size infoEnt2 Try.underlying23 (by simp [Act.eval]) (by first | exact G21.out | exact (G21.out).drew) E m d (clsF (xs.take k) (C : Int)) (by simp [Act.eval]) (by first | exact T21.out | exact (T21.out).drew) (by omega) (by omega) ?_; intro E1 d1 wa ho hb hq; have O1 := Lib.hid ho; have WA : Hid (Below wq.heap.size wq wa) := Lib.hid (below_then (by first | exact B21.out | exact Below.drew (B21.out)) hb); have za := WA.out.size; have x0a := cell_up WA.out x0; have caa := cell_up WA.out ca; have cba := cell_up WA.out cb; have cca := cell_up WA.out cc; have SS2 := Lib.hid (TS.below (by first | exact S21.out | exact (S21.out).drew) hb (Nat.le_refl _)); clear ho hb hq)
              | (refine step_append_ts2 rfl (.tmp 54) (.tmp 60) 23 rfl wq.heap.size 28 infoEnt2 Try.underlying23 E1 m d1 (clsF (xs.take k) (C : Int)) (by simp [Act.eval]) (by first | exact O1.out | exact (O1.out).drew) (some ⟨wq.heap.size + 1, 0, none⟩) 1 1 [x] (by simp [Act.eval]) (by first | exact SS2.out | exact (SS2.out).drew) (by omega) (by first | omega | (simp; done) | (simp; omega)) ?_; intro E3 d2 wb ho hg hnr; have O2 := Lib.hid ho; have WB : Hid (Below wq.heap.size wq wb) := Lib.hid (below_row (by first | exact WA.out | exact Below.drew (WA.out)) hg (by first | omega | (simp; done) | (simp; omega)) O1.out.ge); have zb := WB.out.size; have Mb := Lib.hid (MQ.out.on WB.out); obtain ⟨m0b, m1b, m2b, m3b⟩ := Mb.out.c4; have f0b := Mb.out.frozen 0; clear ho hg hnr)
              | (refine step_append_ts2 rfl (.tmp 54) (.tmp 60) 23 rfl wq.heap.size 28 infoEnt2 Try.underlying23 E1 m d1 (clsF (xs.take k) (C : Int)) (by simp [Act.eval]) (by first | exact O1.out | exact (O1.out).drew) (some ⟨wq.heap.size, 0, none⟩) 1 1 [x] (by simp [Act.eval]) (by first | exact SS2.out | exact (SS2.out).drew) (by omega) (by first | omega | (simp; done) | (simp; omega)) ?_; intro E3 d2 wb ho hg hnr; have O2 := Lib.hid ho; have WB : Hid (Below wq.heap.size wq wb) := Lib.hid (below_row (by first | exact WA.out | exact Below.drew (WA.out)) hg (by first | omega | (simp; done) | (simp; omega)) O1.out.ge); have zb := WB.out.size; have Mb := Lib.hid (MQ.out.on WB.out); obtain ⟨m0b, m1b, m2b, m3b⟩ := Mb.out.c4; have f0b := Mb.out.frozen 0; clear ho hg hnr)
              | (refine step_append_ts2 rfl (.tmp 54) (.tmp 60) 23 rfl wq.heap.size 28 infoEnt2 Try.underlying23 E1 m d1 (clsF (xs.take k) (C : Int)) (by simp [Act.eval]) (by first | exact (O1.out.alloc (.cells #[.int .i64 x.a, .int .i64 x.b, .int .i64 x.c] 28)) | exact ((O1.out.alloc (.cells #[.int .i64 x.a, .int .i64 x.b, .int .i64 x.c] 28))).drew) (some ⟨wa.heap.size, 0, none⟩) 1 1 [x] (by simp [Act.eval]) (by first | exact (ts_one wa 28 x.a x.b x.c) | exact ((ts_one wa 28 x.a x.b x.c)).drew) (by omega) (by first | omega | (simp; done) | (simp; omega)) ?_; intro E3 d2 wb ho hg hnr; have O2 := Lib.hid ho; have WB : Hid (Below wq.heap.size wq wb) := Lib.hid (below_row (by first | exact (WA.out.alloc za (.cells #[.int .i64 x.a, .int .i64 x.b, .int .i64 x.c] 28)) | exact Below.drew ((WA.out.alloc za (.cells #[.int .i64 x.a, .int .i64 x.b, .int .i64 x.c] 28)))) hg (by first | omega | (simp; done) | (simp; omega)) O1.out.ge); have zb := WB.out.size; have Mb := Lib.hid (MQ.out.on WB.out); obtain ⟨m0b, m1b, m2b, m3b⟩ := Mb.out.c4; have f0b := Mb.out.frozen 0; clear ho hg hnr))
            all_goals (
              clear x0 x1 x2 x3 m0 m1 m2 m3 ca cb cc x0a caa cba cca
              go_wp2_with (fail)
              go_roundw
              case rel =>
                have YM := Lib.hid (Mb.out.set_ 0 (.slice E3 (m + 1) d2))
                have YL := Lib.hid (O2.out.setCell (p := ⟨wo.heap.size, 0, none⟩) ml (.slice E3 (m + 1) d2)).ts
                have YB := Lib.hid ((HQ.out.trans (WB.out.mono HQ.out.size)).setCell (p := ⟨wo.heap.size, 0, none⟩) (Nat.le_refl _) (.slice E3 (m + 1) d2))
                rw [← LN.out] at YL
                exact ⟨k + 1, m + 1, d2, E3, by omega, by omega, by first | rfl | go_num, YB, YM, YL⟩
              case measure => simp [intOf]; omega)
          · have hc' : (x.b == (C : Int)) = false := by simp [hc]
            have LN := clsF_not hx hc
            rw [← LN] at LQ
            clear hc hx LN
            go_wp2_with (fail)
            go_roundw
            case rel => exact ⟨k + 1, m, d, E, by omega, by omega, by first | rfl | go_num, HQ, MQ, LQ⟩
            case measure => simp [intOf]; omega
        · have hkl' : ¬ (k : Int) < (n1 : Int) := by omega
          have ek : xs.take k = xs := List.take_of_length_le (by have := HXL.out; omega)
          rw [ek] at LQ
          clear ek
          have S2q := Lib.hid (S2r.out.below HQ.out (Nat.le_refl _))
          have S3q := Lib.hid (S3r.out.below HQ.out (Nat.le_refl _))
          have Iq := Lib.hid (Ir.out.below HQ.out (Nat.le_refl _))
          have HBQ := Lib.hid (HB.out.trans (HQ.out.mono HB.out.size))
          have HVC := Lib.hid (clsF_valid HV.out (C : Int))
          obtain ⟨x0, x1, x2, x3⟩ := Xq.out.c4
          obtain ⟨m0, m1, m2, m3⟩ := MQ.out.c4
          obtain ⟨p, hp⟩ : ∃ p, bytesC xs (C : Int) = p := ⟨_, rfl⟩
          have HP := Lib.hid hp
          clear hp
          go_wp2_with (fail)
          refine (ints_at (impl_QueueBytes_any t _ LQ.out S2q.out S3q.out) (quB_yes HVC.out)).mono ?_
          clear x0 x1 x2 x3 m0 m1 m2 m3
          rintro e w9 ⟨A6, n6, c6, rfl, o6, hb⟩
          obtain rfl : n6 = 3 := by simpa [bytesE] using o6.len.symm
          have I6 := Lib.hid o6.is
          have I4 := Lib.hid (Iq.out.below hb (Nat.le_refl _))
          have HB9 := Lib.hid (HBQ.out.trans (hb.mono HBQ.out.size))
          clear o6 hb
          have hvE := validE_iff.1 (validQ_iff.1 HVC.out).1
          have HA := Lib.hid (bytesE_allR hvE)
          have HS := Lib.hid (show (bytesE (clsF xs (C : Int))).sum = p by rw [clsF_sum HV.out, HP.out])
          clear hvE
          have C1 := Lib.hid (call_int (laws_sum_any w9.drew I6.out.drew HA.out (by omega)) HS.out)
          obtain ⟨b6, off6, v6, rfl, hv6, p6⟩ := I6.out.at_ (k := C) hl
          obtain ⟨b4, off4, v4, rfl, hv4, p4⟩ := I4.out.at_ (k := C) hl
          obtain rfl : v6 = p := by
            rw [← HP.out, ← clsF_bytes]
            obtain rfl | rfl | rfl : C = 0 ∨ C = 1 ∨ C = 2 := by omega
            all_goals (simp [bytesE] at hv6; rw [← hv6]; rfl)
          obtain rfl : v4 = v6 := by
            rw [← HP.out]
            rw [← HO.out] at hv4
            obtain rfl | rfl | rfl : C = 0 ∨ C = 1 ∨ C = 2 := by omega
            all_goals (simp [bytesE] at hv4; rw [← hv4]; rfl)
          have hpp : (v4 != v4) = false := by simp
          have z1 : (0 : Int) ≤ (C : Int) := by omega
          clear hv6 hv4
          go_wp2_with (fail)
          go_region_held3 (fun w' => w'.cell? ⟨b6, off6 + C, none⟩ = some (.int .i64 v4) ∧ w'.cell? ⟨b4, off4 + C, none⟩ = some (.int .i64 v4)) (first | exact ⟨p6, p4⟩ | go_keep)
            (first
              | (go_at_call 14; refine C1.out.mono ?_; rintro e w10 ⟨rfl, rfl⟩))
          all_goals (
            clear p6 p4
            go_wp2_with (fail)
            go_roundw
            case rel => exact ⟨C + 1, by omega, by first | rfl | go_num, Lib.hid HB9.out.drew⟩
            case measure => simp [intOf]; omega)
    · have hl' : ¬ (C : Int) < 3 := by omega
      go_wp2_with (fail)
      go_ret
      exact ⟨ret_bool (by first | rfl | (simp; done)), B1.out.trans (HB.out.mono B1.out.size)⟩
end Go.Proofs.Ytmlnaijpbfddaaa
