/-
  The model's run over a link.
-/
import Derived.Test.YthbdcindhkjboaaWiX
import Derived.Test.YthbdcindhkjboaaApp2
import Derived.Test.YthbdcindhkjboaaWiT
import Derived.Test.YthbdcindhkjboaaGenB
import Derived.Deep.RegionLaw
import Derived.Deep.DeepMust
namespace Go.Proofs.Ythbdcindhkjboaa
open Go.RowKit
theorem Blk.c5 {w : World} {g : Nat} {t : TypeId} {a b c d e : Value} (h : Blk w g t #[a, b, c, d, e]) : w.cell? ⟨g, 0, none⟩ = some a ∧ w.cell? ⟨g, 1, none⟩ = some b ∧ w.cell? ⟨g, 2, none⟩ = some c ∧ w.cell? ⟨g, 3, none⟩ = some d ∧ w.cell? ⟨g, 4, none⟩ = some e := ⟨h.cell 0, h.cell 1, h.cell 2, h.cell 3, h.cell 4⟩
theorem ge_disj {g B : Nat} {A : Option Addr} (h : g < B) (k : Ge A B) : Disj (some ⟨g, 0, none⟩) A := fun p q hp hq e => by
  cases hp
  have := k q hq
  simp at e
  omega
/-- What a run hands back: what has arrived, how many sendings there were, and a window. -/
def GavePl (T : Nat) (w : World) (M : Nat) (q a : List Int) (s : Nat) (e : Ending) (w' : World) : Prop :=
  ∃ A n c b B m d k, e = .returned (.agg #[.slice A n c, .int .i64 (s : Int), .int .i64 b, .int .i64 (M : Int), .slice B m d]) ∧ OW w' T w.heap.size A n c a ∧ winV b (M : Int) k = true ∧ IS w' B m d k ∧ openL b (M : Int) k = q ∧ Below w.heap.size w w'
set_option maxHeartbeats 4000000 in
theorem spec_play_any {A : Option Addr} {n c : Nat} {xs : List Int} (M : Nat) (w : World) (h : IS w A n c xs) (hn : n ≤ 20) (hr : allR xs 0 3 = true) (hM : M ≤ 8) :
    Calls Try.prog 27 #[.slice A n c, .int .i64 (M : Int)] w (GavePl 3 w M (selL (fun v => (runL xs (iota M) [] 0).1.contains v) 0 M) (runL xs (iota M) [] 0).2.1 (runL xs (iota M) [] 0).2.2) := by
  have H0 := Lib.hid h
  have HLEN := Lib.hid h.len
  have HR := Lib.hid hr
  clear h hr
  obtain ⟨RR, eR⟩ : ∃ v, runL xs (iota M) [] 0 = v := ⟨_, rfl⟩
  rw [eR]
  have ER := Lib.hid eR
  clear eR
  obtain ⟨hv00, hop0⟩ := open_iota M hM
  have HV0 := Lib.hid hv00
  have HO0 := Lib.hid hop0
  clear hv00 hop0
  go_enter Try.func27, Try.ntmps27
  go_wp2_with (fail)
  obtain ⟨W0, eW⟩ : ∃ v : World, v = (((w.alloc (.cells #[.slice none 0 0, .int .i64 0, .int .i64 0, .int .i64 0, .slice none 0 0] 36)).alloc (.cells #[] 3)).alloc (.cells #[] 3)).alloc (.cells #[.slice (some ⟨w.heap.size + 1, 0, none⟩) 0 0, .int .i64 0, .int .i64 0, .int .i64 (M : Int), .slice (some ⟨w.heap.size + 1 + 1, 0, none⟩) 0 0] 36) := ⟨_, rfl⟩
  have X0 : Hid (Blk W0 w.heap.size 36 #[.slice none 0 0, .int .i64 0, .int .i64 0, .int .i64 0, .slice none 0 0]) := Lib.hid (by rw [eW]; exact (((Blk.new _ _ _).alloc _).alloc _).alloc _)
  have Y0 : Hid (Blk W0 (w.heap.size + 1 + 1 + 1) 36 #[.slice (some ⟨w.heap.size + 1, 0, none⟩) 0 0, .int .i64 0, .int .i64 0, .int .i64 (M : Int), .slice (some ⟨w.heap.size + 1 + 1, 0, none⟩) 0 0]) := Lib.hid (by rw [eW]; simpa using Blk.new (((w.alloc (.cells #[.slice none 0 0, .int .i64 0, .int .i64 0, .int .i64 0, .slice none 0 0] 36)).alloc (.cells #[] 3)).alloc (.cells #[] 3)) 36 #[.slice (some ⟨w.heap.size + 1, 0, none⟩) 0 0, .int .i64 0, .int .i64 0, .int .i64 (M : Int), .slice (some ⟨w.heap.size + 1 + 1, 0, none⟩) 0 0])
  have O0 : Hid (OW W0 3 (w.heap.size + 1) (some ⟨w.heap.size + 1, 0, none⟩) 0 0 []) := Lib.hid (by rw [eW]; exact ((by simpa using OW.lit (w.alloc (.cells #[.slice none 0 0, .int .i64 0, .int .i64 0, .int .i64 0, .slice none 0 0] 36)) 3 (w.heap.size + 1) [] (by simp) (by simp) : OW _ 3 (w.heap.size + 1) (some ⟨w.heap.size + 1, 0, none⟩) 0 0 []).alloc _).alloc _)
  have B0 : Hid (Below w.heap.size w W0) := Lib.hid (by rw [eW]; exact ((((below_new _ _).alloc (by simp) _).alloc (by simp; omega) _).alloc (by simp; omega) _))
  rw [← eW]
  clear eW
  obtain ⟨g, eg⟩ : ∃ g, w.heap.size + 1 + 1 + 1 = g := ⟨_, rfl⟩
  have hgw : w.heap.size + 1 < g := by omega
  rw [eg] at Y0
  go_wp2_with (fail)
  try rw [eg]
  have K0 : Hid (Disj (some ⟨g, 0, none⟩) (some ⟨w.heap.size + 1, 0, none⟩)) := Lib.hid (fun p q hp hq => by cases hp; cases hq; show g ≠ w.heap.size + 1; omega)
  have K1 : Hid (Disj (some ⟨g, 0, none⟩) (some ⟨w.heap.size + 1 + 1, 0, none⟩)) := Lib.hid (fun p q hp hq => by cases hp; cases hq; show g ≠ w.heap.size + 1 + 1; omega)
  have K2 : Hid (Ge (some ⟨w.heap.size + 1 + 1, 0, none⟩) (w.heap.size + 1)) := Lib.hid (fun p hp => by cases hp; show w.heap.size + 1 ≤ w.heap.size + 1 + 1; omega)
  clear eg
  go_loopw [6] (fun i wr => ∃ (j s na ca nk ck : Nat) (b : Int) (a k : List Int) (Aa Ak : Option Addr), j ≤ n ∧ s ≤ j ∧ na ≤ 2 * s ∧ i = .int .i64 (j : Int) ∧ Hid (Blk wr w.heap.size 36 #[.slice none 0 0, .int .i64 0, .int .i64 0, .int .i64 0, .slice none 0 0]) ∧ Hid (Blk wr g 36 #[.slice Aa na ca, .int .i64 (s : Int), .int .i64 b, .int .i64 (M : Int), .slice Ak nk ck]) ∧ Hid (OW wr 3 (w.heap.size + 1) Aa na ca a) ∧ Hid (IS wr Ak nk ck k) ∧ Hid (Ge Ak (w.heap.size + 1)) ∧ Hid (Disj (some ⟨g, 0, none⟩) Aa) ∧ Hid (Disj (some ⟨g, 0, none⟩) Ak) ∧ Hid (Below w.heap.size w wr) ∧ Hid (winV b (M : Int) k = true) ∧ Hid (∃ q, runL (xs.drop j) q a s = RR ∧ (j < n → q = openL b (M : Int) k) ∧ ∀ x, x ∈ q ↔ x ∈ openL b (M : Int) k)) (fun i _ => n - (intOf i).toNat)
  case atStart => exact ⟨0, 0, 0, 0, 0, 0, 0, [], [], _, _, Nat.zero_le _, Nat.zero_le _, Nat.zero_le _, rfl, X0, Y0, O0, Lib.hid (IS.empty _ _ (by simp [maxLen]) (fun h => by cases h)), K2, K0, K1, B0, HV0, Lib.hid ⟨_, by exact ER.out, fun _ => HO0.out.symm, fun x => by rw [HO0.out]⟩⟩
  case round =>
    clear X0 Y0 O0 B0 HV0 HO0 K0 K1 K2
    obtain ⟨j0, s, na, ca, nk, ck, b, a, k, Aa, Ak, hj, hs, hna, rfl, X, Y, OA, IK, GK, DA, DK, B, HV, HRq⟩ := hrel
    obtain ⟨q0, hq1, hq2, hq3⟩ := HRq.out
    obtain ⟨y0, y1, y2, y3, y4⟩ := Y.out.c5
    obtain ⟨x0, x1, x2, x3, x4⟩ := X.out.c5
    have fx0 := X.out.frozen 0
    have fx1 := X.out.frozen 1
    have fx2 := X.out.frozen 2
    have fx3 := X.out.frozen 3
    have fx4 := X.out.frozen 4
    have yl := Y.out.lt
    have xl := X.out.lt
    have hgx : ¬ w.heap.size = g := by omega
    by_cases hlt : j0 < n
    · have hlt' : (j0 : Int) < (n : Int) := by omega
      have HRun : Hid (runL (xs.drop j0) (openL b (M : Int) k) a s = RR) := Lib.hid (by rw [← hq2 hlt]; exact hq1)
      have hle := openL_le b (M : Int) k
      clear hq1 hq2 hq3
      go_wp2_with (fail)
      refine (spec_OpenBatches_any b (M : Int) _ IK.out).mono ?_
      rintro e w2 ⟨Ao, no, co, rfl, ho, hb⟩
      have HB2 := Lib.hid hb
      have IO2 := Lib.hid ho.is
      have GO2 := Lib.hid ho.ge
      have HOL := Lib.hid ho.len
      have hno : no ≤ 8 := by have := ho.len; omega
      have hz2 := hb.size
      obtain ⟨os, eo⟩ : ∃ v, openL b (M : Int) k = v := ⟨_, rfl⟩
      rw [eo] at IO2 HOL
      have EO := Lib.hid eo
      have X2 := Lib.hid (X.out.on hb)
      have Y2 := Lib.hid (Y.out.on hb)
      have OA2 := Lib.hid (OA.out.below hb (Nat.le_refl _))
      have IK2 := Lib.hid (IK.out.below hb (Nat.le_refl _))
      have B2 := Lib.hid (B.out.trans (hb.mono B.out.size))
      have DO : Hid (Disj (some ⟨g, 0, none⟩) Ao) := Lib.hid (ge_disj yl ho.ge)
      clear ho hb eo hle y0 y1 y2 y3 y4 x0 x1 x2 x3 x4 fx0 fx1 fx2 fx3 fx4
      obtain ⟨y0, y1, y2, y3, y4⟩ := Y2.out.c5
      obtain ⟨x0, x1, x2, x3, x4⟩ := X2.out.c5
      have fx0 := X2.out.frozen 0
      have fx1 := X2.out.frozen 1
      have fx2 := X2.out.frozen 2
      have fx3 := X2.out.frozen 3
      have fx4 := X2.out.frozen 4
      have yl2 := Y2.out.lt
      have xl2 := X2.out.lt
      by_cases hno0 : no = 0
      · have hz : ((no : Int) == 0) = true := by simp [hno0]
        have HE : Hid (os = []) := Lib.hid (List.eq_nil_of_length_eq_zero (by rw [HOL.out]; exact hno0))
        have HEnd : Hid (RR = ([], a, s)) := Lib.hid (by rw [← HRun.out, EO.out, HE.out, runL_empty])
        clear hno0
        go_wp2_with (fail)
        refine bodyPost_ret (v := .agg #[.slice Aa na ca, .int .i64 (s : Int), .int .i64 b, .int .i64 (M : Int), .slice Ak nk ck]) (by simp [results, Try.results27, go_sem, x0, x1, x2, x3, x4]) rfl ?_
        rw [HEnd.out]
        refine ⟨Aa, na, ca, b, Ak, nk, ck, k, rfl, ?_, HV.out, ?_, ?_, ?_⟩
        · refine OW.base_le (base := w.heap.size + 1) ?_ (by omega)
          repeat (with_reducible refine OW.setCell ?_ (by show w.heap.size < w.heap.size + 1; omega) _)
          exact OA2.out
        · have DQ := ge_disj (Nat.lt_succ_self w.heap.size) GK.out
          repeat (with_reducible refine IS.setCell ?_ DQ _)
          exact IK2.out
        · exact (by rw [EO.out, HE.out]; exact (selL_none (fun _ _ _ => by simp)).symm)
        · repeat (with_reducible refine Below.setCell ?_ (by show w.heap.size ≤ w.heap.size; exact Nat.le_refl _) _)
          exact B2.out
      · have hz : ((no : Int) == 0) = false := by simp; omega
        have hno1 : 1 ≤ no := by omega
        clear x0 x1 x2 x3 x4 fx0 fx1 fx2 fx3 fx4 hno0
        go_wp2_with (fail)
        go_loopw [6, 8] (fun i6 i8 wr => ∃ (i j s na ca nk ck : Nat) (b : Int) (a k Rr : List Int) (Aa Ak : Option Addr), i ≤ no ∧ j0 + i ≤ j ∧ j ≤ n ∧ s ≤ j ∧ na ≤ 2 * s ∧ i6 = .int .i64 (j : Int) ∧ i8 = .int .i64 (i : Int) ∧ Hid (Blk wr w.heap.size 36 #[.slice none 0 0, .int .i64 0, .int .i64 0, .int .i64 0, .slice none 0 0]) ∧ Hid (Blk wr g 36 #[.slice Aa na ca, .int .i64 (s : Int), .int .i64 b, .int .i64 (M : Int), .slice Ak nk ck]) ∧ Hid (OW wr 3 (w.heap.size + 1) Aa na ca a) ∧ Hid (IS wr Ak nk ck k) ∧ Hid (Ge Ak (w.heap.size + 1)) ∧ Hid (Disj (some ⟨g, 0, none⟩) Aa) ∧ Hid (Disj (some ⟨g, 0, none⟩) Ak) ∧ Hid (Below w.heap.size w wr) ∧ Hid (IS wr Ao no co os) ∧ Hid (winV b (M : Int) k = true) ∧ Hid (openL b (M : Int) k = Rr ++ os.drop i) ∧ Hid (runL (xs.drop j) (os.drop i ++ Rr) a s = RR)) (fun i6 i8 _ => (n - (intOf i6).toNat) + (no - (intOf i8).toNat))
        case atStart => exact ⟨0, j0, s, na, ca, nk, ck, b, a, k, [], Aa, Ak, Nat.zero_le _, by omega, hj, hs, hna, rfl, rfl, X2, Y2, OA2, IK2, GK, DA, DK, B2, IO2, HV, Lib.hid (by rw [EO.out]; rfl), Lib.hid (by rw [List.drop_zero, List.append_nil, ← EO.out]; exact HRun.out)⟩
        case round =>
          clear X Y OA IK GK DA DK B HV HRun HRq X2 Y2 OA2 IK2 B2 IO2 y0 y1 y2 y3 y4 EO
          obtain ⟨i, j, s, na, ca, nk, ck, b, a, k, Rr, Aa, Ak, hi, hji, hj, hs, hna, rfl, rfl, X, Y, OA, IK, GK, DA, DK, B, IO, HV, HOp, HRun⟩ := hrel
          obtain ⟨y0, y1, y2, y3, y4⟩ := Y.out.c5
          have f1 := Y.out.frozen 1
          have yl := Y.out.lt
          have xl := X.out.lt
          by_cases hin : i < no
          · have hin' : (i : Int) < (no : Int) := by omega
            by_cases hjn : j < n
            · have hjn' : (j : Int) < (n : Int) := by omega
              obtain ⟨gf, off, f, rfl, hf, hcf⟩ := (H0.out.below B.out (Nat.le_refl _)).at_ hjn
              have hfr := allR_at hf HR.out
              have hdf : xs.drop j = f :: xs.drop (j + 1) := by
                rw [List.drop_eq_getElem_cons (List.getElem?_eq_some_iff.1 hf).1, (List.getElem?_eq_some_iff.1 hf).2]
              obtain ⟨go, offo, v, rfl, hv, hcv⟩ := IO.out.at_ hin
              have hdv : os.drop i = v :: os.drop (i + 1) := by
                rw [List.drop_eq_getElem_cons (List.getElem?_eq_some_iff.1 hv).1, (List.getElem?_eq_some_iff.1 hv).2]
              have hvo : v ∈ openL b (M : Int) k := by rw [HOp.out, hdv]; simp
              obtain ⟨hv0, hv1, _⟩ := open_lt hvo
              have hb0 : 0 ≤ b := (winV_facts HV.out).1
              have HAK : Hid (akOK b (M : Int) k v = true) := Lib.hid (akOK_iff.2 ⟨HV.out, by omega, hv1, by
                have h1 := upR_bd (ackP k v) b (akK b (M : Int))
                have h2 := winV_facts HV.out
                unfold akU akK at *
                omega⟩)
              have HR2 : Hid (runL (xs.drop (j + 1)) (os.drop (i + 1) ++ (Rr ++ fateQ f v)) (a ++ fateA f v) (s + 1) = RR) := Lib.hid (by
                rw [← HRun.out, hdf, hdv, runL_next])
              have HDV := Lib.hid hdv
              have hwj : IntKind.i64.wrap ((j : Int) + 1) = ((j + 1 : Nat) : Int) := by rw [IntKind.wrap_i64]; omega
              have hws : IntKind.i64.wrap ((s : Int) + 1) = ((s + 1 : Nat) : Int) := by rw [IntKind.wrap_i64]; omega
              have hwi : IntKind.i64.wrap ((i : Int) + 1) = ((i + 1 : Nat) : Int) := by rw [IntKind.wrap_i64]; omega
              have hgo : go ≠ g := fun e => by subst e; exact DO.out _ _ rfl rfl rfl
              obtain ⟨W1, eW1⟩ : ∃ z : World, z = wr.setCell ⟨g, 1, none⟩ (.int .i64 ((s : Int) + 1)) := ⟨_, rfl⟩
              have X1 : Hid (Blk W1 w.heap.size 36 #[.slice none 0 0, .int .i64 0, .int .i64 0, .int .i64 0, .slice none 0 0]) := Lib.hid (by rw [eW1]; exact X.out.far (by show w.heap.size ≠ g; omega) _)
              have Y1 : Hid (Blk W1 g 36 #[.slice Aa na ca, .int .i64 ((s : Int) + 1), .int .i64 b, .int .i64 (M : Int), .slice Ak nk ck]) := Lib.hid (by rw [eW1]; exact Y.out.set_ 1 _)
              have OA1 : Hid (OW W1 3 (w.heap.size + 1) Aa na ca a) := Lib.hid (by rw [eW1]; exact OA.out.setCell2 (.inr DA.out) _)
              have IA1 := Lib.hid OA1.out.is
              have IK1 : Hid (IS W1 Ak nk ck k) := Lib.hid (by rw [eW1]; exact IK.out.setCell DK.out _)
              have IO1 : Hid (IS W1 (some ⟨go, offo, none⟩) no co os) := Lib.hid (by rw [eW1]; exact IO.out.setCell DO.out _)
              have B1 : Hid (Below w.heap.size w W1) := Lib.hid (by rw [eW1]; exact B.out.setCell (by show w.heap.size ≤ g; omega) _)
              have hcv1 : W1.cell? ⟨go, offo + i, none⟩ = some (.int .i64 v) := by rw [eW1]; exact cell_set hcv (by show go ≠ g; exact hgo) _
              have yl1 := Y1.out.lt
              have xl1 := X1.out.lt
              have hgol : go < W1.heap.size := World.block_lt_of_cell? W1 ⟨go, offo + i, none⟩ hcv1
              clear hf hv hdf hdv hvo
              have zi : (0 : Int) ≤ (i : Int) := by omega
              by_cases f1e : f = 1
              · have e1 : (f == 1) = true := by simp [f1e]
                have HF : Hid (f = 1 ∨ f = 2) := Lib.hid (.inl f1e)
                have HA0 : Hid (fateA f v = []) := Lib.hid (by rw [f1e]; rfl)
                clear f1e
                go_wp2_with (fail)
                go_roundw
                case rel =>
                  rw [← eW1]
                  refine ⟨i + 1, j + 1, s + 1, na, ca, nk, ck, b, a, k, Rr ++ fateQ f v, Aa, Ak, by omega, by omega, by omega, by omega, by omega, by first | rfl | go_num, by first | rfl | go_num, X1, Lib.hid (by exact Y1.out), OA1, IK1, GK, DA, DK, B1, IO1, HV, Lib.hid (by rw [HOp.out, HDV.out]; exact send_lost HF.out), Lib.hid (by have h := HR2.out; rw [HA0.out, List.append_nil] at h; exact h)⟩
                case measure => simp [intOf]; omega
              have e1 : (f == 1) = false := by simp [f1e]
              have HN1 := Lib.hid f1e
              clear f1e
              go_wp2_with (fail)
              rw [← eW1]
              clear eW1 y0 y1 y2 y3 y4 f1
              obtain ⟨y0, y1, y2, y3, y4⟩ := Y1.out.c5
              have f0 := Y1.out.frozen 0
              go_region_law (first
                | (refine step_append_is rfl (.tmp 52) (.tmp 57) 22 rfl W1.heap.size 3 infoInt Try.underlying22 E6 n6 c6 a (by simp [Act.eval]) (by first | exact (O6.out.alloc _).drew | exact O6.out.drew | exact (O6.out.alloc _) | exact O6.out) (some ⟨w6.heap.size, 0, none⟩) 1 1 [v] (by simp [Act.eval]) (by first | exact (by simpa using (OW.lit w6 3 0 [v] (by simp) (by simp)).is : IS (w6.alloc (.cells #[.int .i64 v] 3)) (some ⟨w6.heap.size, 0, none⟩) 1 1 [v]) | exact (by simpa using (OW.lit w6 3 0 [v] (by simp) (by simp)).is : IS (w6.alloc (.cells #[.int .i64 v] 3)) (some ⟨w6.heap.size, 0, none⟩) 1 1 [v]).drew) (by omega) (by first | omega | (show W1.heap.size ≤ (w6.alloc _).heap.size; simp; omega)) ?_; intro E8 c8 w8 ho hg hnr; have O8 := Lib.hid ho; have HB8 : Hid (Below W1.heap.size W1 w8) := Lib.hid (below_row (by first | exact (HW6.out.alloc HW6.out.size _).drew | exact HW6.out.drew | exact HW6.out.alloc HW6.out.size _ | exact HW6.out) hg (by first | omega | (show W1.heap.size ≤ (w6.alloc _).heap.size; simp; omega)) O6.out.ge); clear ho hg hnr y0 y1 y2 y3 y4 f0; have YC := Y1.out.on HB8.out; obtain ⟨y0, y1, y2, y3, y4⟩ := YC.c5; have f0 := YC.frozen 0; clear YC)
                | (refine step_append_is rfl (.tmp 52) (.tmp 57) 22 rfl W1.heap.size 3 infoInt Try.underlying22 E6 n6 c6 a (by simp [Act.eval]) (by first | exact (O6.out.alloc _).drew | exact O6.out.drew | exact (O6.out.alloc _) | exact O6.out) (some ⟨W1.heap.size, 0, none⟩) 1 1 [v] (by simp [Act.eval]) (by first | exact L6.out | exact L6.out.drew) (by omega) (by first | omega | (show W1.heap.size ≤ w6.heap.size; omega)) ?_; intro E8 c8 w8 ho hg hnr; have O8 := Lib.hid ho; have HB8 : Hid (Below W1.heap.size W1 w8) := Lib.hid (below_row (by first | exact (HW6.out.alloc HW6.out.size _).drew | exact HW6.out.drew | exact HW6.out.alloc HW6.out.size _ | exact HW6.out) hg (by first | omega | (show W1.heap.size ≤ (w6.alloc _).heap.size; simp; omega)) O6.out.ge); clear ho hg hnr y0 y1 y2 y3 y4 f0; have YC := Y1.out.on HB8.out; obtain ⟨y0, y1, y2, y3, y4⟩ := YC.c5; have f0 := YC.frozen 0; clear YC)
                | (refine step_is 38 _ _ rfl ?_; go_simp; go_at_call 38; go_must (refine (spec_copyInts_any _ (IA1.out.below (by repeat (first | exact Below.refl _ _ | with_reducible refine Below.drew ?_ | with_reducible refine Below.alloc ?_ (by first | omega | (simp; done) | (simp; omega)) _)) (Nat.le_refl _)) (by omega)).mono ?_; rintro e w6 ⟨E6, n6, c6, rfl, ho, hb⟩; have HW6 : Hid (Below W1.heap.size W1 w6) := Lib.hid (below_then (a := W1) (by repeat (first | exact Below.refl _ _ | with_reducible refine Below.drew ?_ | with_reducible refine Below.alloc ?_ (by first | omega | (simp; done) | (simp; omega)) _)) hb); have hz6 := HW6.out.size; have hb6 := hb.size; (try simp at hb6); have O6 := Lib.hid (ho.base_le (base' := W1.heap.size) (by first | exact Nat.le_refl _ | (simp; done) | (simp; omega))); have hn6 : n6 ≤ 2 * s + 0 := (by have h1 := ho.len; have h2 := IA1.out.len; omega); (try (have L6 : Hid (IS w6 (some ⟨W1.heap.size, 0, none⟩) 1 1 [v]) := Lib.hid (IS.below (by first | exact (by simpa using (OW.lit W1 3 0 [v] (by simp) (by simp)).is : IS (W1.alloc (.cells #[.int .i64 v] 3)) (some ⟨W1.heap.size, 0, none⟩) 1 1 [v]) | exact (by simpa using (OW.lit W1 3 0 [v] (by simp) (by simp)).is : IS (W1.alloc (.cells #[.int .i64 v] 3)) (some ⟨W1.heap.size, 0, none⟩) 1 1 [v]).drew) hb (Nat.le_refl _)))); have hci := cell_up (W := w6) HW6.out hcv1; clear ho hb y0 y1 y2 y3 y4 f0; have YC := Y1.out.on HW6.out; obtain ⟨y0, y1, y2, y3, y4⟩ := YC.c5; have f0 := YC.frozen 0; have yl6 := YC.lt; clear YC)))
              all_goals (
                have hsz9 := HB8.out.size
                obtain ⟨W9, eW9⟩ : ∃ z : World, z = w8.setCell ⟨g, 0, none⟩ (.slice E8 (n6 + 1) c8) := ⟨_, rfl⟩
                have DA9 : Hid (Disj (some ⟨g, 0, none⟩) E8) := Lib.hid (ge_disj yl1 O8.out.ge)
                have X9 : Hid (Blk W9 w.heap.size 36 #[.slice none 0 0, .int .i64 0, .int .i64 0, .int .i64 0, .slice none 0 0]) := Lib.hid (by rw [eW9]; exact (X1.out.on HB8.out).far (by show w.heap.size ≠ g; omega) _)
                have Y9 : Hid (Blk W9 g 36 #[.slice E8 (n6 + 1) c8, .int .i64 ((s : Int) + 1), .int .i64 b, .int .i64 (M : Int), .slice Ak nk ck]) := Lib.hid (by rw [eW9]; exact (Y1.out.on HB8.out).set_ 0 _)
                have OA9 : Hid (OW W9 3 (w.heap.size + 1) E8 (n6 + 1) c8 (a ++ [v])) := Lib.hid (by rw [eW9]; exact (O8.out.setCell (by show g < W1.heap.size; exact yl1) _).base_le (by omega))
                have IA9 := Lib.hid OA9.out.is
                have IK9 : Hid (IS W9 Ak nk ck k) := Lib.hid (by rw [eW9]; exact (IK1.out.below HB8.out (Nat.le_refl _)).setCell DK.out _)
                have IO9 : Hid (IS W9 (some ⟨go, offo, none⟩) no co os) := Lib.hid (by rw [eW9]; exact (IO1.out.below HB8.out (Nat.le_refl _)).setCell DO.out _)
                have B9 : Hid (Below w.heap.size w W9) := Lib.hid (by rw [eW9]; exact (B1.out.trans (HB8.out.mono B1.out.size)).setCell (by show w.heap.size ≤ g; omega) _)
                have hcv9 : W9.cell? ⟨go, offo + i, none⟩ = some (.int .i64 v) := by rw [eW9]; exact cell_set (cell_up HB8.out hcv1) (by show go ≠ g; exact hgo) _
                have yl9 := Y9.out.lt
                have xl9 := X9.out.lt
                have hgol9 : go < W9.heap.size := World.block_lt_of_cell? W9 ⟨go, offo + i, none⟩ hcv9
                rw [← eW9]
                clear eW9 y0 y1 y2 y3 y4 f0
                have hf3 : f = 2 ∨ f = 0 ∨ f = 3 := by have := HN1.out; omega
                have f0 := 0
                clear f0
                rcases hf3 with f2e | f0e | f3e
                · have e3 : (f == 3) = false := by simp [f2e]
                  have e2 : (f != 2) = false := by simp [f2e]
                  have HF : Hid (f = 1 ∨ f = 2) := Lib.hid (.inr f2e)
                  have HFA : Hid (fateA f v = [v]) := Lib.hid (by rw [f2e]; rfl)
                  clear f2e
                  go_wp2_with (fail)
                  go_roundw
                  case rel => exact ⟨i + 1, j + 1, s + 1, n6 + 1, c8, nk, ck, b, a ++ [v], k, Rr ++ fateQ f v, E8, Ak, by omega, by omega, by omega, by omega, by omega, by first | rfl | go_num, by first | rfl | go_num, X9, Lib.hid (by exact Y9.out), OA9, IK9, GK, DA9, DK, B9, IO9, HV, Lib.hid (by rw [HOp.out, HDV.out]; exact send_lost HF.out), Lib.hid (by have h := HR2.out; rw [HFA.out] at h; exact h)⟩
                  case measure => simp [intOf]; omega
                · have e3 : (f == 3) = false := by simp [f0e]
                  have e2 : (f != 2) = true := by simp [f0e]
                  have HF : Hid (¬ (f = 1 ∨ f = 2)) := Lib.hid (by rw [f0e]; decide)
                  have HFA : Hid (fateA f v = [v]) := Lib.hid (by rw [f0e]; rfl)
                  clear f0e
                  obtain ⟨y0, y1, y2, y3, y4⟩ := Y9.out.c5
                  go_wp2_with (fail)
                  have f2 := Y9.out.frozen 2
                  have f3 := Y9.out.frozen 3
                  have f4 := Y9.out.frozen 4
                  have hkk : (M : Int) = b + (akK b (M : Int) : Int) := by have h := winV_facts HV.out; unfold akK; omega
                  have HKK := Lib.hid hkk
                  clear hkk
                  go_region_law (refine step_is 39 _ _ rfl ?_; go_simp; go_at_call 39; go_must (refine (spec_ack_any b (M : Int) v (akK b (M : Int)) _ (by first | exact IK9.out | exact IK9.out.drew) HV.out HKK.out).mono ?_; rintro e wa ⟨E9, m9, d9, rfl, ho, hb⟩; have HBa : Hid (Below W9.heap.size W9 wa) := Lib.hid (below_then (a := W9) (by repeat (first | exact Below.refl _ _ | with_reducible refine Below.drew ?_ | with_reducible refine Below.alloc ?_ (by first | omega | (simp; done) | (simp; omega)) _)) hb); have Oa := Lib.hid ho.is; have GEa := Lib.hid ho.ge; clear ho hb y0 y1 y2 y3 y4 f2 f3 f4; have YC := Y9.out.on HBa.out; obtain ⟨y0, y1, y2, y3, y4⟩ := YC.c5; have f2 := YC.frozen 2; have f3 := YC.frozen 3; have f4 := YC.frozen 4; clear YC))
                  all_goals (
                    have DEa : Hid (Disj (some ⟨g, 0, none⟩) E9) := Lib.hid (ge_disj (by first | exact yl9 | (show g < W9.heap.size; exact yl9)) GEa.out)
                    have hsza := HBa.out.size
                    have hszb := B9.out.size
                    obtain ⟨ff1, ff2, ff3, ff4, ff5, ff6⟩ := ak_facts HAK.out
                    go_wp2_with (fail)
                    go_roundw
                    case rel =>
                      refine ⟨i + 1, j + 1, s + 1, n6 + 1, c8, m9, d9, akU b (M : Int) k v, a ++ [v], akL b (M : Int) k v, Rr ++ fateQ f v, E8, E9, by omega, by omega, by omega, by omega, by omega, by first | rfl | go_num, by first | rfl | go_num, Lib.hid ?_, Lib.hid ?_, Lib.hid ?_, Lib.hid ?_, Lib.hid (GEa.out.mono (by first | omega | (show w.heap.size + 1 ≤ W9.heap.size; omega))), DA9, DEa, Lib.hid ?_, Lib.hid ?_, Lib.hid ff4, Lib.hid (send_ackd HF.out HAK.out (by rw [HOp.out, HDV.out])), Lib.hid (by have h := HR2.out; rw [HFA.out] at h; simpa using h)⟩
                      · repeat (with_reducible refine Blk.far ?_ (by show w.heap.size ≠ g; omega) _)
                        exact X9.out.on HBa.out
                      · have hy := (((Y9.out.on HBa.out).set_ 2 (.int .i64 (upR (ackP k v) b (akK b (M : Int))))).set_ 3 (.int .i64 (M : Int))).set_ 4 (.slice E9 m9 d9)
                        simp at hy
                        exact hy
                      · have h5 := OA9.out.below HBa.out (Nat.le_refl _)
                        have h6 := ((h5.setCell2 (p := ⟨g, 2, none⟩) (.inr DA9.out) (.int .i64 (akU b (M : Int) k v))).setCell2 (p := ⟨g, 3, none⟩) (.inr DA9.out) (.int .i64 (M : Int))).setCell2 (p := ⟨g, 4, none⟩) (.inr DA9.out) (.slice E9 m9 d9)
                        exact h6
                      · repeat (with_reducible refine IS.setCell ?_ DEa.out _)
                        exact Oa.out
                      · repeat (with_reducible refine Below.setCell ?_ (by show w.heap.size ≤ g; omega) _)
                        exact B9.out.trans (HBa.out.mono hszb)
                      · repeat (with_reducible refine IS.setCell ?_ DO.out _)
                        exact IO9.out.below HBa.out (Nat.le_refl _)
                    case measure => simp [intOf]; omega)
                · have e3 : (f == 3) = true := by simp [f3e]
                  have e2 : (f != 2) = true := by simp [f3e]
                  have HF : Hid (¬ (f = 1 ∨ f = 2)) := Lib.hid (by rw [f3e]; decide)
                  have HFA : Hid (fateA f v = [v, v]) := Lib.hid (by rw [f3e]; rfl)
                  clear f3e
                  obtain ⟨y0, y1, y2, y3, y4⟩ := Y9.out.c5
                  have f0 := Y9.out.frozen 0
                  go_wp2_with (fail)
                  go_region_law (first
                    | (refine step_append_is rfl (.tmp 64) (.tmp 69) 22 rfl W9.heap.size 3 infoInt Try.underlying22 F6 k6 e6 (a ++ [v]) (by simp [Act.eval]) (by first | exact (O6.out.alloc _).drew | exact O6.out.drew | exact (O6.out.alloc _) | exact O6.out) (some ⟨w6.heap.size, 0, none⟩) 1 1 [v] (by simp [Act.eval]) (by first | exact (by simpa using (OW.lit w6 3 0 [v] (by simp) (by simp)).is : IS (w6.alloc (.cells #[.int .i64 v] 3)) (some ⟨w6.heap.size, 0, none⟩) 1 1 [v]) | exact (by simpa using (OW.lit w6 3 0 [v] (by simp) (by simp)).is : IS (w6.alloc (.cells #[.int .i64 v] 3)) (some ⟨w6.heap.size, 0, none⟩) 1 1 [v]).drew) (by omega) (by first | omega | (show W9.heap.size ≤ (w6.alloc _).heap.size; simp; omega)) ?_; intro E10 c10 w10 ho hg hnr; have O10 := Lib.hid ho; have HB10 : Hid (Below W9.heap.size W9 w10) := Lib.hid (below_row (by first | exact (HW6.out.alloc HW6.out.size _).drew | exact HW6.out.drew | exact HW6.out.alloc HW6.out.size _ | exact HW6.out) hg (by first | omega | (show W9.heap.size ≤ (w6.alloc _).heap.size; simp; omega)) O6.out.ge); clear ho hg hnr y0 y1 y2 y3 y4 f0; have YC := Y9.out.on HB10.out; obtain ⟨y0, y1, y2, y3, y4⟩ := YC.c5; have f0 := YC.frozen 0; clear YC)
                    | (refine step_append_is rfl (.tmp 64) (.tmp 69) 22 rfl W9.heap.size 3 infoInt Try.underlying22 F6 k6 e6 (a ++ [v]) (by simp [Act.eval]) (by first | exact (O6.out.alloc _).drew | exact O6.out.drew | exact (O6.out.alloc _) | exact O6.out) (some ⟨W9.heap.size, 0, none⟩) 1 1 [v] (by simp [Act.eval]) (by first | exact L6.out | exact L6.out.drew) (by omega) (by first | omega | (show W9.heap.size ≤ w6.heap.size; omega)) ?_; intro E10 c10 w10 ho hg hnr; have O10 := Lib.hid ho; have HB10 : Hid (Below W9.heap.size W9 w10) := Lib.hid (below_row (by first | exact (HW6.out.alloc HW6.out.size _).drew | exact HW6.out.drew | exact HW6.out.alloc HW6.out.size _ | exact HW6.out) hg (by first | omega | (show W9.heap.size ≤ (w6.alloc _).heap.size; simp; omega)) O6.out.ge); clear ho hg hnr y0 y1 y2 y3 y4 f0; have YC := Y9.out.on HB10.out; obtain ⟨y0, y1, y2, y3, y4⟩ := YC.c5; have f0 := YC.frozen 0; clear YC)
                    | (refine step_is 38 _ _ rfl ?_; go_simp; go_at_call 38; go_must (refine (spec_copyInts_any _ (IA9.out.below (by repeat (first | exact Below.refl _ _ | with_reducible refine Below.drew ?_ | with_reducible refine Below.alloc ?_ (by first | omega | (simp; done) | (simp; omega)) _)) (Nat.le_refl _)) (by omega)).mono ?_; rintro e w6 ⟨F6, k6, e6, rfl, ho, hb⟩; have HW6 : Hid (Below W9.heap.size W9 w6) := Lib.hid (below_then (a := W9) (by repeat (first | exact Below.refl _ _ | with_reducible refine Below.drew ?_ | with_reducible refine Below.alloc ?_ (by first | omega | (simp; done) | (simp; omega)) _)) hb); have hz6 := HW6.out.size; have hb6 := hb.size; (try simp at hb6); have O6 := Lib.hid (ho.base_le (base' := W9.heap.size) (by first | exact Nat.le_refl _ | (simp; done) | (simp; omega))); have hk6 : k6 ≤ 2 * s + 1 := (by have h1 := ho.len; have h2 := IA9.out.len; omega); (try (have L6 : Hid (IS w6 (some ⟨W9.heap.size, 0, none⟩) 1 1 [v]) := Lib.hid (IS.below (by first | exact (by simpa using (OW.lit W9 3 0 [v] (by simp) (by simp)).is : IS (W9.alloc (.cells #[.int .i64 v] 3)) (some ⟨W9.heap.size, 0, none⟩) 1 1 [v]) | exact (by simpa using (OW.lit W9 3 0 [v] (by simp) (by simp)).is : IS (W9.alloc (.cells #[.int .i64 v] 3)) (some ⟨W9.heap.size, 0, none⟩) 1 1 [v]).drew) hb (Nat.le_refl _)))); have hci := cell_up (W := w6) HW6.out hcv9; clear ho hb y0 y1 y2 y3 y4 f0; have YC := Y9.out.on HW6.out; obtain ⟨y0, y1, y2, y3, y4⟩ := YC.c5; have f0 := YC.frozen 0; have yl6 := YC.lt; clear YC)))
                  all_goals (
                    have hsz11 := HB10.out.size
                    obtain ⟨W11, eW11⟩ : ∃ z : World, z = w10.setCell ⟨g, 0, none⟩ (.slice E10 (k6 + 1) c10) := ⟨_, rfl⟩
                    have DA11 : Hid (Disj (some ⟨g, 0, none⟩) E10) := Lib.hid (ge_disj yl9 O10.out.ge)
                    have X11 : Hid (Blk W11 w.heap.size 36 #[.slice none 0 0, .int .i64 0, .int .i64 0, .int .i64 0, .slice none 0 0]) := Lib.hid (by rw [eW11]; exact (X9.out.on HB10.out).far (by show w.heap.size ≠ g; omega) _)
                    have Y11 : Hid (Blk W11 g 36 #[.slice E10 (k6 + 1) c10, .int .i64 ((s : Int) + 1), .int .i64 b, .int .i64 (M : Int), .slice Ak nk ck]) := Lib.hid (by rw [eW11]; exact (Y9.out.on HB10.out).set_ 0 _)
                    have OA11 : Hid (OW W11 3 (w.heap.size + 1) E10 (k6 + 1) c10 (a ++ [v] ++ [v])) := Lib.hid (by rw [eW11]; exact (O10.out.setCell (by show g < W9.heap.size; exact yl9) _).base_le (by omega))
                    have IA11 := Lib.hid OA11.out.is
                    have IK11 : Hid (IS W11 Ak nk ck k) := Lib.hid (by rw [eW11]; exact (IK9.out.below HB10.out (Nat.le_refl _)).setCell DK.out _)
                    have IO11 : Hid (IS W11 (some ⟨go, offo, none⟩) no co os) := Lib.hid (by rw [eW11]; exact (IO9.out.below HB10.out (Nat.le_refl _)).setCell DO.out _)
                    have B11 : Hid (Below w.heap.size w W11) := Lib.hid (by rw [eW11]; exact (B9.out.trans (HB10.out.mono B9.out.size)).setCell (by show w.heap.size ≤ g; omega) _)
                    have hcv11 : W11.cell? ⟨go, offo + i, none⟩ = some (.int .i64 v) := by rw [eW11]; exact cell_set (cell_up HB10.out hcv9) (by show go ≠ g; exact hgo) _
                    have yl11 := Y11.out.lt
                    have xl11 := X11.out.lt
                    have hgol11 : go < W11.heap.size := World.block_lt_of_cell? W11 ⟨go, offo + i, none⟩ hcv11
                    rw [← eW11]
                    clear eW11 y0 y1 y2 y3 y4 f0
                    obtain ⟨y0, y1, y2, y3, y4⟩ := Y11.out.c5
                    go_wp2_with (fail)
                    have f2 := Y11.out.frozen 2
                    have f3 := Y11.out.frozen 3
                    have f4 := Y11.out.frozen 4
                    have hkk : (M : Int) = b + (akK b (M : Int) : Int) := by have h := winV_facts HV.out; unfold akK; omega
                    have HKK := Lib.hid hkk
                    clear hkk
                    go_region_law (refine step_is 39 _ _ rfl ?_; go_simp; go_at_call 39; go_must (refine (spec_ack_any b (M : Int) v (akK b (M : Int)) _ (by first | exact IK11.out | exact IK11.out.drew) HV.out HKK.out).mono ?_; rintro e wa ⟨E9, m9, d9, rfl, ho, hb⟩; have HBa : Hid (Below W11.heap.size W11 wa) := Lib.hid (below_then (a := W11) (by repeat (first | exact Below.refl _ _ | with_reducible refine Below.drew ?_ | with_reducible refine Below.alloc ?_ (by first | omega | (simp; done) | (simp; omega)) _)) hb); have Oa := Lib.hid ho.is; have GEa := Lib.hid ho.ge; clear ho hb y0 y1 y2 y3 y4 f2 f3 f4; have YC := Y11.out.on HBa.out; obtain ⟨y0, y1, y2, y3, y4⟩ := YC.c5; have f2 := YC.frozen 2; have f3 := YC.frozen 3; have f4 := YC.frozen 4; clear YC))
                    all_goals (
                      have DEa : Hid (Disj (some ⟨g, 0, none⟩) E9) := Lib.hid (ge_disj (by first | exact yl11 | (show g < W11.heap.size; exact yl11)) GEa.out)
                      have hsza := HBa.out.size
                      have hszb := B11.out.size
                      obtain ⟨ff1, ff2, ff3, ff4, ff5, ff6⟩ := ak_facts HAK.out
                      go_wp2_with (fail)
                      go_roundw
                      case rel =>
                        refine ⟨i + 1, j + 1, s + 1, k6 + 1, c10, m9, d9, akU b (M : Int) k v, a ++ [v] ++ [v], akL b (M : Int) k v, Rr ++ fateQ f v, E10, E9, by omega, by omega, by omega, by omega, by omega, by first | rfl | go_num, by first | rfl | go_num, Lib.hid ?_, Lib.hid ?_, Lib.hid ?_, Lib.hid ?_, Lib.hid (GEa.out.mono (by first | omega | (show w.heap.size + 1 ≤ W11.heap.size; omega))), DA11, DEa, Lib.hid ?_, Lib.hid ?_, Lib.hid ff4, Lib.hid (send_ackd HF.out HAK.out (by rw [HOp.out, HDV.out])), Lib.hid (by have h := HR2.out; rw [HFA.out] at h; simpa using h)⟩
                        · repeat (with_reducible refine Blk.far ?_ (by show w.heap.size ≠ g; omega) _)
                          exact X11.out.on HBa.out
                        · have hy := (((Y11.out.on HBa.out).set_ 2 (.int .i64 (upR (ackP k v) b (akK b (M : Int))))).set_ 3 (.int .i64 (M : Int))).set_ 4 (.slice E9 m9 d9)
                          simp at hy
                          exact hy
                        · have h5 := OA11.out.below HBa.out (Nat.le_refl _)
                          have h6 := ((h5.setCell2 (p := ⟨g, 2, none⟩) (.inr DA11.out) (.int .i64 (akU b (M : Int) k v))).setCell2 (p := ⟨g, 3, none⟩) (.inr DA11.out) (.int .i64 (M : Int))).setCell2 (p := ⟨g, 4, none⟩) (.inr DA11.out) (.slice E9 m9 d9)
                          exact h6
                        · repeat (with_reducible refine IS.setCell ?_ DEa.out _)
                          exact Oa.out
                        · repeat (with_reducible refine Below.setCell ?_ (by show w.heap.size ≤ g; omega) _)
                          exact B11.out.trans (HBa.out.mono hszb)
                        · repeat (with_reducible refine IS.setCell ?_ DO.out _)
                          exact IO11.out.below HBa.out (Nat.le_refl _)
                      case measure => simp [intOf]; omega)))
            · have hjn' : ¬ (j : Int) < (n : Int) := by omega
              go_wp2_with (fail)
              go_roundw
              case rel =>
                have ed : xs.drop j = [] := List.drop_of_length_le (by have := HLEN.out; omega)
                exact ⟨j, s, na, ca, nk, ck, b, a, k, Aa, Ak, hj, hs, hna, rfl, X, Y, OA, IK, GK, DA, DK, B, HV, Lib.hid ⟨_, HRun.out, fun h => absurd h hjn, fun x => by rw [HOp.out]; simp only [List.mem_append]; exact Or.comm⟩⟩
              case measure => simp [intOf]; omega
          · have hin' : ¬ (i : Int) < (no : Int) := by omega
            go_wp2_with (fail)
            go_roundw
            case rel =>
              have ed : os.drop i = [] := List.drop_of_length_le (by rw [HOL.out]; omega)
              have h1 := HOp.out
              have h2 := HRun.out
              rw [ed, List.append_nil] at h1
              rw [ed, List.nil_append] at h2
              exact ⟨j, s, na, ca, nk, ck, b, a, k, Aa, Ak, hj, hs, hna, rfl, X, Y, OA, IK, GK, DA, DK, B, HV, Lib.hid ⟨_, h2, fun _ => h1.symm, fun x => by rw [h1]⟩⟩
            case measure => simp [intOf]; omega
    · have hlt' : ¬ (j0 : Int) < (n : Int) := by omega
      have ej : xs.drop j0 = [] := List.drop_of_length_le (by have := HLEN.out; omega)
      have HEnd : Hid (RR = (q0, a, s)) := Lib.hid (by rw [← hq1, ej]; rfl)
      have HQM := Lib.hid hq3
      clear hq1 hq2 hq3
      clear ej
      go_wp2_with (fail)
      refine bodyPost_ret (v := .agg #[.slice Aa na ca, .int .i64 (s : Int), .int .i64 b, .int .i64 (M : Int), .slice Ak nk ck]) (by simp [results, Try.results27, go_sem, x0, x1, x2, x3, x4]) rfl ?_
      rw [HEnd.out]
      refine ⟨Aa, na, ca, b, Ak, nk, ck, k, rfl, ?_, HV.out, ?_, ?_, ?_⟩
      · refine OW.base_le (base := w.heap.size + 1) ?_ (by omega)
        repeat (with_reducible refine OW.setCell ?_ (by show w.heap.size < w.heap.size + 1; omega) _)
        exact OA.out
      · have DQ := ge_disj (Nat.lt_succ_self w.heap.size) GK.out
        repeat (with_reducible refine IS.setCell ?_ DQ _)
        exact IK.out
      · exact ((open_queue HV.out rfl HQM.out).symm.trans (selL_congr fun n _ _ => by simp))
      · repeat (with_reducible refine Below.setCell ?_ (by show w.heap.size ≤ w.heap.size; exact Nat.le_refl _) _)
        exact B.out
end Go.Proofs.Ythbdcindhkjboaa
