/-
  Contracts of queues: an entry leaves, by the model.
-/
import Derived.Test.YthemfejahohbeaaQuJ
namespace Go.Proofs.Ythemfejahohbeaa
open Go.RowKit
/-- What stands at the head of each round. -/
structure SpSt (TQ TE TI : Nat) (w wr : World) (B gq ge gd : Nat) (n d1 : Nat) (E2 : Option Addr) (d2 d3 : Nat) (xs : List Tr) (sh : List Int) (u : Nat) (d : List Int) : Prop where
  q : Blk wr gq TQ #[.slice (some ⟨ge, 0, none⟩) n d1, .slice E2 3 d2, .slice (some ⟨gd, 0, none⟩) 3 d3, .int .i64 (u : Int)]
  deb : OW wr TI B (some ⟨gd, 0, none⟩) 3 d3 d
  lst : OT wr TE B (some ⟨ge, 0, none⟩) n d1 xs
  shr : OW wr TI B E2 3 d2 sh
  r1 : Blk wr (w.heap.size + 1) TE #[.int .i64 0, .int .i64 0, .int .i64 0]
  r2 : Blk wr (w.heap.size + 1 + 1) TQ #[.slice none 0 0, .slice none 0 0, .slice none 0 0, .int .i64 0]
  bel : Below w.heap.size w wr
structure SpDj (w : World) (gq ge gd : Nat) (E2 : Option Addr) : Prop where
  hq : w.heap.size + 1 + 1 < gq
  he : w.heap.size + 1 + 1 < ge ∧ ge < gq
  hd : w.heap.size + 1 + 1 < gd ∧ gd < gq
  ned : ge ≠ gd
  q2 : Disj (some ⟨gq, 0, none⟩) E2
  d2 : Disj (some ⟨gd, 0, none⟩) E2
  e2 : Disj (some ⟨ge, 0, none⟩) E2
theorem SpSt.next {wx : World} {u' : Nat} {d' : List Int} {TQ TE TI : Nat} {w wr : World} {B gq ge gd n d1 : Nat} {E2 : Option Addr} {d2 d3 : Nat} {xs : List Tr} {sh : List Int} {u : Nat} {d : List Int}
    (h : SpSt TQ TE TI w wr B gq ge gd n d1 E2 d2 d3 xs sh u d) (j : SpDj w gq ge gd E2) (hr : Row2 wr wx gq (some ⟨gd, 0, none⟩))
    (hq : Blk wx gq TQ #[.slice (some ⟨ge, 0, none⟩) n d1, .slice E2 3 d2, .slice (some ⟨gd, 0, none⟩) 3 d3, .int .i64 (u' : Int)]) (hd : OW wx TI B (some ⟨gd, 0, none⟩) 3 d3 d') : SpSt TQ TE TI w wx B gq ge gd n d1 E2 d2 d3 xs sh u' d' := by
  have h1 := j.hq
  have h3 := j.he
  have h4 := j.hd
  refine ⟨hq, hd, h.lst.row2 hr (dj_ne (by omega)) (dj_ne j.ned.symm), h.shr.row2 hr j.q2 j.d2, h.r1.row2 hr (by omega) (by simp; omega), h.r2.row2 hr (by omega) (by simp; omega), ?_⟩
  refine below_row2 h.bel hr (by have := h.q.lt; omega) (by omega) (fun p hp => by cases hp; show w.heap.size ≤ gd; omega)
theorem SpSt.below {wx : World} {TQ TE TI : Nat} {w wr : World} {B gq ge gd n d1 : Nat} {E2 : Option Addr} {d2 d3 : Nat} {xs : List Tr} {sh : List Int} {u : Nat} {d : List Int} (h : SpSt TQ TE TI w wr B gq ge gd n d1 E2 d2 d3 xs sh u d) (hb : Below wr.heap.size wr wx) : SpSt TQ TE TI w wx B gq ge gd n d1 E2 d2 d3 xs sh u d :=
  ⟨h.q.on hb, h.deb.below hb (Nat.le_refl _), h.lst.below hb (Nat.le_refl _), h.shr.below hb (Nat.le_refl _), h.r1.on hb, h.r2.on hb, h.bel.trans (hb.mono h.bel.size)⟩
set_option maxHeartbeats 4000000 in
theorem spec_PopEntry_no {A A2 A3 : Option Addr} {n c n2 c2 n3 c3 : Nat} {xs : List Tr} {sh db : List Int} (t : Int) (w : World) (h : TS w A n c xs) (h2 : IS w A2 n2 c2 sh) (h3 : IS w A3 n3 c3 db) (hk : popOK xs sh db t = false) :
    Calls Try.prog 18 #[.agg #[.slice A n c, .slice A2 n2 c2, .slice A3 n3 c3, .int .i64 t]] w (GavePop 29 3 w (popX xs sh db t) (popL xs sh db t) (popH xs sh db t) (popD xs sh db t) (popT xs sh db t) (popOK xs sh db t)) := by
  have HL := Lib.hid h.len
  have H := Lib.hid (((h.alloc (.cells #[.slice A n c, .slice A2 n2 c2, .slice A3 n3 c3, .int .i64 t] 26)).alloc (.cells #[.int .i64 0, .int .i64 0, .int .i64 0] 29)).alloc (.cells #[.slice none 0 0, .slice none 0 0, .slice none 0 0, .int .i64 0] 26))
  have H2 := Lib.hid (((h2.alloc (.cells #[.slice A n c, .slice A2 n2 c2, .slice A3 n3 c3, .int .i64 t] 26)).alloc (.cells #[.int .i64 0, .int .i64 0, .int .i64 0] 29)).alloc (.cells #[.slice none 0 0, .slice none 0 0, .slice none 0 0, .int .i64 0] 26))
  have H3 := Lib.hid (((h3.alloc (.cells #[.slice A n c, .slice A2 n2 c2, .slice A3 n3 c3, .int .i64 t] 26)).alloc (.cells #[.int .i64 0, .int .i64 0, .int .i64 0] 29)).alloc (.cells #[.slice none 0 0, .slice none 0 0, .slice none 0 0, .int .i64 0] 26))
  have B0 := Lib.hid ((((Below.refl w.heap.size w).alloc (Nat.le_refl _) (.cells #[.slice A n c, .slice A2 n2 c2, .slice A3 n3 c3, .int .i64 t] 26)).alloc (by simp) (.cells #[.int .i64 0, .int .i64 0, .int .i64 0] 29)).alloc (by simp; omega) (.cells #[.slice none 0 0, .slice none 0 0, .slice none 0 0, .int .i64 0] 26))
  have P0 := Lib.hid (((Blk.new w 26 #[.slice A n c, .slice A2 n2 c2, .slice A3 n3 c3, .int .i64 t]).alloc (.cells #[.int .i64 0, .int .i64 0, .int .i64 0] 29)).alloc (.cells #[.slice none 0 0, .slice none 0 0, .slice none 0 0, .int .i64 0] 26))
  have X0 : Hid (Blk _ (w.heap.size + 1) 29 #[.int .i64 0, .int .i64 0, .int .i64 0]) := Lib.hid ((by simpa using Blk.new (w.alloc (.cells #[.slice A n c, .slice A2 n2 c2, .slice A3 n3 c3, .int .i64 t] 26)) 29 #[.int .i64 0, .int .i64 0, .int .i64 0] : Blk _ (w.heap.size + 1) _ _).alloc (.cells #[.slice none 0 0, .slice none 0 0, .slice none 0 0, .int .i64 0] 26))
  have R0 : Hid (Blk _ (w.heap.size + 1 + 1) 26 #[.slice none 0 0, .slice none 0 0, .slice none 0 0, .int .i64 0]) := Lib.hid (by simpa using Blk.new ((w.alloc (.cells #[.slice A n c, .slice A2 n2 c2, .slice A3 n3 c3, .int .i64 t] 26)).alloc (.cells #[.int .i64 0, .int .i64 0, .int .i64 0] 29)) 26 #[.slice none 0 0, .slice none 0 0, .slice none 0 0, .int .i64 0])
  clear h h2 h3
  have HK := Lib.hid hk
  rcases hv : validQ xs sh db t with _ | _
  · clear hk
    go_enter Try.func18, Try.ntmps18
    go_wp2_with (fail)
    refine (call_b (spec_validQueue_any t _ H.out H2.out H3.out) hv).mono ?_
    rintro e w1 ⟨rfl, hb⟩
    have X1 := Lib.hid (X0.out.on hb)
    have R1 := Lib.hid (R0.out.on hb)
    have P1 := Lib.hid (P0.out.on hb)
    have B1 := Lib.hid (B0.out.trans (hb.mono B0.out.size))
    clear hb
    obtain ⟨p0, p1, p2, p3⟩ := P1.out.c4
    have pl := P1.out.lt
    obtain ⟨x0, x1, x2⟩ := X1.out.c3
    have xl := X1.out.lt
    have fx0 := X1.out.frozen 0
    have fx1 := X1.out.frozen 1
    have fx2 := X1.out.frozen 2
    obtain ⟨r0, r1, r2, r3⟩ := R1.out.c4
    have rl := R1.out.lt
    have f0 := R1.out.frozen 0
    have f1 := R1.out.frozen 1
    have f2 := R1.out.frozen 2
    have f3 := R1.out.frozen 3
    go_wp2_with (fail)
    refine bodyPost_ret (v := .tuple #[.agg #[.int .i64 0, .int .i64 0, .int .i64 0], .agg #[.slice none 0 0, .slice none 0 0, .slice none 0 0, .int .i64 0], .bool false]) (by simp [results, Try.results18, go_sem, x0, x1, x2, r0, r1, r2, r3]) rfl ?_
    refine gavePop_f HK.out HK.out ?_
    repeat' (first | with_reducible exact B1.out | refine Below.setCell ?_ ?_ _ | omega | (simp; done) | (simp; omega))
  · have hx : xs = [] := by
      rcases xs with _ | ⟨y, l⟩
      · rfl
      · simp [popOK, hv] at hk
    obtain rfl : n = 0 := by have := HL.out; rw [hx] at this; exact this.symm
    have HV := Lib.hid hv
    clear hk hx hv
    go_enter Try.func18, Try.ntmps18
    go_wp2_with (fail)
    refine (call_b (spec_validQueue_any t _ H.out H2.out H3.out) HV.out).mono ?_
    rintro e w1 ⟨rfl, hb⟩
    have X1 := Lib.hid (X0.out.on hb)
    have R1 := Lib.hid (R0.out.on hb)
    have P1 := Lib.hid (P0.out.on hb)
    have B1 := Lib.hid (B0.out.trans (hb.mono B0.out.size))
    clear hb
    obtain ⟨p0, p1, p2, p3⟩ := P1.out.c4
    have pl := P1.out.lt
    obtain ⟨x0, x1, x2⟩ := X1.out.c3
    have xl := X1.out.lt
    have fx0 := X1.out.frozen 0
    have fx1 := X1.out.frozen 1
    have fx2 := X1.out.frozen 2
    obtain ⟨r0, r1, r2, r3⟩ := R1.out.c4
    have rl := R1.out.lt
    have f0 := R1.out.frozen 0
    have f1 := R1.out.frozen 1
    have f2 := R1.out.frozen 2
    have f3 := R1.out.frozen 3
    go_wp2_with (fail)
    refine bodyPost_ret (v := .tuple #[.agg #[.int .i64 0, .int .i64 0, .int .i64 0], .agg #[.slice none 0 0, .slice none 0 0, .slice none 0 0, .int .i64 0], .bool false]) (by simp [results, Try.results18, go_sem, x0, x1, x2, r0, r1, r2, r3]) rfl ?_
    refine gavePop_f HK.out HK.out ?_
    repeat' (first | with_reducible exact B1.out | refine Below.setCell ?_ ?_ _ | omega | (simp; done) | (simp; omega))
set_option maxRecDepth 100000 in
set_option maxHeartbeats 16000000 in
theorem spec_PopEntry_yes {A A2 A3 : Option Addr} {n c n2 c2 n3 c3 : Nat} {xs : List Tr} {sh db : List Int} (t : Int) (w : World) (h : TS w A n c xs) (h2 : IS w A2 n2 c2 sh) (h3 : IS w A3 n3 c3 db) (hk : popOK xs sh db t = true) :
    Calls Try.prog 18 #[.agg #[.slice A n c, .slice A2 n2 c2, .slice A3 n3 c3, .int .i64 t]] w (GavePop 29 3 w (popX xs sh db t) (popL xs sh db t) (popH xs sh db t) (popD xs sh db t) (popT xs sh db t) true) := by
  obtain ⟨N, u, d, K, x, hlv, eX, eL, eH, eD, eT⟩ := leaves_of hk
  rw [eX, eL, eH, eD, eT]
  obtain ⟨hv, hne⟩ := popOK_iff.1 hk
  obtain ⟨hvE, hvS, hvD, hvT⟩ := validQ_iff.1 hv
  obtain ⟨ht0, ht2⟩ := inR_iff.1 hvT
  obtain ⟨m, rfl⟩ := Int.eq_ofNat_of_zero_le ht0
  have hmT : ((m : Int)).toNat = m := Int.toNat_natCast m
  have HLv := Lib.hid hlv
  have HL := Lib.hid h.len
  have hn0 : 0 < n := by have h1 := HL.out; have h2 := List.length_pos_iff.2 hne; omega
  have hn10 : n ≤ 10 := by have h1 := HL.out; have h2 := (validE_iff.1 hvE).1; omega
  have hn3 : n3 = 3 := by have h1 := h3.len; have h2 := (cnt_iff.1 hvD).1; omega
  have hn2 : n2 = 3 := by have h1 := h2.len; have h2 := (cnt_iff.1 hvS).1; omega
  subst hn3 hn2
  have HOK : Hid (OkS (m, db) ∧ cnt sh 1 20 = true) := Lib.hid (okS_of hv)
  have HV := Lib.hid hv
  have HE := Lib.hid (validE_iff.1 hvE)
  have hmt := Lib.hid hmT
  have hn00 : ((n : Int) == 0) = false := by simp; omega
  have H := Lib.hid (((h.alloc (.cells #[.slice A n c, .slice A2 3 c2, .slice A3 3 c3, .int .i64 (m : Int)] 26)).alloc (.cells #[.int .i64 0, .int .i64 0, .int .i64 0] 29)).alloc (.cells #[.slice none 0 0, .slice none 0 0, .slice none 0 0, .int .i64 0] 26))
  have H2 := Lib.hid (((h2.alloc (.cells #[.slice A n c, .slice A2 3 c2, .slice A3 3 c3, .int .i64 (m : Int)] 26)).alloc (.cells #[.int .i64 0, .int .i64 0, .int .i64 0] 29)).alloc (.cells #[.slice none 0 0, .slice none 0 0, .slice none 0 0, .int .i64 0] 26))
  have H3 := Lib.hid (((h3.alloc (.cells #[.slice A n c, .slice A2 3 c2, .slice A3 3 c3, .int .i64 (m : Int)] 26)).alloc (.cells #[.int .i64 0, .int .i64 0, .int .i64 0] 29)).alloc (.cells #[.slice none 0 0, .slice none 0 0, .slice none 0 0, .int .i64 0] 26))
  have B0 := Lib.hid ((((Below.refl w.heap.size w).alloc (Nat.le_refl _) (.cells #[.slice A n c, .slice A2 3 c2, .slice A3 3 c3, .int .i64 (m : Int)] 26)).alloc (by simp) (.cells #[.int .i64 0, .int .i64 0, .int .i64 0] 29)).alloc (by simp; omega) (.cells #[.slice none 0 0, .slice none 0 0, .slice none 0 0, .int .i64 0] 26))
  have P0 := Lib.hid (((Blk.new w 26 #[.slice A n c, .slice A2 3 c2, .slice A3 3 c3, .int .i64 (m : Int)]).alloc (.cells #[.int .i64 0, .int .i64 0, .int .i64 0] 29)).alloc (.cells #[.slice none 0 0, .slice none 0 0, .slice none 0 0, .int .i64 0] 26))
  have X0 : Hid (Blk _ (w.heap.size + 1) 29 #[.int .i64 0, .int .i64 0, .int .i64 0]) := Lib.hid ((by simpa using Blk.new (w.alloc (.cells #[.slice A n c, .slice A2 3 c2, .slice A3 3 c3, .int .i64 (m : Int)] 26)) 29 #[.int .i64 0, .int .i64 0, .int .i64 0] : Blk _ (w.heap.size + 1) _ _).alloc (.cells #[.slice none 0 0, .slice none 0 0, .slice none 0 0, .int .i64 0] 26))
  have R0 : Hid (Blk _ (w.heap.size + 1 + 1) 26 #[.slice none 0 0, .slice none 0 0, .slice none 0 0, .int .i64 0]) := Lib.hid (by simpa using Blk.new ((w.alloc (.cells #[.slice A n c, .slice A2 3 c2, .slice A3 3 c3, .int .i64 (m : Int)] 26)).alloc (.cells #[.int .i64 0, .int .i64 0, .int .i64 0] 29)) 26 #[.slice none 0 0, .slice none 0 0, .slice none 0 0, .int .i64 0])
  clear h h2 h3
  clear hk hlv eX eL eH eD eT hv hne hvE hvS hvD hvT ht0 ht2 hmT
  go_enter Try.func18, Try.ntmps18
  go_wp2_with (fail)
  refine (call_b (spec_validQueue_any (m : Int) _ H.out H2.out H3.out) HV.out).mono ?_
  rintro e w1 ⟨rfl, hb⟩
  have X1 := Lib.hid (X0.out.on hb)
  have R1 := Lib.hid (R0.out.on hb)
  have P1 := Lib.hid (P0.out.on hb)
  have T1 := Lib.hid (H.out.below hb (Nat.le_refl _))
  have S1 := Lib.hid (H2.out.below hb (Nat.le_refl _))
  have D1 := Lib.hid (H3.out.below hb (Nat.le_refl _))
  have B1 := Lib.hid (B0.out.trans (hb.mono B0.out.size))
  clear hb
  have rl1 : w.heap.size + 1 + 1 < w1.heap.size := R1.out.lt
  obtain ⟨p0, p1, p2, p3⟩ := P1.out.c4
  have pl := P1.out.lt
  go_wp2_with (fail)
  refine (spec_copyQueue_any (m : Int) _ T1.out S1.out D1.out (by omega) (by omega) (by omega)).mono ?_
  clear p0 p1 p2 p3 pl
  rintro e w2 ⟨E1, m1, d1, E2, m2, d2, E3, m3, d3, rfl, ho1, ho2, ho3, j12, j13, j23, hb⟩
  obtain rfl : n = m1 := by have h1 := ho1.len; have h2 := HL.out; omega
  obtain rfl : m2 = 3 := by have h1 := ho2.len; have h2 := (cnt_iff.1 HOK.out.2).1; omega
  obtain rfl : m3 = 3 := by have h1 := ho3.len; have h2 := HOK.out.1.2.1; simp only at h2; omega
  obtain ⟨ge, rfl, hge1, hge2⟩ := ho1.pos hn0
  obtain ⟨gd, rfl, hgd1, hgd2⟩ := ho3.pos (by omega)
  have hz2 := hb.size
  have X2 := Lib.hid (X1.out.on hb)
  have R2 := Lib.hid (R1.out.on hb)
  have P2 := Lib.hid (P1.out.on hb)
  have T2 := Lib.hid (T1.out.below hb (Nat.le_refl _))
  have B2 := Lib.hid (B1.out.trans (hb.mono B1.out.size))
  have O1 := Lib.hid ho1
  have O2 := Lib.hid ho2
  have O3 := Lib.hid ho3
  have J12 := Lib.hid j12
  have J13 := Lib.hid j13
  have J23 := Lib.hid j23
  clear hb ho1 ho2 ho3 j12 j13 j23
  have DJ : Hid (SpDj w w2.heap.size ge gd E2) := Lib.hid ⟨by omega, ⟨by omega, by omega⟩, ⟨by omega, by omega⟩, fun e => J13.out _ _ rfl rfl e, (Disj.mk (B := w2.heap.size) O2.out.lt (fun p hp => by cases hp; exact Nat.le_refl _)).symm, J23.out.symm, J12.out⟩
  have ST : Hid (SpSt 26 29 3 w (w2.alloc (.cells #[.slice (some ⟨ge, 0, none⟩) n d1, .slice E2 3 d2, .slice (some ⟨gd, 0, none⟩) 3 d3, .int .i64 (m : Int)] 26)) (w.heap.size + 1 + 1 + 1) w2.heap.size ge gd n d1 E2 d2 d3 xs sh m db) := Lib.hid
    ⟨Blk.new _ _ _, (O3.out.base_le (by omega)).alloc _, (O1.out.base_le (by omega)).alloc _, (O2.out.base_le (by omega)).alloc _, X2.out.alloc _, R2.out.alloc _, B2.out.alloc (by omega) _⟩
  go_wp2_with (fail)
  obtain ⟨V, eV⟩ : ∃ v : World, v = w2.alloc (.cells #[.slice (some ⟨ge, 0, none⟩) n d1, .slice E2 3 d2, .slice (some ⟨gd, 0, none⟩) 3 d3, .int .i64 (m : Int)] 26) := ⟨_, rfl⟩
  rw [← eV] at ST ⊢
  clear eV X0 X1 X2 R0 R1 R2 P0 P1 P2 T1 T2 S1 D1 B0 B1 B2 O1 O2 O3 J12 J13 J23 H H2 H3
  have hDJ := DJ.out.hd
  have hDE := DJ.out.he
  have hDQ := DJ.out.hq
  have hned := DJ.out.ned
  go_loopg [] N (fun k wr => ∃ (i v : Nat) (dd : List Int), i + k = N ∧ Hid (stQ xs sh (m, db) i = (v, dd)) ∧ Hid (SpSt 26 29 3 w wr (w.heap.size + 1 + 1 + 1) w2.heap.size ge gd n d1 E2 d2 d3 xs sh v dd))
  case atStart => exact ⟨0, m, db, by omega, Lib.hid rfl, ST⟩
  case round =>
    obtain ⟨i, v, dd, hik, hst, HS⟩ := hrel
    clear ST
    have HO : Hid (OkS (v, dd)) := Lib.hid (by rw [← hst.out]; exact stQ_ok HOK.out.1 HOK.out.2 i)
    have hv3 : v < 3 := HO.out.1
    have hdc := ow_at HS.out.deb hv3
    obtain ⟨dv, hdv⟩ : ∃ y, dd.getD v 0 = y := ⟨_, rfl⟩
    rw [hdv] at hdc
    have HDV := Lib.hid hdv
    have hvi : (v : Int) < 3 := by omega
    have hvi0 : (0 : Int) ≤ (v : Int) := by omega
    obtain ⟨v', hv'⟩ : ∃ v', v' = (v + 1) % 3 := ⟨_, rfl⟩
    have hv'3 : v' < 3 := by omega
    have hmod : Int.tmod ((v : Int) + 1) 3 = (v' : Int) := by rcases nat3 hv3 with rfl | rfl | rfl <;> subst hv' <;> rfl
    have hmod2 : ((v : Int) + 1) % 3 = (v' : Int) := by omega
    have hki : (v' : Int) < 3 := by omega
    have hk0 : (0 : Int) ≤ (v' : Int) := by omega
    have HMV := Lib.hid hv'
    obtain ⟨q0, q1, q2, q3⟩ := HS.out.q.c4
    have ql := HS.out.q.lt
    have HIK := Lib.hid hik
    clear hdv hik hv'
    have hnot : Hid (mayL xs (v, dd) = false → i < N) := Lib.hid (fun hm => by
      rcases Nat.lt_or_ge i N with h1 | h1
      · exact h1
      · have h2 := HLv.out.ends.1
        rw [hmt.out, show N = i by have := HIK.out; omega, hst.out, hm] at h2
        cases h2)
    rcases hh : hasC xs v with _ | _
    · have hm : mayL xs (v, dd) = false := by simp [mayL, hh]
      have hiN : i < N := hnot.out hm
      have hgk : 0 < gk := by have h2 := HIK.out; omega
      have E1' : Hid (firstC (v : Int) xs = -1) := Lib.hid (firstC_no (by simpa [hasC] using hh))
      have HD1 : Hid (debt1 xs (v, dd) = dd.set v 0) := Lib.hid (by simp [debt1, hh])
      clear hm hh
      go_wp2_with (fail)
      refine (call_int (spec_firstOf_any (v : Int) _ HS.out.lst.ts (by omega)) E1'.out).mono ?_
      rintro e w7 ⟨rfl, rfl⟩
      go_wp2_with (fail)
      refine wp_region_quiet_lit (by kernel_rfl) (by kernel_rfl) ?_
      repeat (first | go_big_quiet_step (fail) | quiet_step (fail))
      refine wpQuiet_nil ?_
      intro w4 hw'
      have HS4 : Hid (SpSt 26 29 3 w w4 (w.heap.size + 1 + 1 + 1) w2.heap.size ge gd n d1 E2 d2 d3 xs sh v dd) := Lib.hid (by obtain ⟨nq, rfl⟩ := hw'; exact HS.out.below (below_drewN (Below.refl _ _) nq))
      have hdc4 : w4.cell? ⟨gd, v, none⟩ = some (.int .i64 dv) := by obtain ⟨nq, rfl⟩ := hw'; exact hdc
      clear hw' q0 q1 q2 q3 ql hdc HS
      obtain ⟨q0, q1, q2, q3⟩ := HS4.out.q.c4
      have fd : w4.frozen? ⟨gd, v, none⟩ = false := World.ownsRow.frozenAt HS4.out.deb v
      go_upto_region 12 with (fail)
      clear q0 q1 q2 q3 fd hdc4
      obtain ⟨w5, e5⟩ : ∃ y : World, y = w4.setCell ⟨gd, v, none⟩ (.int .i64 0) := ⟨_, rfl⟩
      have HS5 : Hid (SpSt 26 29 3 w w5 (w.heap.size + 1 + 1 + 1) w2.heap.size ge gd n d1 E2 d2 d3 xs sh v (dd.set v 0)) := Lib.hid (by rw [e5]; exact HS4.out.next DJ.out ((Row2.refl w4 _ _).setA v _) (HS4.out.q.far (p := ⟨gd, v, none⟩) (by show w2.heap.size ≠ gd; omega) _) (HS4.out.deb.storedS v 0))
      rw [← e5]
      clear e5 HS4
      obtain ⟨q0, q1, q2, q3⟩ := HS5.out.q.c4
      have f3 := HS5.out.q.frozen 3
      go_upto_region 13 with (fail)
      clear q0 q1 q2 q3 f3
      obtain ⟨w6, e6⟩ : ∃ y : World, y = w5.setCell ⟨w2.heap.size, 3, none⟩ (.int .i64 (v' : Int)) := ⟨_, rfl⟩
      have HS6 : Hid (SpSt 26 29 3 w w6 (w.heap.size + 1 + 1 + 1) w2.heap.size ge gd n d1 E2 d2 d3 xs sh v' (dd.set v 0)) := Lib.hid (by rw [e6]; exact HS5.out.next DJ.out ((Row2.refl w5 _ _).setG 3 _) (HS5.out.q.set_ 3 _) (HS5.out.deb.setCell2 (.inr (dj_ne (by show w2.heap.size ≠ gd; omega))) _))
      rw [← e6]
      clear e6 HS5
      obtain ⟨q0, q1, q2, q3⟩ := HS6.out.q.c4
      rcases hb : hasC xs v' with _ | _
      · have E2' : Hid (firstC (v' : Int) xs = -1) := Lib.hid (firstC_no (by simpa [hasC] using hb))
        have HS : Hid (stepQ xs sh (v, dd) = (v', (dd.set v 0))) := Lib.hid (by simp only [stepQ, ← HMV.out, hb, HD1.out]; simp)
        go_wp2_with (fail)
        refine (call_int (spec_firstOf_any (v' : Int) _ HS6.out.lst.ts (by omega)) E2'.out).mono ?_
        rintro e w7 ⟨rfl, rfl⟩
        go_wp2_with (fail)
        go_roundg (gk - 1)
        case measure => omega
        case rel => exact ⟨i + 1, v', (dd.set v 0), by have h2 := HIK.out; omega, Lib.hid (by show stepQ xs sh (stQ xs sh (m, db) i) = _; rw [hst.out, HS.out]), HS6⟩
      · obtain ⟨k2, hk2⟩ : ∃ k2 : Nat, k2 = whereC (v' : Int) xs := ⟨_, rfl⟩
        have E2' : Hid (firstC (v' : Int) xs = (k2 : Int)) := Lib.hid (by rw [hk2]; exact firstC_eq (hasC_iff.1 hb))
        obtain ⟨DV, hDV⟩ : ∃ y, ((dd.set v 0)).getD v' 0 = y := ⟨_, rfl⟩
        obtain ⟨SV, hSV⟩ : ∃ y, sh.getD v' 0 = y := ⟨_, rfl⟩
        obtain ⟨hd1, hd2⟩ : 0 ≤ DV ∧ DV ≤ 40 := by rw [← hDV]; exact debt_at HO.out hv'3 (.inr rfl)
        obtain ⟨hs1, hs2⟩ : 1 ≤ SV ∧ SV ≤ 20 := by rw [← hSV]; exact cnt_getD HOK.out.2 hv'3
        have HS : Hid (stepQ xs sh (v, dd) = (v', ((dd.set v 0)).set v' (min (DV + SV) 40))) := Lib.hid (by simp only [stepQ, ← HMV.out, hb, HD1.out, if_true, hDV, hSV])
        have dk := ow_at HS6.out.deb hv'3
        rw [hDV] at dk
        have fk : w6.frozen? ⟨gd, v', none⟩ = false := World.ownsRow.frozenAt HS6.out.deb v'
        obtain ⟨b2, o2, sv, eE2, hsx, hsc⟩ := HS6.out.shr.is.at_ hv'3
        have hsv : SV = sv := by rw [← hSV, List.getD_eq_getElem?_getD, hsx]; rfl
        rw [← hsv] at hsc
        rw [eE2] at q1
        clear hDV hSV hsx hsv hk2 hb
        have HEE := Lib.hid eE2
        clear eE2
        go_wp2_with (fail)
        refine (call_int (spec_firstOf_any (v' : Int) _ HS6.out.lst.ts (by omega)) E2'.out).mono ?_
        rintro e w7 ⟨rfl, rfl⟩
        have hk20 : (0 : Int) ≤ (k2 : Int) := by omega
        go_wp2_with (fail)
        go_region
        have HS7 : Hid (SpSt 26 29 3 w (w6.setCell ⟨gd, v', none⟩ (.int .i64 (min (DV + SV) 40))).drew (w.heap.size + 1 + 1 + 1) w2.heap.size ge gd n d1 E2 d2 d3 xs sh v' (((dd.set v 0)).set v' (min (DV + SV) 40))) := Lib.hid (HS6.out.next DJ.out ((Row2.refl w6 _ _).setA v' _).drew (HS6.out.q.far (p := ⟨gd, v', none⟩) (by show w2.heap.size ≠ gd; omega) _).drew (HS6.out.deb.storedS v' (min (DV + SV) 40)).drew)
        clear q0 q1 q2 q3 dk fk hsc
        go_wp2_with (fail)
        go_roundg (gk - 1)
        case measure => omega
        case rel => exact ⟨i + 1, v', ((dd.set v 0)).set v' (min (DV + SV) 40), by have h2 := HIK.out; omega, Lib.hid (by show stepQ xs sh (stQ xs sh (m, db) i) = _; rw [hst.out, HS.out]), HS7⟩
    · obtain ⟨k1, hk1⟩ : ∃ k1 : Nat, k1 = whereC (v : Int) xs := ⟨_, rfl⟩
      have E1' : Hid (firstC (v : Int) xs = (k1 : Int)) := Lib.hid (by rw [hk1]; exact firstC_eq (hasC_iff.1 hh))
      have hk1n : k1 < n := by have h1 := hasC_iff.1 hh; have h2 := HL.out; omega
      obtain ⟨be, oe, y, ee, hy, ya, yb, yc⟩ := HS.out.lst.ts.at_ hk1n
      simp only [Option.some.injEq, Addr.mk.injEq, and_true] at ee
      obtain ⟨rfl, rfl⟩ := ee
      rw [Nat.zero_add] at ya yb yc
      have hsz : Hid (sizeC xs v = y.c) := Lib.hid (by
        obtain ⟨y2, h1, _, h3⟩ := hasC_get hh
        rw [← hk1, hy] at h1
        injection h1 with h1
        rw [h1, h3])
      have HY := Lib.hid hy
      have HK1 := Lib.hid hk1
      have HHv := Lib.hid hh
      have hk1i : (k1 : Int) < (n : Int) := by omega
      have hk10 : (0 : Int) ≤ (k1 : Int) := by omega
      have hge : decide ((0 : Int) ≤ (k1 : Int)) = true := decide_eq_true hk10
      clear hk1 hh hy
      rcases Int.lt_or_le dv y.c with hcm | hcm
      · have hcd : decide (y.c ≤ dv) = false := decide_eq_false (by omega)
        have hm : mayL xs (v, dd) = false := by
          have h1 := HDV.out
          have h2 := hsz.out
          simp only [mayL, HHv.out, Bool.true_and, h1, h2]
          exact hcd
        have hiN : i < N := hnot.out hm
        have hgk : 0 < gk := by have h2 := HIK.out; omega
        have HD1 : Hid (debt1 xs (v, dd) = dd) := Lib.hid (by simp [debt1, HHv.out])
        clear hm
        go_wp2_with (fail)
        refine (call_int (spec_firstOf_any (v : Int) _ HS.out.lst.ts (by omega)) E1'.out).mono ?_
        rintro e w7 ⟨rfl, rfl⟩
        go_wp2_with (fail)
        refine wp_region_quiet_lit (by kernel_rfl) (by kernel_rfl) ?_
        repeat (first | go_big_quiet_step (fail) | quiet_step (fail))
        refine wpQuiet_nil ?_
        intro w4 hw'
        have HS4 : Hid (SpSt 26 29 3 w w4 (w.heap.size + 1 + 1 + 1) w2.heap.size ge gd n d1 E2 d2 d3 xs sh v dd) := Lib.hid (by obtain ⟨nq, rfl⟩ := hw'; exact HS.out.below (below_drewN (Below.refl _ _) nq))
        clear hw' q0 q1 q2 q3 ql hdc HS ya yb yc
        obtain ⟨w5, rfl⟩ : ∃ y : World, y = w4 := ⟨_, rfl⟩
        have HS5 := HS4
        clear HS4
        obtain ⟨q0, q1, q2, q3⟩ := HS5.out.q.c4
        have f3 := HS5.out.q.frozen 3
        go_upto_region 13 with (fail)
        clear q0 q1 q2 q3 f3
        obtain ⟨w6, e6⟩ : ∃ y : World, y = w5.setCell ⟨w2.heap.size, 3, none⟩ (.int .i64 (v' : Int)) := ⟨_, rfl⟩
        have HS6 : Hid (SpSt 26 29 3 w w6 (w.heap.size + 1 + 1 + 1) w2.heap.size ge gd n d1 E2 d2 d3 xs sh v' dd) := Lib.hid (by rw [e6]; exact HS5.out.next DJ.out ((Row2.refl w5 _ _).setG 3 _) (HS5.out.q.set_ 3 _) (HS5.out.deb.setCell2 (.inr (dj_ne (by show w2.heap.size ≠ gd; omega))) _))
        rw [← e6]
        clear e6 HS5
        obtain ⟨q0, q1, q2, q3⟩ := HS6.out.q.c4
        rcases hb : hasC xs v' with _ | _
        · have E2' : Hid (firstC (v' : Int) xs = -1) := Lib.hid (firstC_no (by simpa [hasC] using hb))
          have HS : Hid (stepQ xs sh (v, dd) = (v', dd)) := Lib.hid (by simp only [stepQ, ← HMV.out, hb, HD1.out]; simp)
          go_wp2_with (fail)
          refine (call_int (spec_firstOf_any (v' : Int) _ HS6.out.lst.ts (by omega)) E2'.out).mono ?_
          rintro e w7 ⟨rfl, rfl⟩
          go_wp2_with (fail)
          go_roundg (gk - 1)
          case measure => omega
          case rel => exact ⟨i + 1, v', dd, by have h2 := HIK.out; omega, Lib.hid (by show stepQ xs sh (stQ xs sh (m, db) i) = _; rw [hst.out, HS.out]), HS6⟩
        · obtain ⟨k2, hk2⟩ : ∃ k2 : Nat, k2 = whereC (v' : Int) xs := ⟨_, rfl⟩
          have E2' : Hid (firstC (v' : Int) xs = (k2 : Int)) := Lib.hid (by rw [hk2]; exact firstC_eq (hasC_iff.1 hb))
          obtain ⟨DV, hDV⟩ : ∃ y, (dd).getD v' 0 = y := ⟨_, rfl⟩
          obtain ⟨SV, hSV⟩ : ∃ y, sh.getD v' 0 = y := ⟨_, rfl⟩
          obtain ⟨hd1, hd2⟩ : 0 ≤ DV ∧ DV ≤ 40 := by rw [← hDV]; exact debt_at HO.out hv'3 (.inl rfl)
          obtain ⟨hs1, hs2⟩ : 1 ≤ SV ∧ SV ≤ 20 := by rw [← hSV]; exact cnt_getD HOK.out.2 hv'3
          have HS : Hid (stepQ xs sh (v, dd) = (v', (dd).set v' (min (DV + SV) 40))) := Lib.hid (by simp only [stepQ, ← HMV.out, hb, HD1.out, if_true, hDV, hSV])
          have dk := ow_at HS6.out.deb hv'3
          rw [hDV] at dk
          have fk : w6.frozen? ⟨gd, v', none⟩ = false := World.ownsRow.frozenAt HS6.out.deb v'
          obtain ⟨b2, o2, sv, eE2, hsx, hsc⟩ := HS6.out.shr.is.at_ hv'3
          have hsv : SV = sv := by rw [← hSV, List.getD_eq_getElem?_getD, hsx]; rfl
          rw [← hsv] at hsc
          rw [eE2] at q1
          clear hDV hSV hsx hsv hk2 hb
          have HEE := Lib.hid eE2
          clear eE2
          go_wp2_with (fail)
          refine (call_int (spec_firstOf_any (v' : Int) _ HS6.out.lst.ts (by omega)) E2'.out).mono ?_
          rintro e w7 ⟨rfl, rfl⟩
          have hk20 : (0 : Int) ≤ (k2 : Int) := by omega
          go_wp2_with (fail)
          go_region
          have HS7 : Hid (SpSt 26 29 3 w (w6.setCell ⟨gd, v', none⟩ (.int .i64 (min (DV + SV) 40))).drew (w.heap.size + 1 + 1 + 1) w2.heap.size ge gd n d1 E2 d2 d3 xs sh v' ((dd).set v' (min (DV + SV) 40))) := Lib.hid (HS6.out.next DJ.out ((Row2.refl w6 _ _).setA v' _).drew (HS6.out.q.far (p := ⟨gd, v', none⟩) (by show w2.heap.size ≠ gd; omega) _).drew (HS6.out.deb.storedS v' (min (DV + SV) 40)).drew)
          clear q0 q1 q2 q3 dk fk hsc
          go_wp2_with (fail)
          go_roundg (gk - 1)
          case measure => omega
          case rel => exact ⟨i + 1, v', (dd).set v' (min (DV + SV) 40), by have h2 := HIK.out; omega, Lib.hid (by show stepQ xs sh (stQ xs sh (m, db) i) = _; rw [hst.out, HS.out]), HS7⟩
      · have hcd : decide (y.c ≤ dv) = true := decide_eq_true hcm
        have hm : mayL xs (v, dd) = true := by
          have h1 := HDV.out
          have h2 := hsz.out
          simp only [mayL, HHv.out, Bool.true_and, h1, h2]
          exact hcd
        have hi : i = N := by
          rcases Nat.lt_or_ge i N with h1 | h1
          · have h2 := HLv.out.ends.2 i h1
            rw [hmt.out, hst.out, hm] at h2
            cases h2
          · have := HIK.out; omega
        have hlast := HLv.out.last
        rw [hmt.out, ← hi, hst.out] at hlast
        simp only [Prod.mk.injEq] at hlast
        obtain ⟨rfl, rfl⟩ := hlast
        have hKK : k1 = K := by rw [HK1.out]; exact HLv.out.place
        subst hKK
        obtain rfl : x = y := by have h1 := HLv.out.get; rw [HY.out] at h1; injection h1 with h1; exact h1.symm
        have hxc := HLv.out.size
        have hdb : dv ≤ 40 := by have := (okS_at HO.out).2; rw [HDV.out] at this; exact this
        clear hm hi
        obtain ⟨xa, xb, xc⟩ := x
        simp only at *
        go_wp2_with (fail)
        refine (call_int (spec_firstOf_any (v : Int) _ HS.out.lst.ts (by omega)) E1'.out).mono ?_
        rintro e w7 ⟨rfl, rfl⟩
        go_wp2_with (fail)
        refine wp_region_quiet_lit (by kernel_rfl) (by kernel_rfl) ?_
        repeat (first | go_big_quiet_step (fail) | quiet_step (fail))
        refine wpQuiet_nil ?_
        intro w4 hw'
        have HS4 : Hid (SpSt 26 29 3 w w4 (w.heap.size + 1 + 1 + 1) w2.heap.size ge gd n d1 E2 d2 d3 xs sh v dd) := Lib.hid (by obtain ⟨nq, rfl⟩ := hw'; exact HS.out.below (below_drewN (Below.refl _ _) nq))
        have hdc4 : Hid (w4.cell? ⟨gd, v, none⟩ = some (.int .i64 dv)) := Lib.hid (by obtain ⟨nq, rfl⟩ := hw'; exact hdc)
        have ya4 : w4.cell? ⟨ge, k1 * 3, none⟩ = some (.int .i64 xa) := by obtain ⟨nq, rfl⟩ := hw'; exact ya
        have yb4 : w4.cell? ⟨ge, k1 * 3 + 1, none⟩ = some (.int .i64 xb) := by obtain ⟨nq, rfl⟩ := hw'; exact yb
        have yc4 : w4.cell? ⟨ge, k1 * 3 + 2, none⟩ = some (.int .i64 xc) := by obtain ⟨nq, rfl⟩ := hw'; exact yc
        clear hw' q0 q1 q2 q3 ql hdc HS ya yb yc
        obtain ⟨q0, q1, q2, q3⟩ := HS4.out.q.c4
        go_wp2_with (fail)
        clear q0 q1 q2 q3 ya4 yb4 yc4
        have XB : Hid (Blk (w4.alloc (.cells #[.int .i64 xa, .int .i64 xb, .int .i64 xc] 29)) w4.heap.size 29 #[.int .i64 xa, .int .i64 xb, .int .i64 xc]) := Lib.hid (Blk.new _ _ _)
        have HS5 := Lib.hid (HS4.out.below (below_new w4 (.cells #[.int .i64 xa, .int .i64 xb, .int .i64 xc] 29)))
        have hdc5 := cell_alloc hdc4.out (.cells #[.int .i64 xa, .int .i64 xb, .int .i64 xc] 29)
        have hgl4 : w2.heap.size < w4.heap.size := HS4.out.q.lt
        obtain ⟨w5, e5⟩ : ∃ y : World, y = w4.alloc (.cells #[.int .i64 xa, .int .i64 xb, .int .i64 xc] 29) := ⟨_, rfl⟩
        rw [← e5] at XB HS5 hdc5 ⊢
        clear e5 hdc4 HS4
        obtain ⟨q0, q1, q2, q3⟩ := HS5.out.q.c4
        obtain ⟨y0, y1, y2⟩ := XB.out.c3
        have fd : w5.frozen? ⟨gd, v, none⟩ = false := World.ownsRow.frozenAt HS5.out.deb v
        go_region
        clear q0 q1 q2 q3 y0 y1 y2 fd hdc5
        obtain ⟨w6, e6⟩ : ∃ y : World, y = (w5.setCell ⟨gd, v, none⟩ (.int .i64 (dv - xc))).drew := ⟨_, rfl⟩
        have HS6 : Hid (SpSt 26 29 3 w w6 (w.heap.size + 1 + 1 + 1) w2.heap.size ge gd n d1 E2 d2 d3 xs sh v (dd.set v (dv - xc))) := Lib.hid (by
          rw [e6]
          exact HS5.out.next DJ.out ((Row2.refl w5 _ _).setA v _).drew (HS5.out.q.far (p := ⟨gd, v, none⟩) (by show w2.heap.size ≠ gd; omega) _).drew (HS5.out.deb.storedS v (dv - xc)).drew)
        have XB6 : Hid (Blk w6 w4.heap.size 29 #[.int .i64 xa, .int .i64 xb, .int .i64 xc]) := Lib.hid (by rw [e6]; exact (XB.out.far (p := ⟨gd, v, none⟩) (by show w4.heap.size ≠ gd; omega) _).drew)
        rw [← e6]
        clear e6 HS5 XB
        obtain ⟨q0, q1, q2, q3⟩ := HS6.out.q.c4
        go_wp2_with (fail)
        refine (spec_leave_any k1 w6 HS6.out.lst.ts hk1n (by omega)).mono ?_
        clear q0 q1 q2 q3
        rintro e w7 ⟨F, k7, c7, rfl, ho, hb⟩
        have hz7 := hb.size
        have hz6 := HS6.out.q.lt
        have O7 := Lib.hid ho
        have Q7 := Lib.hid (HS6.out.q.on hb)
        have D7 := Lib.hid (HS6.out.deb.below hb (Nat.le_refl _))
        have S7 := Lib.hid (HS6.out.shr.below hb (Nat.le_refl _))
        have LD := Lib.hid HS6.out.deb.lt
        have LS := Lib.hid HS6.out.shr.lt
        have X7 := Lib.hid (XB6.out.on hb)
        have R17 := Lib.hid (HS6.out.r1.on hb)
        have R27 := Lib.hid (HS6.out.r2.on hb)
        have B7 := Lib.hid (HS6.out.bel.trans (hb.mono HS6.out.bel.size))
        clear ho hb HS6 XB6
        obtain ⟨q0, q1, q2, q3⟩ := Q7.out.c4
        have fq := Q7.out.frozen 0
        go_wp2_with (fail)
        clear q0 q1 q2 q3 fq
        obtain ⟨w8, e8⟩ : ∃ y : World, y = w7.setCell ⟨w2.heap.size, 0, none⟩ (.slice F k7 c7) := ⟨_, rfl⟩
        have Q8 : Hid (Blk w8 w2.heap.size 26 #[.slice F k7 c7, .slice E2 3 d2, .slice (some ⟨gd, 0, none⟩) 3 d3, .int .i64 (v : Int)]) := Lib.hid (by rw [e8]; exact Q7.out.set_ 0 _)
        have O8 : Hid (OT w8 29 w6.heap.size F k7 c7 (leaveL xs k1)) := Lib.hid (by rw [e8]; exact O7.out.setCell (by show w2.heap.size < w6.heap.size; omega) _)
        have D8 : Hid (OW w8 3 (w.heap.size + 1 + 1 + 1) (some ⟨gd, 0, none⟩) 3 d3 (dd.set v (dv - xc))) := Lib.hid (by rw [e8]; exact D7.out.setCell2 (.inr (dj_ne (by show w2.heap.size ≠ gd; omega))) _)
        have S8 : Hid (OW w8 3 (w.heap.size + 1 + 1 + 1) E2 3 d2 sh) := Lib.hid (by rw [e8]; exact S7.out.setCell2 (.inr DJ.out.q2) _)
        have X8 : Hid (Blk w8 w4.heap.size 29 #[.int .i64 xa, .int .i64 xb, .int .i64 xc]) := Lib.hid (by rw [e8]; exact X7.out.far (by show w4.heap.size ≠ w2.heap.size; omega) _)
        have R18 : Hid (Blk w8 (w.heap.size + 1) 29 #[.int .i64 0, .int .i64 0, .int .i64 0]) := Lib.hid (by rw [e8]; exact R17.out.far (by show w.heap.size + 1 ≠ w2.heap.size; omega) _)
        have R28 : Hid (Blk w8 (w.heap.size + 1 + 1) 26 #[.slice none 0 0, .slice none 0 0, .slice none 0 0, .int .i64 0]) := Lib.hid (by rw [e8]; exact R27.out.far (by show w.heap.size + 1 + 1 ≠ w2.heap.size; omega) _)
        have B8 : Hid (Below w.heap.size w w8) := Lib.hid (by rw [e8]; exact B7.out.setCell (by show w.heap.size ≤ w2.heap.size; omega) _)
        have JD : Hid (Disj F (some ⟨gd, 0, none⟩)) := Lib.hid (Disj.mk (B := w6.heap.size) LD.out O7.out.ge).symm
        have JS : Hid (Disj F E2) := Lib.hid (Disj.mk (B := w6.heap.size) LS.out O7.out.ge).symm
        rw [← e8]
        clear e8 Q7 O7 D7 S7 X7 R17 R27 B7 LD LS
        obtain ⟨q0, q1, q2, q3⟩ := Q8.out.c4
        obtain ⟨y0, y1, y2⟩ := X8.out.c3
        obtain ⟨r0, r1, r2, r3⟩ := R28.out.c4
        obtain ⟨z0, z1, z2⟩ := R18.out.c3
        have fr0 := R28.out.frozen 0
        have fr1 := R28.out.frozen 1
        have fr2 := R28.out.frozen 2
        have fr3 := R28.out.frozen 3
        have fz0 := R18.out.frozen 0
        have fz1 := R18.out.frozen 1
        have fz2 := R18.out.frozen 2
        have hx1 : w4.heap.size ≠ w.heap.size + 1 := by omega
        have hx2 : w4.heap.size ≠ w.heap.size + 1 + 1 := by omega
        have hx3 : w2.heap.size ≠ w.heap.size + 1 := by omega
        have hx4 : w2.heap.size ≠ w.heap.size + 1 + 1 := by omega
        go_region
        all_goals (
          go_wp2_with (fail)
          refine bodyPost_ret (v := .tuple #[.agg #[.int .i64 xa, .int .i64 xb, .int .i64 xc], .agg #[.slice F k7 c7, .slice E2 3 d2, .slice (some ⟨gd, 0, none⟩) 3 d3, .int .i64 (v : Int)], .bool true]) (by simp [results, Try.results18, go_sem, z0, z1, z2, r0, r1, r2, r3]) rfl ?_
          refine ⟨F, k7, c7, E2, 3, d2, some ⟨gd, 0, none⟩, 3, d3, rfl, ?_, ?_, ?_, JS.out, JD.out, DJ.out.d2.symm, ?_⟩
          · refine OT.base_le (base := w6.heap.size) ?_ (by omega)
            repeat (first | (with_reducible exact O8.out) | with_reducible refine OT.drew ?_ | refine OT.setCell ?_ (by first | (simp; done) | (simp; omega)) _)
          · refine OW.base_le (base := w.heap.size + 1 + 1 + 1) ?_ (by omega)
            repeat (first | (with_reducible exact S8.out) | with_reducible refine OW.drew ?_ | refine OW.setCell ?_ (by simp) _)
          · rw [HDV.out]
            refine OW.base_le (base := w.heap.size + 1 + 1 + 1) ?_ (by omega)
            repeat (first | (with_reducible exact D8.out) | with_reducible refine OW.drew ?_ | refine OW.setCell ?_ (by simp) _)
          · repeat' (first | (with_reducible exact B8.out) | with_reducible refine Below.drew ?_ | refine Below.setCell ?_ ?_ _ | omega | (simp; done) | (simp; omega)))
theorem impl_PopEntry_any {A A2 A3 : Option Addr} {n c n2 c2 n3 c3 : Nat} {xs : List Tr} {sh db : List Int} (t : Int) (w : World) (h : TS w A n c xs) (h2 : IS w A2 n2 c2 sh) (h3 : IS w A3 n3 c3 db) :
    Calls Try.prog 17 #[.agg #[.slice A n c, .slice A2 n2 c2, .slice A3 n3 c3, .int .i64 t]] w (GavePop 29 3 w (popX xs sh db t) (popL xs sh db t) (popH xs sh db t) (popD xs sh db t) (popT xs sh db t) (popOK xs sh db t)) := by
  rcases hk : popOK xs sh db t with _ | _
  · have := impl_PopEntry_no t w h h2 h3 hk
    rwa [hk] at this
  · exact impl_PopEntry_yes t w h h2 h3 hk
theorem spec_PopEntry_any {A A2 A3 : Option Addr} {n c n2 c2 n3 c3 : Nat} {xs : List Tr} {sh db : List Int} (t : Int) (w : World) (h : TS w A n c xs) (h2 : IS w A2 n2 c2 sh) (h3 : IS w A3 n3 c3 db) :
    Calls Try.prog 18 #[.agg #[.slice A n c, .slice A2 n2 c2, .slice A3 n3 c3, .int .i64 t]] w (GavePop 29 3 w (popX xs sh db t) (popL xs sh db t) (popH xs sh db t) (popD xs sh db t) (popT xs sh db t) (popOK xs sh db t)) := by
  rcases hk : popOK xs sh db t with _ | _
  · have := spec_PopEntry_no t w h h2 h3 hk
    rwa [hk] at this
  · exact spec_PopEntry_yes t w h h2 h3 hk
end Go.Proofs.Ythemfejahohbeaa
