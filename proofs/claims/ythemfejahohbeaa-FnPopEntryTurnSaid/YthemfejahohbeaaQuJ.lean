/-
  Contracts of queues: an entry leaves, by the program.
-/
import Derived.Test.YthemfejahohbeaaQuF
import Derived.Test.YthemfejahohbeaaQuG
import Derived.Test.YthemfejahohbeaaQuH
import Derived.Test.YthemfejahohbeaaQuA
import Derived.Deep.LoopGhost
namespace Go.Proofs.Ythemfejahohbeaa
open Go.RowKit
/-- A call has handed back an entry, a queue with new memory, and whether there is one. -/
def GavePop (T TI : Nat) (w : World) (x : Tr) (xs : List Tr) (sh db : List Int) (t : Int) (b : Bool) (e : Ending) (w' : World) : Prop :=
  ∃ A1 n1 c1 A2 n2 c2 A3 n3 c3, e = .returned (.tuple #[.agg #[.int .i64 x.a, .int .i64 x.b, .int .i64 x.c], .agg #[.slice A1 n1 c1, .slice A2 n2 c2, .slice A3 n3 c3, .int .i64 t], .bool b]) ∧ OT w' T w.heap.size A1 n1 c1 xs ∧ OW w' TI w.heap.size A2 n2 c2 sh ∧ OW w' TI w.heap.size A3 n3 c3 db ∧ Disj A1 A2 ∧ Disj A1 A3 ∧ Disj A2 A3 ∧ Below w.heap.size w w'
theorem gavePop_f {T TI : Nat} {w w' : World} {xs : List Tr} {sh db : List Int} {t : Int} {b : Bool} (h : popOK xs sh db t = false) (k : b = false) (hb : Below w.heap.size w w') :
    GavePop T TI w (popX xs sh db t) (popL xs sh db t) (popH xs sh db t) (popD xs sh db t) (popT xs sh db t) b (.returned (.tuple #[.agg #[.int .i64 0, .int .i64 0, .int .i64 0], .agg #[.slice none 0 0, .slice none 0 0, .slice none 0 0, .int .i64 0], .bool false])) w' := by
  obtain ⟨e1, e2, e3, e4, e5⟩ := pop_no h
  rw [e1, e2, e3, e4, e5, k]
  exact ⟨none, 0, 0, none, 0, 0, none, 0, 0, rfl, OT.nil _ _ _, OW.nil _ _ _, OW.nil _ _ _, disj_none _, disj_none _, disj_none _, hb⟩
/-- What stands at the head of each round. -/
structure PopSt (TQ TE TL TI : Nat) (w wr : World) (B gq gl ge gd : Nat) (n d1 : Nat) (E2 : Option Addr) (d2 d3 : Nat) (L0 : Option Addr) (a0 b0 : Nat) (L1 : Option Addr) (a1 b1 : Nat) (L2 : Option Addr) (a2 b2 : Nat) (xs : List Tr) (sh : List Int) (u : Nat) (d : List Int) : Prop where
  q : Blk wr gq TQ #[.slice (some ⟨ge, 0, none⟩) n d1, .slice E2 3 d2, .slice (some ⟨gd, 0, none⟩) 3 d3, .int .i64 (u : Int)]
  deb : OW wr TI B (some ⟨gd, 0, none⟩) 3 d3 d
  lst : OT wr TE B (some ⟨ge, 0, none⟩) n d1 xs
  shr : OW wr TI B E2 3 d2 sh
  l0 : TS wr L0 a0 b0 (cls 0 xs)
  l1 : TS wr L1 a1 b1 (cls 1 xs)
  l2 : TS wr L2 a2 b2 (cls 2 xs)
  ls : Blk wr gl TL #[.slice L0 a0 b0, .slice L1 a1 b1, .slice L2 a2 b2]
  r1 : Blk wr (w.heap.size + 1) TE #[.int .i64 0, .int .i64 0, .int .i64 0]
  r2 : Blk wr (w.heap.size + 1 + 1) TQ #[.slice none 0 0, .slice none 0 0, .slice none 0 0, .int .i64 0]
  bel : Below w.heap.size w wr
/-- Where the blocks lie. -/
structure PopDj (w : World) (gq gl ge gd : Nat) (E2 L0 L1 L2 : Option Addr) : Prop where
  hq : w.heap.size + 1 + 1 < gq
  hl : gq < gl
  he : w.heap.size + 1 + 1 < ge ∧ ge < gq
  hd : w.heap.size + 1 + 1 < gd ∧ gd < gq
  ned : ge ≠ gd
  q2 : Disj (some ⟨gq, 0, none⟩) E2
  d2 : Disj (some ⟨gd, 0, none⟩) E2
  e2 : Disj (some ⟨ge, 0, none⟩) E2
  ql0 : Disj (some ⟨gq, 0, none⟩) L0
  ql1 : Disj (some ⟨gq, 0, none⟩) L1
  ql2 : Disj (some ⟨gq, 0, none⟩) L2
  dl0 : Disj (some ⟨gd, 0, none⟩) L0
  dl1 : Disj (some ⟨gd, 0, none⟩) L1
  dl2 : Disj (some ⟨gd, 0, none⟩) L2
theorem dj_ne {a b : Nat} (h : a ≠ b) : Disj (some ⟨a, 0, none⟩) (some ⟨b, 0, none⟩) := fun p q hp hq => by cases hp; cases hq; exact h
theorem PopSt.next {TQ TE TL TI : Nat} {w wr wx : World} {B gq gl ge gd n d1 : Nat} {E2 : Option Addr} {d2 d3 : Nat} {L0 : Option Addr} {a0 b0 : Nat} {L1 : Option Addr} {a1 b1 : Nat} {L2 : Option Addr} {a2 b2 : Nat} {xs : List Tr} {sh : List Int} {u u' : Nat} {d d' : List Int}
    (h : PopSt TQ TE TL TI w wr B gq gl ge gd n d1 E2 d2 d3 L0 a0 b0 L1 a1 b1 L2 a2 b2 xs sh u d) (j : PopDj w gq gl ge gd E2 L0 L1 L2) (hr : Row2 wr wx gq (some ⟨gd, 0, none⟩))
    (hq : Blk wx gq TQ #[.slice (some ⟨ge, 0, none⟩) n d1, .slice E2 3 d2, .slice (some ⟨gd, 0, none⟩) 3 d3, .int .i64 (u' : Int)]) (hd : OW wx TI B (some ⟨gd, 0, none⟩) 3 d3 d') :
    PopSt TQ TE TL TI w wx B gq gl ge gd n d1 E2 d2 d3 L0 a0 b0 L1 a1 b1 L2 a2 b2 xs sh u' d' := by
  have h1 := j.hq
  have h2 := j.hl
  have h3 := j.he
  have h4 := j.hd
  refine ⟨hq, hd, h.lst.row2 hr (dj_ne (by omega)) (dj_ne j.ned.symm), h.shr.row2 hr j.q2 j.d2, h.l0.row2 hr j.ql0 j.dl0, h.l1.row2 hr j.ql1 j.dl1, h.l2.row2 hr j.ql2 j.dl2, h.ls.row2 hr (by omega) (by simp; omega), h.r1.row2 hr (by omega) (by simp; omega), h.r2.row2 hr (by omega) (by simp; omega), ?_⟩
  refine below_row2 h.bel hr (by have := h.q.lt; omega) (by omega) (fun p hp => by cases hp; show w.heap.size ≤ gd; omega)
theorem PopSt.quiet {TQ TE TL TI : Nat} {w wr : World} {B gq gl ge gd n d1 : Nat} {E2 : Option Addr} {d2 d3 : Nat} {L0 : Option Addr} {a0 b0 : Nat} {L1 : Option Addr} {a1 b1 : Nat} {L2 : Option Addr} {a2 b2 : Nat} {xs : List Tr} {sh : List Int} {u : Nat} {d : List Int}
    (h : PopSt TQ TE TL TI w wr B gq gl ge gd n d1 E2 d2 d3 L0 a0 b0 L1 a1 b1 L2 a2 b2 xs sh u d) (k : Nat) : PopSt TQ TE TL TI w (wr.drewN k) B gq gl ge gd n d1 E2 d2 d3 L0 a0 b0 L1 a1 b1 L2 a2 b2 xs sh u d :=
  ⟨h.q, h.deb, h.lst, h.shr, h.l0, h.l1, h.l2, h.ls, h.r1, h.r2, below_drewN h.bel k⟩
theorem PopSt.below {TQ TE TL TI : Nat} {w wr wx : World} {B gq gl ge gd n d1 : Nat} {E2 : Option Addr} {d2 d3 : Nat} {L0 : Option Addr} {a0 b0 : Nat} {L1 : Option Addr} {a1 b1 : Nat} {L2 : Option Addr} {a2 b2 : Nat} {xs : List Tr} {sh : List Int} {u : Nat} {d : List Int}
    (h : PopSt TQ TE TL TI w wr B gq gl ge gd n d1 E2 d2 d3 L0 a0 b0 L1 a1 b1 L2 a2 b2 xs sh u d) (hb : Below wr.heap.size wr wx) : PopSt TQ TE TL TI w wx B gq gl ge gd n d1 E2 d2 d3 L0 a0 b0 L1 a1 b1 L2 a2 b2 xs sh u d :=
  ⟨h.q.on hb, h.deb.below hb (Nat.le_refl _), h.lst.below hb (Nat.le_refl _), h.shr.below hb (Nat.le_refl _), h.l0.below hb (Nat.le_refl _), h.l1.below hb (Nat.le_refl _), h.l2.below hb (Nat.le_refl _), h.ls.on hb, h.r1.on hb, h.r2.on hb, h.bel.trans (hb.mono h.bel.size)⟩
theorem disj_lt {g B : Nat} {A : Option Addr} (h : g < B) (k : Ge A B) : Disj (some ⟨g, 0, none⟩) A := fun p q hp hq e => by
  cases hp
  have := k q hq
  simp at e
  omega
theorem quiet_eq {P : Program} {f : FuncId} {args : Array Value} {w : World} {n : Nat} {v : Value} (h : Calls P f args (w.drewN n) fun e w' => e = .returned v ∧ w.drewN n = w') : Calls P f args (w.drewN n) fun e w'' => e = .returned v ∧ ∃ m, w'' = w.drewN m :=
  h.mono fun _ _ ⟨he, hm⟩ => ⟨he, n, hm.symm⟩
theorem where_lt {xs : List Tr} {k : Nat} {x : Tr} (h : xs[k]? = some x) : whereA x.a xs < xs.length := by
  unfold whereA
  exact List.findIdx_lt_length_of_exists ⟨x, List.mem_of_getElem? h, by simp⟩
/-- The list of a class, in memory. -/
theorem PopSt.list {TQ TE TL TI : Nat} {w wr : World} {B gq gl ge gd n d1 : Nat} {E2 : Option Addr} {d2 d3 : Nat} {L0 : Option Addr} {a0 b0 : Nat} {L1 : Option Addr} {a1 b1 : Nat} {L2 : Option Addr} {a2 b2 : Nat} {xs : List Tr} {sh : List Int} {u v : Nat} {d : List Int}
    (h : PopSt TQ TE TL TI w wr B gq gl ge gd n d1 E2 d2 d3 L0 a0 b0 L1 a1 b1 L2 a2 b2 xs sh u d) (hv : v < 3) : ∃ L a b, wr.cell? ⟨gl, v, none⟩ = some (.slice L a b) ∧ TS wr L a b (cls (v : Int) xs) := by
  rcases nat3 hv with rfl | rfl | rfl
  · exact ⟨L0, a0, b0, h.ls.cell 0, h.l0⟩
  · exact ⟨L1, a1, b1, h.ls.cell 1, h.l1⟩
  · exact ⟨L2, a2, b2, h.ls.cell 2, h.l2⟩
set_option maxHeartbeats 4000000 in
theorem impl_PopEntry_no {A A2 A3 : Option Addr} {n c n2 c2 n3 c3 : Nat} {xs : List Tr} {sh db : List Int} (t : Int) (w : World) (h : TS w A n c xs) (h2 : IS w A2 n2 c2 sh) (h3 : IS w A3 n3 c3 db) (hk : popOK xs sh db t = false) :
    Calls Try.prog 17 #[.agg #[.slice A n c, .slice A2 n2 c2, .slice A3 n3 c3, .int .i64 t]] w (GavePop 29 3 w (popX xs sh db t) (popL xs sh db t) (popH xs sh db t) (popD xs sh db t) (popT xs sh db t) (popOK xs sh db t)) := by
  have HL := Lib.hid h.len
  have H := Lib.hid (((h.alloc (.cells #[.slice A n c, .slice A2 n2 c2, .slice A3 n3 c3, .int .i64 t] 26)).alloc (.cells #[.int .i64 0, .int .i64 0, .int .i64 0] 29)).alloc (.cells #[.slice none 0 0, .slice none 0 0, .slice none 0 0, .int .i64 0] 26))
  have H2 := Lib.hid (((h2.alloc (.cells #[.slice A n c, .slice A2 n2 c2, .slice A3 n3 c3, .int .i64 t] 26)).alloc (.cells #[.int .i64 0, .int .i64 0, .int .i64 0] 29)).alloc (.cells #[.slice none 0 0, .slice none 0 0, .slice none 0 0, .int .i64 0] 26))
  have H3 := Lib.hid (((h3.alloc (.cells #[.slice A n c, .slice A2 n2 c2, .slice A3 n3 c3, .int .i64 t] 26)).alloc (.cells #[.int .i64 0, .int .i64 0, .int .i64 0] 29)).alloc (.cells #[.slice none 0 0, .slice none 0 0, .slice none 0 0, .int .i64 0] 26))
  have B0 := Lib.hid ((((Below.refl w.heap.size w).alloc (Nat.le_refl _) (.cells #[.slice A n c, .slice A2 n2 c2, .slice A3 n3 c3, .int .i64 t] 26)).alloc (by simp) (.cells #[.int .i64 0, .int .i64 0, .int .i64 0] 29)).alloc (by simp; omega) (.cells #[.slice none 0 0, .slice none 0 0, .slice none 0 0, .int .i64 0] 26))
  have P0 := Lib.hid (((Blk.new w 26 #[.slice A n c, .slice A2 n2 c2, .slice A3 n3 c3, .int .i64 t]).alloc (.cells #[.int .i64 0, .int .i64 0, .int .i64 0] 29)).alloc (.cells #[.slice none 0 0, .slice none 0 0, .slice none 0 0, .int .i64 0] 26))
  have X0 : Hid (Blk _ (w.heap.size + 1) 29 #[.int .i64 0, .int .i64 0, .int .i64 0]) := Lib.hid ((by simpa using Blk.new (w.alloc (.cells #[.slice A n c, .slice A2 n2 c2, .slice A3 n3 c3, .int .i64 t] 26)) 29 #[.int .i64 0, .int .i64 0, .int .i64 0] : Blk _ (w.heap.size + 1) _ _).alloc (.cells #[.slice none 0 0, .slice none 0 0, .slice none 0 0, .int .i64 0] 26))
  have R0 : Hid (Blk _ (w.heap.size + 1 + 1) 26 #[.slice none 0 0, .slice none 0 0, .slice none 0 0, .int .i64 0]) := Lib.hid (by simpa using Blk.new ((w.alloc (.cells #[.slice A n c, .slice A2 n2 c2, .slice A3 n3 c3, .int .i64 t] 26)).alloc (.cells #[.int .i64 0, .int .i64 0, .int .i64 0] 29)) 26 #[.slice none 0 0, .slice none 0 0, .slice none 0 0, .int .i64 0])
  clear h h2 h3
  have HK := Lib.hid hk
  rcases hv : validQ xs sh db t with _ | _
  · clear hk
    go_enter Try.func17, Try.ntmps17
    go_wp2_with (fail)
    refine (call_b (impl_ValidQueue_any t _ H.out H2.out H3.out) hv).mono ?_
    rintro e w1 ⟨rfl, hb⟩
    have X1 := Lib.hid (X0.out.on hb)
    have R1 := Lib.hid (R0.out.on hb)
    have P1 := Lib.hid (P0.out.on hb)
    have B1 := Lib.hid (B0.out.trans (hb.mono B0.out.size))
    clear hb
    obtain ⟨p0, p1, p2, p3⟩ := P1.out.c4
    have pl := P1.out.lt
    obtain ⟨x0, x1, x2⟩ := X1.out.c3
    have xl := X1.out.lt
    have fx0 := X1.out.frozen 0
    have fx1 := X1.out.frozen 1
    have fx2 := X1.out.frozen 2
    obtain ⟨r0, r1, r2, r3⟩ := R1.out.c4
    have rl := R1.out.lt
    have f0 := R1.out.frozen 0
    have f1 := R1.out.frozen 1
    have f2 := R1.out.frozen 2
    have f3 := R1.out.frozen 3
    go_wp2_with (fail)
    refine bodyPost_ret (v := .tuple #[.agg #[.int .i64 0, .int .i64 0, .int .i64 0], .agg #[.slice none 0 0, .slice none 0 0, .slice none 0 0, .int .i64 0], .bool false]) (by simp [results, Try.results17, go_sem, x0, x1, x2, r0, r1, r2, r3]) rfl ?_
    refine gavePop_f HK.out HK.out ?_
    repeat' (first | with_reducible exact B1.out | refine Below.setCell ?_ ?_ _ | omega | (simp; done) | (simp; omega))
  · have hx : xs = [] := by
      rcases xs with _ | ⟨y, l⟩
      · rfl
      · simp [popOK, hv] at hk
    obtain rfl : n = 0 := by have := HL.out; rw [hx] at this; exact this.symm
    have HV := Lib.hid hv
    clear hk hx hv
    go_enter Try.func17, Try.ntmps17
    go_wp2_with (fail)
    refine (call_b (impl_ValidQueue_any t _ H.out H2.out H3.out) HV.out).mono ?_
    rintro e w1 ⟨rfl, hb⟩
    have X1 := Lib.hid (X0.out.on hb)
    have R1 := Lib.hid (R0.out.on hb)
    have P1 := Lib.hid (P0.out.on hb)
    have B1 := Lib.hid (B0.out.trans (hb.mono B0.out.size))
    clear hb
    obtain ⟨p0, p1, p2, p3⟩ := P1.out.c4
    have pl := P1.out.lt
    obtain ⟨x0, x1, x2⟩ := X1.out.c3
    have xl := X1.out.lt
    have fx0 := X1.out.frozen 0
    have fx1 := X1.out.frozen 1
    have fx2 := X1.out.frozen 2
    obtain ⟨r0, r1, r2, r3⟩ := R1.out.c4
    have rl := R1.out.lt
    have f0 := R1.out.frozen 0
    have f1 := R1.out.frozen 1
    have f2 := R1.out.frozen 2
    have f3 := R1.out.frozen 3
    go_wp2_with (fail)
    refine bodyPost_ret (v := .tuple #[.agg #[.int .i64 0, .int .i64 0, .int .i64 0], .agg #[.slice none 0 0, .slice none 0 0, .slice none 0 0, .int .i64 0], .bool false]) (by simp [results, Try.results17, go_sem, x0, x1, x2, r0, r1, r2, r3]) rfl ?_
    refine gavePop_f HK.out HK.out ?_
    repeat' (first | with_reducible exact B1.out | refine Below.setCell ?_ ?_ _ | omega | (simp; done) | (simp; omega))
set_option maxHeartbeats 16000000 in
theorem impl_PopEntry_yes {A A2 A3 : Option Addr} {n c n2 c2 n3 c3 : Nat} {xs : List Tr} {sh db : List Int} (t : Int) (w : World) (h : TS w A n c xs) (h2 : IS w A2 n2 c2 sh) (h3 : IS w A3 n3 c3 db) (hk : popOK xs sh db t = true) :
    Calls Try.prog 17 #[.agg #[.slice A n c, .slice A2 n2 c2, .slice A3 n3 c3, .int .i64 t]] w (GavePop 29 3 w (popX xs sh db t) (popL xs sh db t) (popH xs sh db t) (popD xs sh db t) (popT xs sh db t) true) := by
  obtain ⟨N, u, d, K, x, hlv, eX, eL, eH, eD, eT⟩ := leaves_of hk
  rw [eX, eL, eH, eD, eT]
  obtain ⟨hv, hne⟩ := popOK_iff.1 hk
  obtain ⟨hvE, hvS, hvD, hvT⟩ := validQ_iff.1 hv
  obtain ⟨ht0, ht2⟩ := inR_iff.1 hvT
  obtain ⟨m, rfl⟩ := Int.eq_ofNat_of_zero_le ht0
  have hmT : ((m : Int)).toNat = m := Int.toNat_natCast m
  have HLv := Lib.hid hlv
  have HL := Lib.hid h.len
  have hn0 : 0 < n := by have h1 := HL.out; have h2 := List.length_pos_iff.2 hne; omega
  have hn10 : n ≤ 10 := by have h1 := HL.out; have h2 := (validE_iff.1 hvE).1; omega
  have hn3 : n3 = 3 := by have h1 := h3.len; have h2 := (cnt_iff.1 hvD).1; omega
  have hn2 : n2 = 3 := by have h1 := h2.len; have h2 := (cnt_iff.1 hvS).1; omega
  subst hn3 hn2
  have HOK : Hid (OkS (m, db) ∧ cnt sh 1 20 = true) := Lib.hid (okS_of hv)
  have HV := Lib.hid hv
  have HE := Lib.hid (validE_iff.1 hvE)
  have hmt := Lib.hid hmT
  have hn00 : ((n : Int) == 0) = false := by simp; omega
  have H := Lib.hid (((h.alloc (.cells #[.slice A n c, .slice A2 3 c2, .slice A3 3 c3, .int .i64 (m : Int)] 26)).alloc (.cells #[.int .i64 0, .int .i64 0, .int .i64 0] 29)).alloc (.cells #[.slice none 0 0, .slice none 0 0, .slice none 0 0, .int .i64 0] 26))
  have H2 := Lib.hid (((h2.alloc (.cells #[.slice A n c, .slice A2 3 c2, .slice A3 3 c3, .int .i64 (m : Int)] 26)).alloc (.cells #[.int .i64 0, .int .i64 0, .int .i64 0] 29)).alloc (.cells #[.slice none 0 0, .slice none 0 0, .slice none 0 0, .int .i64 0] 26))
  have H3 := Lib.hid (((h3.alloc (.cells #[.slice A n c, .slice A2 3 c2, .slice A3 3 c3, .int .i64 (m : Int)] 26)).alloc (.cells #[.int .i64 0, .int .i64 0, .int .i64 0] 29)).alloc (.cells #[.slice none 0 0, .slice none 0 0, .slice none 0 0, .int .i64 0] 26))
  have B0 := Lib.hid ((((Below.refl w.heap.size w).alloc (Nat.le_refl _) (.cells #[.slice A n c, .slice A2 3 c2, .slice A3 3 c3, .int .i64 (m : Int)] 26)).alloc (by simp) (.cells #[.int .i64 0, .int .i64 0, .int .i64 0] 29)).alloc (by simp; omega) (.cells #[.slice none 0 0, .slice none 0 0, .slice none 0 0, .int .i64 0] 26))
  have P0 := Lib.hid (((Blk.new w 26 #[.slice A n c, .slice A2 3 c2, .slice A3 3 c3, .int .i64 (m : Int)]).alloc (.cells #[.int .i64 0, .int .i64 0, .int .i64 0] 29)).alloc (.cells #[.slice none 0 0, .slice none 0 0, .slice none 0 0, .int .i64 0] 26))
  have X0 : Hid (Blk _ (w.heap.size + 1) 29 #[.int .i64 0, .int .i64 0, .int .i64 0]) := Lib.hid ((by simpa using Blk.new (w.alloc (.cells #[.slice A n c, .slice A2 3 c2, .slice A3 3 c3, .int .i64 (m : Int)] 26)) 29 #[.int .i64 0, .int .i64 0, .int .i64 0] : Blk _ (w.heap.size + 1) _ _).alloc (.cells #[.slice none 0 0, .slice none 0 0, .slice none 0 0, .int .i64 0] 26))
  have R0 : Hid (Blk _ (w.heap.size + 1 + 1) 26 #[.slice none 0 0, .slice none 0 0, .slice none 0 0, .int .i64 0]) := Lib.hid (by simpa using Blk.new ((w.alloc (.cells #[.slice A n c, .slice A2 3 c2, .slice A3 3 c3, .int .i64 (m : Int)] 26)).alloc (.cells #[.int .i64 0, .int .i64 0, .int .i64 0] 29)) 26 #[.slice none 0 0, .slice none 0 0, .slice none 0 0, .int .i64 0])
  clear h h2 h3
  clear hk hlv eX eL eH eD eT hv hne hvE hvS hvD hvT ht0 ht2 hmT
  go_enter Try.func17, Try.ntmps17
  go_wp2_with (fail)
  refine (call_b (impl_ValidQueue_any (m : Int) _ H.out H2.out H3.out) HV.out).mono ?_
  rintro e w1 ⟨rfl, hb⟩
  have X1 := Lib.hid (X0.out.on hb)
  have R1 := Lib.hid (R0.out.on hb)
  have P1 := Lib.hid (P0.out.on hb)
  have T1 := Lib.hid (H.out.below hb (Nat.le_refl _))
  have S1 := Lib.hid (H2.out.below hb (Nat.le_refl _))
  have D1 := Lib.hid (H3.out.below hb (Nat.le_refl _))
  have B1 := Lib.hid (B0.out.trans (hb.mono B0.out.size))
  clear hb
  have rl1 : w.heap.size + 1 + 1 < w1.heap.size := R1.out.lt
  obtain ⟨p0, p1, p2, p3⟩ := P1.out.c4
  have pl := P1.out.lt
  go_wp2_with (fail)
  refine (impl_copyQueue_any (m : Int) _ T1.out S1.out D1.out (by omega) (by omega) (by omega)).mono ?_
  clear p0 p1 p2 p3 pl
  rintro e w2 ⟨E1, m1, d1, E2, m2, d2, E3, m3, d3, rfl, ho1, ho2, ho3, j12, j13, j23, hb⟩
  obtain rfl : n = m1 := by have h1 := ho1.len; have h2 := HL.out; omega
  obtain rfl : m2 = 3 := by have h1 := ho2.len; have h2 := (cnt_iff.1 HOK.out.2).1; omega
  obtain rfl : m3 = 3 := by have h1 := ho3.len; have h2 := HOK.out.1.2.1; simp only at h2; omega
  obtain ⟨ge, rfl, hge1, hge2⟩ := ho1.pos hn0
  obtain ⟨gd, rfl, hgd1, hgd2⟩ := ho3.pos (by omega)
  have hz2 := hb.size
  have X2 := Lib.hid (X1.out.on hb)
  have R2 := Lib.hid (R1.out.on hb)
  have P2 := Lib.hid (P1.out.on hb)
  have T2 := Lib.hid (T1.out.below hb (Nat.le_refl _))
  have B2 := Lib.hid (B1.out.trans (hb.mono B1.out.size))
  have O1 := Lib.hid ho1
  have O2 := Lib.hid ho2
  have O3 := Lib.hid ho3
  have J12 := Lib.hid j12
  have J13 := Lib.hid j13
  have J23 := Lib.hid j23
  clear hb ho1 ho2 ho3 j12 j13 j23
  obtain ⟨p0, p1, p2, p3⟩ := P2.out.c4
  have pl := P2.out.lt
  go_wp2_with (fail)
  refine (impl_splitByClass_any _ (T2.out.alloc _) (fun y hy => (HE.out.at_ hy).2.1) (by omega)).mono ?_
  clear p0 p1 p2 p3 pl
  rintro e w3 ⟨L0, a0, b0, L1, a1, b1, L2, a2, b2, rfl, hl0, hl1, hl2, hb⟩
  have hz3 := hb.size
  simp at hz3
  have DJ : Hid (PopDj w w2.heap.size w3.heap.size ge gd E2 L0 L1 L2) := Lib.hid ⟨by omega, by omega, ⟨by omega, by omega⟩, ⟨by omega, by omega⟩, fun e => J13.out _ _ rfl rfl e, (Disj.mk (B := w2.heap.size) O2.out.lt (fun p hp => by cases hp; exact Nat.le_refl _)).symm, J23.out.symm, J12.out,
    disj_lt (by simp) hl0.ge, disj_lt (by simp) hl1.ge, disj_lt (by simp) hl2.ge, disj_lt (by simp; omega) hl0.ge, disj_lt (by simp; omega) hl1.ge, disj_lt (by simp; omega) hl2.ge⟩
  have ST : Hid (PopSt 26 29 54 3 w (w3.alloc (.cells #[.slice L0 a0 b0, .slice L1 a1 b1, .slice L2 a2 b2] 54)) (w.heap.size + 1 + 1 + 1) w2.heap.size w3.heap.size ge gd n d1 E2 d2 d3 L0 a0 b0 L1 a1 b1 L2 a2 b2 xs sh m db) := Lib.hid
    ⟨((Blk.new w2 _ _).on hb).alloc _, (((O3.out.base_le (by omega)).alloc _).below hb (Nat.le_refl _)).alloc _, (((O1.out.base_le (by omega)).alloc _).below hb (Nat.le_refl _)).alloc _, (((O2.out.base_le (by omega)).alloc _).below hb (Nat.le_refl _)).alloc _, hl0.ts.alloc _, hl1.ts.alloc _, hl2.ts.alloc _, Blk.new _ _ _,
     ((X2.out.alloc _).on hb).alloc _, ((R2.out.alloc _).on hb).alloc _, ((B2.out.alloc (by omega) _).trans (hb.mono (by simp; omega))).alloc (by omega) _⟩
  clear hb hl0 hl1 hl2
  go_wp2_with (fail)
  obtain ⟨V, eV⟩ : ∃ v : World, v = w3.alloc (.cells #[.slice L0 a0 b0, .slice L1 a1 b1, .slice L2 a2 b2] 54) := ⟨_, rfl⟩
  rw [← eV] at ST ⊢
  clear eV X0 X1 X2 R0 R1 R2 P0 P1 P2 T1 T2 S1 D1 B0 B1 B2 O1 O2 O3 J12 J13 J23 H H2 H3
  go_loopg [] N (fun k wr => ∃ (i v : Nat) (dd : List Int), i + k = N ∧ Hid (stQ xs sh (m, db) i = (v, dd)) ∧ Hid (PopSt 26 29 54 3 w wr (w.heap.size + 1 + 1 + 1) w2.heap.size w3.heap.size ge gd n d1 E2 d2 d3 L0 a0 b0 L1 a1 b1 L2 a2 b2 xs sh v dd))
  case atStart => exact ⟨0, m, db, by omega, Lib.hid rfl, ST⟩
  case round =>
    obtain ⟨i, v, dd, hik, hst, HS⟩ := hrel
    clear ST
    have HO : Hid (OkS (v, dd)) := Lib.hid (by rw [← hst.out]; exact stQ_ok HOK.out.1 HOK.out.2 i)
    have hv3 : v < 3 := HO.out.1
    obtain ⟨L, la, lb, hcL, hTL⟩ := HS.out.list hv3
    have HTL := Lib.hid hTL
    have hlg : (dd.length = 3) := HO.out.2.1
    have hdc := ow_at HS.out.deb hv3
    obtain ⟨dv, hdv⟩ : ∃ y, dd.getD v 0 = y := ⟨_, rfl⟩
    rw [hdv] at hdc
    have HDV := Lib.hid hdv
    have hvi : (v : Int) < 3 := by omega
    have hvi0 : (0 : Int) ≤ (v : Int) := by omega
    obtain ⟨q0, q1, q2, q3⟩ := HS.out.q.c4
    have HIK := Lib.hid hik
    clear hTL hlg hdv hik
    rcases hm : mayL xs (v, dd) with _ | _
    · have hml : mayLL (cls (v : Int) xs) dv = false := by rw [← HDV.out, mayLL_eq]; exact hm
      have hi : Hid (i < N) := Lib.hid (by
        rcases Nat.lt_or_ge i N with h1 | h1
        · exact h1
        · have h2 := HLv.out.ends.1
          rw [hmt.out, show N = i by have := HIK.out; omega, hst.out, hm] at h2
          cases h2)
      have HML := Lib.hid hml
      clear hm hml
      go_wp2_with (fail)
      refine wp_region_quiet_lit (by kernel_rfl) (by kernel_rfl) ?_
      repeat (first | go_big_quiet_step ((go_at_call 44; exact quiet_eq (call_b (impl_mayLeave_any dv _ (HTL.out.drewN _)) HML.out))) | quiet_step ((go_at_call 44; exact quiet_eq (call_b (impl_mayLeave_any dv _ (HTL.out.drewN _)) HML.out))))
      refine wpQuiet_nil ?_
      intro w4 hw'
      have HS4 : Hid (PopSt 26 29 54 3 w w4 (w.heap.size + 1 + 1 + 1) w2.heap.size w3.heap.size ge gd n d1 E2 d2 d3 L0 a0 b0 L1 a1 b1 L2 a2 b2 xs sh v dd) := Lib.hid (by obtain ⟨nq, rfl⟩ := hw'; exact HS.out.quiet nq)
      clear hw' q0 q1 q2 q3 hcL hdc
      obtain ⟨l0, l1, l2⟩ := HS4.out.ls.c3
      have ll := HS4.out.ls.lt
      go_wp2_with (fail)
      refine (impl_passTurn_any v _ HS4.out.q HS4.out.shr.is HS4.out.deb HS4.out.l0.len.symm HS4.out.l1.len.symm HS4.out.l2.len.symm HO.out HOK.out.2 (by have h1 := DJ.out.hd; omega) DJ.out.d2 DJ.out.q2).mono ?_
      rintro e w5 ⟨rfl, hq, hd, hr⟩
      have HS5 := Lib.hid (HS4.out.next DJ.out hr hq hd)
      clear hq hd hr l0 l1 l2 ll
      have hgk : 0 < gk := by have h1 := hi.out; have h2 := HIK.out; omega
      go_wp2_with (fail)
      go_roundg (gk - 1)
      case measure => omega
      case rel => exact ⟨i + 1, (stepQ xs sh (v, dd)).1, (stepQ xs sh (v, dd)).2, by have h2 := HIK.out; omega, Lib.hid (by show stepQ xs sh (stQ xs sh (m, db) i) = _; rw [hst.out]), HS5⟩
    · have hi : i = N := by
        rcases Nat.lt_or_ge i N with h1 | h1
        · have h2 := HLv.out.ends.2 i h1
          rw [hmt.out, hst.out, hm] at h2
          cases h2
        · have := HIK.out; omega
      have hlast := HLv.out.last
      rw [hmt.out, ← hi, hst.out] at hlast
      simp only [Prod.mk.injEq] at hlast
      obtain ⟨rfl, rfl⟩ := hlast
      have hml : mayLL (cls (v : Int) xs) dv = true := by rw [← HDV.out, mayLL_eq]; exact hm
      have HML := Lib.hid hml
      have hla : 0 < la := by
        have h1 := HTL.out.len
        rcases hc : cls (v : Int) xs with _ | ⟨y, l⟩
        · rw [hc] at hml; cases hml
        · rw [hc] at h1; simp at h1; omega
      have hdx : x.c ≤ dv := by have := HLv.out.debt; rw [HDV.out] at this; exact this
      have hxc := HLv.out.size
      have hdb : dv ≤ 40 := by have := (okS_at HO.out).2; rw [HDV.out] at this; exact this
      have HX : Hid (xs[K]? = some x) := Lib.hid HLv.out.get
      clear hm hml hi
      go_wp2_with (fail)
      refine wp_region_quiet_lit (by kernel_rfl) (by kernel_rfl) ?_
      repeat (first | go_big_quiet_step ((go_at_call 44; exact quiet_eq (call_b (impl_mayLeave_any dv _ (HTL.out.drewN _)) HML.out))) | quiet_step ((go_at_call 44; exact quiet_eq (call_b (impl_mayLeave_any dv _ (HTL.out.drewN _)) HML.out))))
      refine wpQuiet_nil ?_
      intro w4 hw'
      have HS4 : Hid (PopSt 26 29 54 3 w w4 (w.heap.size + 1 + 1 + 1) w2.heap.size w3.heap.size ge gd n d1 E2 d2 d3 L0 a0 b0 L1 a1 b1 L2 a2 b2 xs sh v dd) := Lib.hid (by obtain ⟨nq, rfl⟩ := hw'; exact HS.out.quiet nq)
      have HTL4 : Hid (TS w4 L la lb (cls (v : Int) xs)) := Lib.hid (by obtain ⟨nq, rfl⟩ := hw'; exact HTL.out.drewN nq)
      have hcL4 : w4.cell? ⟨w3.heap.size, v, none⟩ = some (.slice L la lb) := by obtain ⟨nq, rfl⟩ := hw'; exact hcL
      have hdc4 : Hid (w4.cell? ⟨gd, v, none⟩ = some (.int .i64 dv)) := Lib.hid (by obtain ⟨nq, rfl⟩ := hw'; exact hdc)
      clear hw' q0 q1 q2 q3 hcL hdc
      obtain ⟨q0, q1, q2, q3⟩ := HS4.out.q.c4
      obtain ⟨bL, oL, x', rfl, hx', ca, cb, cc⟩ := HTL4.out.at_ hla
      obtain rfl : x = x' := by
        have h1 := cls_head (c := (v : Int)) (xs := xs)
        rw [hx', HLv.out.place, HX.out] at h1
        injection h1 with h1; exact h1.symm
      rw [Nat.zero_mul, Nat.add_zero] at ca cb cc
      have hla2 : (0 : Int) < (la : Int) := by omega
      clear hx'
      obtain ⟨xa, xb, xc⟩ := x
      simp only at *
      go_wp2_with (fail)
      clear q0 q1 q2 q3 hcL4 ca cb cc
      have XB : Hid (Blk (w4.alloc (.cells #[.int .i64 xa, .int .i64 xb, .int .i64 xc] 29)) w4.heap.size 29 #[.int .i64 xa, .int .i64 xb, .int .i64 xc]) := Lib.hid (Blk.new _ _ _)
      have HS5 := Lib.hid (HS4.out.below (below_new w4 (.cells #[.int .i64 xa, .int .i64 xb, .int .i64 xc] 29)))
      have hdc5 := cell_alloc hdc4.out (.cells #[.int .i64 xa, .int .i64 xb, .int .i64 xc] 29)
      have hgl4 : w3.heap.size < w4.heap.size := HS4.out.ls.lt
      obtain ⟨w5, e5⟩ : ∃ y : World, y = w4.alloc (.cells #[.int .i64 xa, .int .i64 xb, .int .i64 xc] 29) := ⟨_, rfl⟩
      rw [← e5] at XB HS5 hdc5 ⊢
      clear e5 hdc4 HS4
      obtain ⟨q0, q1, q2, q3⟩ := HS5.out.q.c4
      obtain ⟨y0, y1, y2⟩ := XB.out.c3
      have fd : w5.frozen? ⟨gd, v, none⟩ = false := World.ownsRow.frozenAt HS5.out.deb v
      go_region
      clear q0 q1 q2 q3 y0 y1 y2 fd hdc5
      obtain ⟨w6, e6⟩ : ∃ y : World, y = (w5.setCell ⟨gd, v, none⟩ (.int .i64 (dv - xc))).drew := ⟨_, rfl⟩
      have hDJ := DJ.out.hd
      have hDE := DJ.out.he
      have hDL := DJ.out.hl
      have hDQ := DJ.out.hq
      have hned := DJ.out.ned
      have HS6 : Hid (PopSt 26 29 54 3 w w6 (w.heap.size + 1 + 1 + 1) w2.heap.size w3.heap.size ge gd n d1 E2 d2 d3 L0 a0 b0 L1 a1 b1 L2 a2 b2 xs sh v (dd.set v (dv - xc))) := Lib.hid (by
        rw [e6]
        exact HS5.out.next DJ.out ((Row2.refl w5 _ _).setA v _).drew (HS5.out.q.far (p := ⟨gd, v, none⟩) (by show w2.heap.size ≠ gd; omega) _).drew (HS5.out.deb.storedS v (dv - xc)).drew)
      have XB6 : Hid (Blk w6 w4.heap.size 29 #[.int .i64 xa, .int .i64 xb, .int .i64 xc]) := Lib.hid (by rw [e6]; exact (XB.out.far (p := ⟨gd, v, none⟩) (by show w4.heap.size ≠ gd; omega) _).drew)
      rw [← e6]
      clear e6 HS5 XB
      obtain ⟨q0, q1, q2, q3⟩ := HS6.out.q.c4
      go_wp2_with (fail)
      refine (popDel_any w4.heap.size xa w6 HS6.out.lst XB6.out.c3.1 (by omega) (by omega) (where_lt (x := ⟨xa, xb, xc⟩) HX.out)).mono ?_
      clear q0 q1 q2 q3
      rintro e w7 ⟨k7, c7, rfl, ho, hr⟩
      have O7 : Hid (OT w7 29 (w.heap.size + 1 + 1 + 1) (some ⟨ge, 0, none⟩) k7 c7 (leaveL xs K)) := Lib.hid (by have h1 := filter_leave HE.out HX.out; simp only at h1; unfold flt at ho; rw [h1] at ho; exact ho)
      have Q7 := Lib.hid (HS6.out.q.away hr (dj_ne (by omega)))
      have D7 := Lib.hid (HS6.out.deb.away hr (dj_ne (by omega)))
      have S7 := Lib.hid (HS6.out.shr.away hr DJ.out.e2.symm)
      have X7 := Lib.hid (XB6.out.away hr (dj_ne (by omega)))
      have R17 := Lib.hid (HS6.out.r1.away hr (dj_ne (by omega)))
      have R27 := Lib.hid (HS6.out.r2.away hr (dj_ne (by omega)))
      have B7 := Lib.hid (below_row HS6.out.bel hr HS6.out.bel.size (fun p hp => by cases hp; show w.heap.size ≤ ge; omega))
      clear ho hr HS6 XB6
      obtain ⟨q0, q1, q2, q3⟩ := Q7.out.c4
      have fq := Q7.out.frozen 0
      go_wp2_with (fail)
      clear q0 q1 q2 q3 fq
      obtain ⟨w8, e8⟩ : ∃ y : World, y = w7.setCell ⟨w2.heap.size, 0, none⟩ (.slice (some ⟨ge, 0, none⟩) k7 c7) := ⟨_, rfl⟩
      have Q8 : Hid (Blk w8 w2.heap.size 26 #[.slice (some ⟨ge, 0, none⟩) k7 c7, .slice E2 3 d2, .slice (some ⟨gd, 0, none⟩) 3 d3, .int .i64 (v : Int)]) := Lib.hid (by rw [e8]; exact Q7.out.set_ 0 _)
      have O8 : Hid (OT w8 29 (w.heap.size + 1 + 1 + 1) (some ⟨ge, 0, none⟩) k7 c7 (leaveL xs K)) := Lib.hid (by rw [e8]; exact O7.out.setCell2 (.inr (dj_ne (by show w2.heap.size ≠ ge; omega))) _)
      have D8 : Hid (OW w8 3 (w.heap.size + 1 + 1 + 1) (some ⟨gd, 0, none⟩) 3 d3 (dd.set v (dv - xc))) := Lib.hid (by rw [e8]; exact D7.out.setCell2 (.inr (dj_ne (by show w2.heap.size ≠ gd; omega))) _)
      have S8 : Hid (OW w8 3 (w.heap.size + 1 + 1 + 1) E2 3 d2 sh) := Lib.hid (by rw [e8]; exact S7.out.setCell2 (.inr DJ.out.q2) _)
      have X8 : Hid (Blk w8 w4.heap.size 29 #[.int .i64 xa, .int .i64 xb, .int .i64 xc]) := Lib.hid (by rw [e8]; exact X7.out.far (by show w4.heap.size ≠ w2.heap.size; omega) _)
      have R18 : Hid (Blk w8 (w.heap.size + 1) 29 #[.int .i64 0, .int .i64 0, .int .i64 0]) := Lib.hid (by rw [e8]; exact R17.out.far (by show w.heap.size + 1 ≠ w2.heap.size; omega) _)
      have R28 : Hid (Blk w8 (w.heap.size + 1 + 1) 26 #[.slice none 0 0, .slice none 0 0, .slice none 0 0, .int .i64 0]) := Lib.hid (by rw [e8]; exact R27.out.far (by show w.heap.size + 1 + 1 ≠ w2.heap.size; omega) _)
      have B8 : Hid (Below w.heap.size w w8) := Lib.hid (by rw [e8]; exact B7.out.setCell (by show w.heap.size ≤ w2.heap.size; omega) _)
      rw [← e8]
      clear e8 Q7 O7 D7 S7 X7 R17 R27 B7
      obtain ⟨q0, q1, q2, q3⟩ := Q8.out.c4
      obtain ⟨y0, y1, y2⟩ := X8.out.c3
      obtain ⟨r0, r1, r2, r3⟩ := R28.out.c4
      obtain ⟨z0, z1, z2⟩ := R18.out.c3
      have fr0 := R28.out.frozen 0
      have fr1 := R28.out.frozen 1
      have fr2 := R28.out.frozen 2
      have fr3 := R28.out.frozen 3
      have fz0 := R18.out.frozen 0
      have fz1 := R18.out.frozen 1
      have fz2 := R18.out.frozen 2
      have hx1 : w4.heap.size ≠ w.heap.size + 1 := by omega
      have hx2 : w4.heap.size ≠ w.heap.size + 1 + 1 := by omega
      have hx3 : w2.heap.size ≠ w.heap.size + 1 := by omega
      have hx4 : w2.heap.size ≠ w.heap.size + 1 + 1 := by omega
      go_region
      all_goals (
        go_wp2_with (fail)
        refine bodyPost_ret (v := .tuple #[.agg #[.int .i64 xa, .int .i64 xb, .int .i64 xc], .agg #[.slice (some ⟨ge, 0, none⟩) k7 c7, .slice E2 3 d2, .slice (some ⟨gd, 0, none⟩) 3 d3, .int .i64 (v : Int)], .bool true]) (by simp [results, Try.results17, go_sem, z0, z1, z2, r0, r1, r2, r3]) rfl ?_
        refine ⟨some ⟨ge, 0, none⟩, k7, c7, E2, 3, d2, some ⟨gd, 0, none⟩, 3, d3, rfl, ?_, ?_, ?_, DJ.out.e2, dj_ne hned, DJ.out.d2.symm, ?_⟩
        · refine OT.base_le (base := w.heap.size + 1 + 1 + 1) ?_ (by omega)
          repeat (first | (with_reducible exact O8.out) | with_reducible refine OT.drew ?_ | refine OT.setCell ?_ (by simp) _)
        · refine OW.base_le (base := w.heap.size + 1 + 1 + 1) ?_ (by omega)
          repeat (first | (with_reducible exact S8.out) | with_reducible refine OW.drew ?_ | refine OW.setCell ?_ (by simp) _)
        · rw [HDV.out]
          refine OW.base_le (base := w.heap.size + 1 + 1 + 1) ?_ (by omega)
          repeat (first | (with_reducible exact D8.out) | with_reducible refine OW.drew ?_ | refine OW.setCell ?_ (by simp) _)
        · repeat' (first | (with_reducible exact B8.out) | with_reducible refine Below.drew ?_ | refine Below.setCell ?_ ?_ _ | omega | (simp; done) | (simp; omega)))
end Go.Proofs.Ythemfejahohbeaa
