/-
  Contracts of arenas: a block laid, by the model.
-/
import Derived.Test.YtleoncjdhlomaaaArP
import Derived.Test.YtleoncjdhlomaaaArF
namespace Go.Proofs.Ytleoncjdhlomaaa
open Go.RowKit
attribute [local go_sem ↓] Go.wp_at_zero Go.wp_at_succ
/-- Whether a block can be laid. -/
noncomputable def alOK (s : Int) (xs : List Tr) (nm sz : Int) : Bool :=
  validA s xs && (inR nm 0 99 && (!decide (whereA nm xs < xs.length) && (inR sz 1 64 && (!decide (xs.length = 10) && decide (fitA s xs sz < (gapsA s xs).length)))))
noncomputable def alS (s : Int) (xs : List Tr) (nm sz : Int) : Int := if alOK s xs nm sz then s else 0
noncomputable def alX (s : Int) (xs : List Tr) (nm sz : Int) : List Tr := if alOK s xs nm sz then xs.take (fitA s xs sz) ++ [⟨nm, fitP s xs sz, sz⟩] ++ xs.drop (fitA s xs sz) else []
theorem gaveAl_f {T : Nat} {w w' : World} {s nm sz : Int} {xs : List Tr} (h : alOK s xs nm sz = false) (hb : Below w.heap.size w w') :
    GaveArB T w (alS s xs nm sz) (alX s xs nm sz) (alOK s xs nm sz) (.returned (.tuple #[.agg #[.int .i64 0, .slice none 0 0], .bool false])) w' := by
  refine ⟨none, 0, 0, by simp [alS, h], ?_, hb⟩
  rw [show alX s xs nm sz = [] by simp [alX, h]]
  exact OT.nil _ _ _
theorem alX_le (s : Int) (xs : List Tr) (nm sz : Int) : (alX s xs nm sz).length ≤ 10 := by
  unfold alX
  split
  · next h =>
    simp [alOK] at h
    obtain ⟨h10, _⟩ := validA_used h.1
    have h1 := h.2.2.2.2.1
    simp only [List.length_append, List.length_take, List.length_drop, List.length_cons, List.length_nil]
    omega
  · simp
/-- The first blocks of a slice, wherever it lies. -/
theorem TS.firstN {w : World} {A : Option Addr} {n c K : Nat} {xs : List Tr} (h : TS w A n c xs) (hK : K ≤ n) : TS w A K c (xs.take K) := by
  rcases Nat.eq_zero_or_pos K with h0 | h0
  · subst h0
    exact TS.empty w A h.2.2.1 h.2.2.2.2
  · obtain ⟨b, off, x, rfl, _⟩ := h.at_ (k := 0) (by omega)
    simpa using h.cut (lo := 0) (hi := K) (by omega) hK
theorem TS.restN {w : World} {b off n c K : Nat} {sp : _} {xs : List Tr} (h : TS w (some ⟨b, off, sp⟩) n c xs) (hK : K ≤ n) :
    TS w (if c = K then some ⟨b, off, sp⟩ else some ((⟨b, off, sp⟩ : Addr).add (K * 3))) (n - K) (c - K) (xs.drop K) := by
  rcases Nat.eq_or_lt_of_le hK with h0 | h0
  · have hl := h.len
    have e1 : n - K = 0 := by omega
    rw [e1, List.drop_of_length_le (by omega)]
    exact TS.empty w _ (Nat.le_trans (Nat.sub_le _ _) h.2.2.1) (fun h => by split at h <;> cases h)
  · obtain ⟨b', off', x, e, _⟩ := h.at_ (k := 0) (by omega)
    simp only [Option.some.injEq, Addr.mk.injEq] at e
    obtain ⟨rfl, rfl, rfl⟩ := e
    rw [add_plain']
    exact h.rest hK
set_option maxHeartbeats 8000000 in
theorem spec_AllocBlock_any {A : Option Addr} {n c : Nat} {xs : List Tr} (s nm sz : Int) (w : World) (h : TS w A n c xs) :
    Calls Try.prog 19 #[.agg #[.int .i64 s, .slice A n c], .int .i64 nm, .int .i64 sz] w (GaveArB 39 w (alS s xs nm sz) (alX s xs nm sz) (alOK s xs nm sz)) := by
  have hl := h.len
  have hcap := h.cap
  have H := Lib.hid h
  clear h
  rcases hv : validA s xs with _ | _
  · clear hl
    go_enter Try.func19, Try.ntmps19
    go_wp2_with (fail)
    refine (call_b (spec_validArena_any s _ ((H.out.alloc _).alloc _)) hv).mono ?_
    rintro e w1 ⟨rfl, hb⟩
    have B1 := Lib.hid (Below.trans (((Below.refl w.heap.size w).alloc (Nat.le_refl _) _).alloc (by simp) _) (hb.mono (by simp; try omega)))
    have P1 : Hid (Blk w1 w.heap.size 25 #[.int .i64 s, .slice A n c]) := Lib.hid (((Blk.new w _ _).alloc _).on hb)
    have Q1 : Hid (Blk w1 (w.heap.size + 1) 25 #[.int .i64 0, .slice none 0 0]) := Lib.hid ((by simpa using Blk.new (w.alloc (.cells #[.int .i64 s, .slice A n c] 25)) 25 #[.int .i64 0, .slice none 0 0] : Blk _ (w.heap.size + 1) _ _).on hb)
    have T1 := Lib.hid (((H.out.alloc _).alloc _).below hb (Nat.le_refl _))
    have hz1 := hb.size
    simp at hz1
    clear hb
    obtain ⟨p0, p1⟩ := P1.out.c2
    obtain ⟨q0, q1⟩ := Q1.out.c2
    have f0 := Q1.out.frozen 0
    have f1 := Q1.out.frozen 1
    go_wp2_with (fail)
    refine bodyPost_ret (v := .tuple #[.agg #[.int .i64 0, .slice none 0 0], .bool false]) (by simp [results, Try.results19, go_sem, q0, q1]) rfl ?_
    refine gaveAl_f (by simp [alOK, hv]) ?_
    repeat' (first | with_reducible exact B1.out | refine Below.setCell ?_ ?_ _ | (show w.heap.size ≤ _; first | omega | (simp; done) | (simp; omega)))
  obtain ⟨h10, _⟩ := validA_used hv
  have hn : n ≤ 10 := by omega
  have HV := Lib.hid hv
  have HL := Lib.hid hl
  clear hl h10 hv
  rcases hnm : inR nm 0 99 with _ | _
  · have HN := Lib.hid hnm
    clear hnm
    go_enter Try.func19, Try.ntmps19
    go_wp2_with (fail)
    refine (call_b (spec_validArena_any s _ ((H.out.alloc _).alloc _)) HV.out).mono ?_
    rintro e w1 ⟨rfl, hb⟩
    have B1 := Lib.hid (Below.trans (((Below.refl w.heap.size w).alloc (Nat.le_refl _) _).alloc (by simp) _) (hb.mono (by simp; try omega)))
    have P1 : Hid (Blk w1 w.heap.size 25 #[.int .i64 s, .slice A n c]) := Lib.hid (((Blk.new w _ _).alloc _).on hb)
    have Q1 : Hid (Blk w1 (w.heap.size + 1) 25 #[.int .i64 0, .slice none 0 0]) := Lib.hid ((by simpa using Blk.new (w.alloc (.cells #[.int .i64 s, .slice A n c] 25)) 25 #[.int .i64 0, .slice none 0 0] : Blk _ (w.heap.size + 1) _ _).on hb)
    have T1 := Lib.hid (((H.out.alloc _).alloc _).below hb (Nat.le_refl _))
    have hz1 := hb.size
    simp at hz1
    clear hb
    obtain ⟨p0, p1⟩ := P1.out.c2
    go_wp2_with (fail)
    refine (call_b (spec_inRange_any nm 0 99 _) HN.out).mono ?_
    rintro e w' ⟨rfl, rfl⟩
    obtain ⟨q0, q1⟩ := Q1.out.c2
    have f0 := Q1.out.frozen 0
    have f1 := Q1.out.frozen 1
    go_wp2_with (fail)
    refine bodyPost_ret (v := .tuple #[.agg #[.int .i64 0, .slice none 0 0], .bool false]) (by simp [results, Try.results19, go_sem, q0, q1]) rfl ?_
    refine gaveAl_f (by simp [alOK, HN.out]) ?_
    repeat' (first | with_reducible exact B1.out | refine Below.setCell ?_ ?_ _ | (show w.heap.size ≤ _; first | omega | (simp; done) | (simp; omega)))
  have HN := Lib.hid hnm
  clear hnm
  by_cases hw : whereA nm xs < xs.length
  · obtain ⟨K, hK⟩ : ∃ K : Nat, K = whereA nm xs := ⟨_, rfl⟩
    have E1 : Hid (namedA nm xs = (K : Int)) := Lib.hid (by rw [named_eq hw, hK])
    have hk0 : (0 : Int) ≤ (K : Int) := by omega
    have HW := Lib.hid hw
    clear hK hw
    go_enter Try.func19, Try.ntmps19
    go_wp2_with (fail)
    refine (call_b (spec_validArena_any s _ ((H.out.alloc _).alloc _)) HV.out).mono ?_
    rintro e w1 ⟨rfl, hb⟩
    have B1 := Lib.hid (Below.trans (((Below.refl w.heap.size w).alloc (Nat.le_refl _) _).alloc (by simp) _) (hb.mono (by simp; try omega)))
    have P1 : Hid (Blk w1 w.heap.size 25 #[.int .i64 s, .slice A n c]) := Lib.hid (((Blk.new w _ _).alloc _).on hb)
    have Q1 : Hid (Blk w1 (w.heap.size + 1) 25 #[.int .i64 0, .slice none 0 0]) := Lib.hid ((by simpa using Blk.new (w.alloc (.cells #[.int .i64 s, .slice A n c] 25)) 25 #[.int .i64 0, .slice none 0 0] : Blk _ (w.heap.size + 1) _ _).on hb)
    have T1 := Lib.hid (((H.out.alloc _).alloc _).below hb (Nat.le_refl _))
    have hz1 := hb.size
    simp at hz1
    clear hb
    obtain ⟨p0, p1⟩ := P1.out.c2
    go_wp2_with (fail)
    refine (call_b (spec_inRange_any nm 0 99 _) HN.out).mono ?_
    rintro e w' ⟨rfl, rfl⟩
    go_wp2_with (fail)
    refine (call_int (spec_named_any s nm _ T1.out (by omega)) E1.out).mono ?_
    rintro e w2 ⟨rfl, hb⟩
    have B2 := Lib.hid (B1.out.trans (hb.mono B1.out.size))
    have P2 := Lib.hid (P1.out.on hb)
    have Q2 := Lib.hid (Q1.out.on hb)
    have T2 := Lib.hid (T1.out.below hb (Nat.le_refl _))
    have hz2 := hb.size
    clear hb p0 p1
    obtain ⟨p0, p1⟩ := P2.out.c2
    obtain ⟨q0, q1⟩ := Q2.out.c2
    have f0 := Q2.out.frozen 0
    have f1 := Q2.out.frozen 1
    go_wp2_with (fail)
    refine bodyPost_ret (v := .tuple #[.agg #[.int .i64 0, .slice none 0 0], .bool false]) (by simp [results, Try.results19, go_sem, q0, q1]) rfl ?_
    refine gaveAl_f (by simp [alOK, HW.out]) ?_
    repeat' (first | with_reducible exact B2.out | refine Below.setCell ?_ ?_ _ | (show w.heap.size ≤ _; first | omega | (simp; done) | (simp; omega)))
  have E1 : Hid (namedA nm xs = -1) := Lib.hid (by simp [namedA, hw])
  have HW := Lib.hid hw
  clear hw
  rcases hsz : inR sz 1 64 with _ | _
  · have HS := Lib.hid hsz
    clear hsz
    go_enter Try.func19, Try.ntmps19
    go_wp2_with (fail)
    refine (call_b (spec_validArena_any s _ ((H.out.alloc _).alloc _)) HV.out).mono ?_
    rintro e w1 ⟨rfl, hb⟩
    have B1 := Lib.hid (Below.trans (((Below.refl w.heap.size w).alloc (Nat.le_refl _) _).alloc (by simp) _) (hb.mono (by simp; try omega)))
    have P1 : Hid (Blk w1 w.heap.size 25 #[.int .i64 s, .slice A n c]) := Lib.hid (((Blk.new w _ _).alloc _).on hb)
    have Q1 : Hid (Blk w1 (w.heap.size + 1) 25 #[.int .i64 0, .slice none 0 0]) := Lib.hid ((by simpa using Blk.new (w.alloc (.cells #[.int .i64 s, .slice A n c] 25)) 25 #[.int .i64 0, .slice none 0 0] : Blk _ (w.heap.size + 1) _ _).on hb)
    have T1 := Lib.hid (((H.out.alloc _).alloc _).below hb (Nat.le_refl _))
    have hz1 := hb.size
    simp at hz1
    clear hb
    obtain ⟨p0, p1⟩ := P1.out.c2
    go_wp2_with (fail)
    refine (call_b (spec_inRange_any nm 0 99 _) HN.out).mono ?_
    rintro e w' ⟨rfl, rfl⟩
    go_wp2_with (fail)
    refine (call_int (spec_named_any s nm _ T1.out (by omega)) E1.out).mono ?_
    rintro e w2 ⟨rfl, hb⟩
    have B2 := Lib.hid (B1.out.trans (hb.mono B1.out.size))
    have P2 := Lib.hid (P1.out.on hb)
    have Q2 := Lib.hid (Q1.out.on hb)
    have T2 := Lib.hid (T1.out.below hb (Nat.le_refl _))
    have hz2 := hb.size
    clear hb p0 p1
    obtain ⟨p0, p1⟩ := P2.out.c2
    go_wp2_with (fail)
    refine (call_b (spec_inRange_any sz 1 64 _) HS.out).mono ?_
    rintro e w' ⟨rfl, rfl⟩
    obtain ⟨q0, q1⟩ := Q2.out.c2
    have f0 := Q2.out.frozen 0
    have f1 := Q2.out.frozen 1
    go_wp2_with (fail)
    refine bodyPost_ret (v := .tuple #[.agg #[.int .i64 0, .slice none 0 0], .bool false]) (by simp [results, Try.results19, go_sem, q0, q1]) rfl ?_
    refine gaveAl_f (by simp [alOK, HS.out]) ?_
    repeat' (first | with_reducible exact B2.out | refine Below.setCell ?_ ?_ _ | (show w.heap.size ≤ _; first | omega | (simp; done) | (simp; omega)))
  have HS := Lib.hid hsz
  clear hsz
  by_cases h10 : n = 10
  · have h10i : (n : Int) = 10 := by omega
    have h10b : ((n : Int) == 10) = true := by simp [h10i]
    have HT : Hid (xs.length = 10) := Lib.hid (by have := HL.out; omega)
    clear h10
    go_enter Try.func19, Try.ntmps19
    go_wp2_with (fail)
    refine (call_b (spec_validArena_any s _ ((H.out.alloc _).alloc _)) HV.out).mono ?_
    rintro e w1 ⟨rfl, hb⟩
    have B1 := Lib.hid (Below.trans (((Below.refl w.heap.size w).alloc (Nat.le_refl _) _).alloc (by simp) _) (hb.mono (by simp; try omega)))
    have P1 : Hid (Blk w1 w.heap.size 25 #[.int .i64 s, .slice A n c]) := Lib.hid (((Blk.new w _ _).alloc _).on hb)
    have Q1 : Hid (Blk w1 (w.heap.size + 1) 25 #[.int .i64 0, .slice none 0 0]) := Lib.hid ((by simpa using Blk.new (w.alloc (.cells #[.int .i64 s, .slice A n c] 25)) 25 #[.int .i64 0, .slice none 0 0] : Blk _ (w.heap.size + 1) _ _).on hb)
    have T1 := Lib.hid (((H.out.alloc _).alloc _).below hb (Nat.le_refl _))
    have hz1 := hb.size
    simp at hz1
    clear hb
    obtain ⟨p0, p1⟩ := P1.out.c2
    go_wp2_with (fail)
    refine (call_b (spec_inRange_any nm 0 99 _) HN.out).mono ?_
    rintro e w' ⟨rfl, rfl⟩
    go_wp2_with (fail)
    refine (call_int (spec_named_any s nm _ T1.out (by omega)) E1.out).mono ?_
    rintro e w2 ⟨rfl, hb⟩
    have B2 := Lib.hid (B1.out.trans (hb.mono B1.out.size))
    have P2 := Lib.hid (P1.out.on hb)
    have Q2 := Lib.hid (Q1.out.on hb)
    have T2 := Lib.hid (T1.out.below hb (Nat.le_refl _))
    have hz2 := hb.size
    clear hb p0 p1
    obtain ⟨p0, p1⟩ := P2.out.c2
    go_wp2_with (fail)
    refine (call_b (spec_inRange_any sz 1 64 _) HS.out).mono ?_
    rintro e w' ⟨rfl, rfl⟩
    obtain ⟨q0, q1⟩ := Q2.out.c2
    have f0 := Q2.out.frozen 0
    have f1 := Q2.out.frozen 1
    go_wp2_with (fail)
    refine bodyPost_ret (v := .tuple #[.agg #[.int .i64 0, .slice none 0 0], .bool false]) (by simp [results, Try.results19, go_sem, q0, q1]) rfl ?_
    refine gaveAl_f (by simp [alOK, HT.out]) ?_
    repeat' (first | with_reducible exact B2.out | refine Below.setCell ?_ ?_ _ | (show w.heap.size ≤ _; first | omega | (simp; done) | (simp; omega)))
  have h10i : ¬ (n : Int) = 10 := by omega
  have HT : Hid (¬ xs.length = 10) := Lib.hid (by have := HL.out; omega)
  by_cases hf : fitA s xs sz < (gapsA s xs).length
  case neg =>
    have EI : Hid (fitI s xs sz = -1) := Lib.hid (by simp [fitI, hf])
    have EP : Hid (fitP s xs sz = -1) := Lib.hid (by simp [fitP, hf])
    have HF := Lib.hid hf
    clear hf
    go_enter Try.func19, Try.ntmps19
    go_wp2_with (fail)
    refine (call_b (spec_validArena_any s _ ((H.out.alloc _).alloc _)) HV.out).mono ?_
    rintro e w1 ⟨rfl, hb⟩
    have B1 := Lib.hid (Below.trans (((Below.refl w.heap.size w).alloc (Nat.le_refl _) _).alloc (by simp) _) (hb.mono (by simp; try omega)))
    have P1 : Hid (Blk w1 w.heap.size 25 #[.int .i64 s, .slice A n c]) := Lib.hid (((Blk.new w _ _).alloc _).on hb)
    have Q1 : Hid (Blk w1 (w.heap.size + 1) 25 #[.int .i64 0, .slice none 0 0]) := Lib.hid ((by simpa using Blk.new (w.alloc (.cells #[.int .i64 s, .slice A n c] 25)) 25 #[.int .i64 0, .slice none 0 0] : Blk _ (w.heap.size + 1) _ _).on hb)
    have T1 := Lib.hid (((H.out.alloc _).alloc _).below hb (Nat.le_refl _))
    have hz1 := hb.size
    simp at hz1
    clear hb
    obtain ⟨p0, p1⟩ := P1.out.c2
    go_wp2_with (fail)
    refine (call_b (spec_inRange_any nm 0 99 _) HN.out).mono ?_
    rintro e w' ⟨rfl, rfl⟩
    go_wp2_with (fail)
    refine (call_int (spec_named_any s nm _ T1.out (by omega)) E1.out).mono ?_
    rintro e w2 ⟨rfl, hb⟩
    have B2 := Lib.hid (B1.out.trans (hb.mono B1.out.size))
    have P2 := Lib.hid (P1.out.on hb)
    have Q2 := Lib.hid (Q1.out.on hb)
    have T2 := Lib.hid (T1.out.below hb (Nat.le_refl _))
    have hz2 := hb.size
    clear hb p0 p1
    obtain ⟨p0, p1⟩ := P2.out.c2
    go_wp2_with (fail)
    refine (call_b (spec_inRange_any sz 1 64 _) HS.out).mono ?_
    rintro e w' ⟨rfl, rfl⟩
    go_wp2_with (fail)
    refine (spec_gapFor_any s sz _ T2.out HV.out).mono ?_
    rintro e w3 ⟨rfl, hb⟩
    rw [EI.out, EP.out]
    have B3 := Lib.hid (B2.out.trans (hb.mono B2.out.size))
    have P3 := Lib.hid (P2.out.on hb)
    have Q3 := Lib.hid (Q2.out.on hb)
    have T3 := Lib.hid (T2.out.below hb (Nat.le_refl _))
    have hz3 := hb.size
    clear hb p0 p1
    obtain ⟨p0, p1⟩ := P3.out.c2
    obtain ⟨q0, q1⟩ := Q3.out.c2
    have f0 := Q3.out.frozen 0
    have f1 := Q3.out.frozen 1
    go_wp2_with (fail)
    refine bodyPost_ret (v := .tuple #[.agg #[.int .i64 0, .slice none 0 0], .bool false]) (by simp [results, Try.results19, go_sem, q0, q1]) rfl ?_
    refine gaveAl_f (by simp [alOK, HF.out]) ?_
    repeat' (first | with_reducible exact B3.out | refine Below.setCell ?_ ?_ _ | (show w.heap.size ≤ _; first | omega | (simp; done) | (simp; omega)))
  obtain ⟨K, hK⟩ : ∃ K : Nat, fitA s xs sz = K := ⟨_, rfl⟩
  obtain ⟨PL, hPL⟩ : ∃ v : Int, fitP s xs sz = v := ⟨_, rfl⟩
  have EI : Hid (fitI s xs sz = (K : Int)) := Lib.hid (by rw [fitI, if_pos hf, hK])
  have EP := Lib.hid hPL
  have HK := Lib.hid hK
  have HF := Lib.hid hf
  have HS0 := HS
  have hKn : K ≤ n := by rw [gapsA_len] at hf; have := HL.out; omega
  clear hK hPL hf
  rcases A with _ | ⟨b, off, sp⟩
  · have hc0 : c = 0 := H.out.2.2.2.2 rfl
    have hn0 : n = 0 := by have := H.out.2.1; omega
    have hK0 : K = 0 := by omega
    subst hc0 hn0 hK0
    go_enter Try.func19, Try.ntmps19
    go_wp2_with (fail)
    refine (call_b (spec_validArena_any s _ ((H.out.alloc _).alloc _)) HV.out).mono ?_
    rintro e w1 ⟨rfl, hb⟩
    have B1 := Lib.hid (Below.trans (((Below.refl w.heap.size w).alloc (Nat.le_refl _) _).alloc (by simp) _) (hb.mono (by simp; try omega)))
    have P1 : Hid (Blk w1 w.heap.size 25 #[.int .i64 s, .slice none 0 0]) := Lib.hid (((Blk.new w _ _).alloc _).on hb)
    have Q1 : Hid (Blk w1 (w.heap.size + 1) 25 #[.int .i64 0, .slice none 0 0]) := Lib.hid ((by simpa using Blk.new (w.alloc (.cells #[.int .i64 s, .slice none 0 0] 25)) 25 #[.int .i64 0, .slice none 0 0] : Blk _ (w.heap.size + 1) _ _).on hb)
    have T1 := Lib.hid (((H.out.alloc _).alloc _).below hb (Nat.le_refl _))
    have hz1 := hb.size
    simp at hz1
    clear hb
    obtain ⟨p0, p1⟩ := P1.out.c2
    go_wp2_with (fail)
    refine (call_b (spec_inRange_any nm 0 99 _) HN.out).mono ?_
    rintro e w' ⟨rfl, rfl⟩
    go_wp2_with (fail)
    refine (call_int (spec_named_any s nm _ T1.out (by omega)) E1.out).mono ?_
    rintro e w2 ⟨rfl, hb⟩
    have B2 := Lib.hid (B1.out.trans (hb.mono B1.out.size))
    have P2 := Lib.hid (P1.out.on hb)
    have Q2 := Lib.hid (Q1.out.on hb)
    have T2 := Lib.hid (T1.out.below hb (Nat.le_refl _))
    have hz2 := hb.size
    clear hb p0 p1
    obtain ⟨p0, p1⟩ := P2.out.c2
    go_wp2_with (fail)
    refine (call_b (spec_inRange_any sz 1 64 _) HS.out).mono ?_
    rintro e w' ⟨rfl, rfl⟩
    go_wp2_with (fail)
    refine (spec_gapFor_any s sz _ T2.out HV.out).mono ?_
    rintro e w3 ⟨rfl, hb⟩
    rw [EI.out, EP.out]
    have B3 := Lib.hid (B2.out.trans (hb.mono B2.out.size))
    have P3 := Lib.hid (P2.out.on hb)
    have Q3 := Lib.hid (Q2.out.on hb)
    have T3 := Lib.hid (T2.out.below hb (Nat.le_refl _))
    have hz3 := hb.size
    clear hb p0 p1
    obtain ⟨p0, p1⟩ := P3.out.c2
    have hpl : w.heap.size < w3.heap.size := by omega
    have hql : w.heap.size + 1 < w3.heap.size := by omega
    have OL : Hid (OT (w3.alloc (.cells #[] 39)) 39 w3.heap.size (some ⟨w3.heap.size, 0, none⟩) 0 0 []) := Lib.hid (by simpa [cellsT] using OT.lit w3 39 w3.heap.size [] (Nat.le_refl _) (by simp))
    have HT4 := Lib.hid ((T3.out.firstN hKn).alloc (.cells #[] 39))
    have R3 : Hid (TS w3 none 0 0 (xs.drop 0)) := Lib.hid (by simpa using T3.out)
    go_wp2_with (at_builtin; first | (refine wpList_append_ts _ rfl (.tmp 46) (.tmp 50) _ rfl w3.heap.size 39 infoBlk Try.underlying23 _ _ _ _ rfl OL.out _ _ _ _ rfl HT4.out (by omega) (by simp) ?_; intro A6 d6 w6 hown6 hg6; have O6 := Lib.hid hown6; have B6 := Lib.hid (((Below.refl w3.heap.size w3).alloc (Nat.le_refl _) _).grown hg6 (by simp) (by intro k hk; simp at hk; omega)); clear hown6 hg6; have HS : Hid (TS (w6.alloc (.cells #[.int .i64 nm, .int .i64 PL, .int .i64 sz] 39)) (some ⟨w6.heap.size, 0, none⟩) 1 1 [⟨nm, PL, sz⟩]) := Lib.hid (by have h := (OT.lit w6 39 0 [⟨nm, PL, sz⟩] (by simp) (by simp)).ts; simpa [cellsT] using h); have O7 : Hid (OT (w6.alloc (.cells #[.int .i64 nm, .int .i64 PL, .int .i64 sz] 39)) 39 w3.heap.size A6 0 d6 (xs.take 0)) := Lib.hid (by simpa using O6.out.alloc (.cells #[.int .i64 nm, .int .i64 PL, .int .i64 sz] 39)); have B7 := Lib.hid (B6.out.alloc B6.out.size (.cells #[.int .i64 nm, .int .i64 PL, .int .i64 sz] 39)); have hz7 : w3.heap.size ≤ (w6.alloc (.cells #[.int .i64 nm, .int .i64 PL, .int .i64 sz] 39)).heap.size := B7.out.size) | (go_must (refine wpList_append_ts _ rfl (.tmp 52) (.tmp 57) _ rfl w3.heap.size 39 infoBlk Try.underlying23 _ _ _ _ rfl O7.out _ _ _ _ rfl HS.out (by omega) hz7 ?_); intro A8 d8 w8 hown8 hg8; have O8 := Lib.hid hown8; have B8 := Lib.hid (below_row B7.out hg8 hz7 O7.out.ge); clear hown8 hg8))
    have P8 := Lib.hid (P3.out.on B8.out)
    have Q8 := Lib.hid (Q3.out.on B8.out)
    have R8 := Lib.hid (R3.out.below B8.out (Nat.le_refl _)).drew
    have O9 := Lib.hid O8.out.drew
    have P9 := Lib.hid P8.out.drew
    have Q9 := Lib.hid Q8.out.drew
    have hz8 : w3.heap.size ≤ w8.drew.heap.size := B8.out.size
    have hz9 : w.heap.size ≤ w8.drew.heap.size := Nat.le_trans (Nat.le_of_lt hpl) hz8
    have B9 := Lib.hid (B3.out.trans (B8.out.mono (Nat.le_of_lt hpl))).drew
    clear p0 p1
    obtain ⟨p0, p1⟩ := P8.out.c2
    obtain ⟨q0, q1⟩ := Q8.out.c2
    have f0 := Q8.out.frozen 0
    have f1 := Q8.out.frozen 1
    go_region_law (refine step_append_ts rfl (.tmp 61) (.tmp 65) 23 rfl w3.heap.size 39 infoBlk Try.underlying23 A8 (0 + 1) d8 (xs.take 0 ++ [⟨nm, PL, sz⟩]) (by simp [Act.eval, Act.put]) O9.out none 0 0 (xs.drop 0) (by simp [Act.eval, Act.put]) R8.out (by omega) hz8 ?_; intro A10 d10 w10 ho hg; have O10 := Lib.hid ho; have Q10 := Lib.hid (Q9.out.away hg (box_far hql O9.out.ge)); have P10 := Lib.hid (P9.out.away hg (box_far hpl O9.out.ge)); have B10 := Lib.hid (below_row B9.out hg hz9 (O9.out.ge.mono (Nat.le_of_lt hpl))); clear ho hg; obtain ⟨r0, r1⟩ := Q10.out.c2; obtain ⟨s0, s1⟩ := P10.out.c2; have g0 := Q10.out.frozen 0; have g1 := Q10.out.frozen 1)
    all_goals (
      rename_i KK hKK
      show KK _ _
      refine hKK _ _ ?_
      go_wp2_with (fail)
      have QF := (Q10.out.set_ 0 (.int .i64 s)).set_ 1 (.slice A10 (0 + 1 + 0) d10)
      obtain ⟨z0, z1⟩ := (by simpa using QF : Blk _ _ 25 #[.int .i64 s, .slice A10 (0 + 1 + 0) d10]).c2
      refine bodyPost_ret (v := .tuple #[.agg #[.int .i64 s, .slice A10 (0 + 1 + 0) d10], .bool true]) (by simp [results, Try.results19, go_sem, z0, z1]) rfl ?_
      have hok : alOK s xs nm sz = true := by simp [alOK, HV.out, HN.out, HW.out, HS0.out, HT.out, HF.out]
      refine ⟨A10, (0 + 1 + 0), d10, by simp only [alS, hok, if_true], ?_, (B10.out.setCell (by show w.heap.size ≤ w.heap.size + 1; omega) _).setCell (by show w.heap.size ≤ w.heap.size + 1; omega) _⟩
      simp only [alX, hok, if_true, EP.out, HK.out]
      exact ((O10.out.setCell2 (.inl hql) _).setCell2 (.inl hql) _).base_le (Nat.le_of_lt hpl))
  have hnc := H.out.2.1
  have hKi : (K : Int) ≤ (n : Int) := by omega
  have hKc : (K : Int) ≤ (c : Int) := by omega
  have hnci : (n : Int) ≤ (c : Int) := by omega
  have hk0 : ¬ (K : Int) < 0 := by omega
  go_enter Try.func19, Try.ntmps19
  go_wp2_with (fail)
  refine (call_b (spec_validArena_any s _ ((H.out.alloc _).alloc _)) HV.out).mono ?_
  rintro e w1 ⟨rfl, hb⟩
  have B1 := Lib.hid (Below.trans (((Below.refl w.heap.size w).alloc (Nat.le_refl _) _).alloc (by simp) _) (hb.mono (by simp; try omega)))
  have P1 : Hid (Blk w1 w.heap.size 25 #[.int .i64 s, .slice (some ⟨b, off, sp⟩) n c]) := Lib.hid (((Blk.new w _ _).alloc _).on hb)
  have Q1 : Hid (Blk w1 (w.heap.size + 1) 25 #[.int .i64 0, .slice none 0 0]) := Lib.hid ((by simpa using Blk.new (w.alloc (.cells #[.int .i64 s, .slice (some ⟨b, off, sp⟩) n c] 25)) 25 #[.int .i64 0, .slice none 0 0] : Blk _ (w.heap.size + 1) _ _).on hb)
  have T1 := Lib.hid (((H.out.alloc _).alloc _).below hb (Nat.le_refl _))
  have hz1 := hb.size
  simp at hz1
  clear hb
  obtain ⟨p0, p1⟩ := P1.out.c2
  go_wp2_with (fail)
  refine (call_b (spec_inRange_any nm 0 99 _) HN.out).mono ?_
  rintro e w' ⟨rfl, rfl⟩
  go_wp2_with (fail)
  refine (call_int (spec_named_any s nm _ T1.out (by omega)) E1.out).mono ?_
  rintro e w2 ⟨rfl, hb⟩
  have B2 := Lib.hid (B1.out.trans (hb.mono B1.out.size))
  have P2 := Lib.hid (P1.out.on hb)
  have Q2 := Lib.hid (Q1.out.on hb)
  have T2 := Lib.hid (T1.out.below hb (Nat.le_refl _))
  have hz2 := hb.size
  clear hb p0 p1
  obtain ⟨p0, p1⟩ := P2.out.c2
  go_wp2_with (fail)
  refine (call_b (spec_inRange_any sz 1 64 _) HS.out).mono ?_
  rintro e w' ⟨rfl, rfl⟩
  go_wp2_with (fail)
  refine (spec_gapFor_any s sz _ T2.out HV.out).mono ?_
  rintro e w3 ⟨rfl, hb⟩
  rw [EI.out, EP.out]
  have B3 := Lib.hid (B2.out.trans (hb.mono B2.out.size))
  have P3 := Lib.hid (P2.out.on hb)
  have Q3 := Lib.hid (Q2.out.on hb)
  have T3 := Lib.hid (T2.out.below hb (Nat.le_refl _))
  have hz3 := hb.size
  clear hb p0 p1
  obtain ⟨p0, p1⟩ := P3.out.c2
  have hpl : w.heap.size < w3.heap.size := by omega
  have hql : w.heap.size + 1 < w3.heap.size := by omega
  have OL : Hid (OT (w3.alloc (.cells #[] 39)) 39 w3.heap.size (some ⟨w3.heap.size, 0, none⟩) 0 0 []) := Lib.hid (by simpa [cellsT] using OT.lit w3 39 w3.heap.size [] (Nat.le_refl _) (by simp))
  have HT4 := Lib.hid ((T3.out.firstN hKn).alloc (.cells #[] 39))
  obtain ⟨AX, hAX⟩ : ∃ v, (if c = K then some (⟨b, off, sp⟩ : Addr) else some ((⟨b, off, sp⟩ : Addr).add (K * 3))) = v := ⟨_, rfl⟩
  have R3 : Hid (TS w3 AX (n - K) (c - K) (xs.drop K)) := Lib.hid (hAX ▸ T3.out.restN hKn)
  go_wp2_with (at_builtin; first | (refine wpList_append_ts _ rfl (.tmp 46) (.tmp 50) _ rfl w3.heap.size 39 infoBlk Try.underlying23 _ _ _ _ rfl OL.out _ _ _ _ rfl HT4.out (by omega) (by simp) ?_; intro A6 d6 w6 hown6 hg6; have O6 := Lib.hid hown6; have B6 := Lib.hid (((Below.refl w3.heap.size w3).alloc (Nat.le_refl _) _).grown hg6 (by simp) (by intro k hk; simp at hk; omega)); clear hown6 hg6; have HS : Hid (TS (w6.alloc (.cells #[.int .i64 nm, .int .i64 PL, .int .i64 sz] 39)) (some ⟨w6.heap.size, 0, none⟩) 1 1 [⟨nm, PL, sz⟩]) := Lib.hid (by have h := (OT.lit w6 39 0 [⟨nm, PL, sz⟩] (by simp) (by simp)).ts; simpa [cellsT] using h); have O7 : Hid (OT (w6.alloc (.cells #[.int .i64 nm, .int .i64 PL, .int .i64 sz] 39)) 39 w3.heap.size A6 K d6 (xs.take K)) := Lib.hid (by simpa using O6.out.alloc (.cells #[.int .i64 nm, .int .i64 PL, .int .i64 sz] 39)); have B7 := Lib.hid (B6.out.alloc B6.out.size (.cells #[.int .i64 nm, .int .i64 PL, .int .i64 sz] 39)); have hz7 : w3.heap.size ≤ (w6.alloc (.cells #[.int .i64 nm, .int .i64 PL, .int .i64 sz] 39)).heap.size := B7.out.size) | (go_must (refine wpList_append_ts _ rfl (.tmp 52) (.tmp 57) _ rfl w3.heap.size 39 infoBlk Try.underlying23 _ _ _ _ rfl O7.out _ _ _ _ rfl HS.out (by omega) hz7 ?_); intro A8 d8 w8 hown8 hg8; have O8 := Lib.hid hown8; have B8 := Lib.hid (below_row B7.out hg8 hz7 O7.out.ge); clear hown8 hg8))
  have P8 := Lib.hid (P3.out.on B8.out)
  have Q8 := Lib.hid (Q3.out.on B8.out)
  have R8 := Lib.hid (R3.out.below B8.out (Nat.le_refl _)).drew
  have O9 := Lib.hid O8.out.drew
  have P9 := Lib.hid P8.out.drew
  have Q9 := Lib.hid Q8.out.drew
  have hz8 : w3.heap.size ≤ w8.drew.heap.size := B8.out.size
  have hz9 : w.heap.size ≤ w8.drew.heap.size := Nat.le_trans (Nat.le_of_lt hpl) hz8
  have B9 := Lib.hid (B3.out.trans (B8.out.mono (Nat.le_of_lt hpl))).drew
  clear p0 p1
  obtain ⟨p0, p1⟩ := P8.out.c2
  obtain ⟨q0, q1⟩ := Q8.out.c2
  have f0 := Q8.out.frozen 0
  have f1 := Q8.out.frozen 1
  go_region_law (refine step_append_ts rfl (.tmp 61) (.tmp 65) 23 rfl w3.heap.size 39 infoBlk Try.underlying23 A8 (K + 1) d8 (xs.take K ++ [⟨nm, PL, sz⟩]) (by simp [Act.eval, Act.put]) O9.out AX (n - K) (c - K) (xs.drop K) (by simp [Act.eval, Act.put]) R8.out (by omega) hz8 ?_; intro A10 d10 w10 ho hg; have O10 := Lib.hid ho; have Q10 := Lib.hid (Q9.out.away hg (box_far hql O9.out.ge)); have P10 := Lib.hid (P9.out.away hg (box_far hpl O9.out.ge)); have B10 := Lib.hid (below_row B9.out hg hz9 (O9.out.ge.mono (Nat.le_of_lt hpl))); clear ho hg; obtain ⟨r0, r1⟩ := Q10.out.c2; obtain ⟨s0, s1⟩ := P10.out.c2; have g0 := Q10.out.frozen 0; have g1 := Q10.out.frozen 1)
  all_goals (
    rename_i KK hKK
    show KK _ _
    refine hKK _ _ ?_
    go_wp2_with (fail)
    have QF := (Q10.out.set_ 0 (.int .i64 s)).set_ 1 (.slice A10 (K + 1 + (n - K)) d10)
    obtain ⟨z0, z1⟩ := (by simpa using QF : Blk _ _ 25 #[.int .i64 s, .slice A10 (K + 1 + (n - K)) d10]).c2
    refine bodyPost_ret (v := .tuple #[.agg #[.int .i64 s, .slice A10 (K + 1 + (n - K)) d10], .bool true]) (by simp [results, Try.results19, go_sem, z0, z1]) rfl ?_
    have hok : alOK s xs nm sz = true := by simp [alOK, HV.out, HN.out, HW.out, HS0.out, HT.out, HF.out]
    refine ⟨A10, (K + 1 + (n - K)), d10, by simp only [alS, hok, if_true], ?_, (B10.out.setCell (by show w.heap.size ≤ w.heap.size + 1; omega) _).setCell (by show w.heap.size ≤ w.heap.size + 1; omega) _⟩
    simp only [alX, hok, if_true, EP.out, HK.out]
    exact ((O10.out.setCell2 (.inl hql) _).setCell2 (.inl hql) _).base_le (Nat.le_of_lt hpl))
end Go.Proofs.Ytleoncjdhlomaaa
