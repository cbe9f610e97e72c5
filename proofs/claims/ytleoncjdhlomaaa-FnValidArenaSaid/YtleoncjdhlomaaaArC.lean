/-
  Contracts of arenas: compaction by the model.
-/
import Derived.Test.YtleoncjdhlomaaaArK
namespace Go.Proofs.Ytleoncjdhlomaaa
open Go.RowKit
attribute [local go_sem ↓] Go.wp_at_zero Go.wp_at_succ
theorem box_far {g : Nat} {A : Option Addr} {B : Nat} (h : g < B) (k : Ge A B) : Disj (some ⟨g, 0, none⟩) A := Disj.mk (B := B) (fun p hp => by cases hp; exact h) k
set_option maxHeartbeats 2000000 in
theorem spec_copyArena_any {A : Option Addr} {n c : Nat} {xs : List Tr} (s : Int) (w : World) (h : TS w A n c xs) (hn : n ≤ 1000) :
    Calls Try.prog 49 #[.agg #[.int .i64 s, .slice A n c]] w (GaveAr 39 w s xs) := by
  have H := Lib.hid ((h.alloc (.cells #[.int .i64 s, .slice A n c] 25)).alloc (.cells #[.int .i64 0, .slice none 0 0] 25))
  have P := Lib.hid ((Blk.new w 25 #[.int .i64 s, .slice A n c]).alloc (.cells #[.int .i64 0, .slice none 0 0] 25))
  have Q : Hid (Blk ((w.alloc (.cells #[.int .i64 s, .slice A n c] 25)).alloc (.cells #[.int .i64 0, .slice none 0 0] 25)) (w.heap.size + 1) 25 #[.int .i64 0, .slice none 0 0]) := Lib.hid (by simpa using Blk.new (w.alloc (.cells #[.int .i64 s, .slice A n c] 25)) 25 #[.int .i64 0, .slice none 0 0])
  have B := Lib.hid (((Below.refl w.heap.size w).alloc (Nat.le_refl _) (.cells #[.int .i64 s, .slice A n c] 25)).alloc (by simp) (.cells #[.int .i64 0, .slice none 0 0] 25))
  clear h
  go_enter Try.func49, Try.ntmps49
  go_wp2_with (fail)
  obtain ⟨W, eW⟩ : ∃ v : World, v = (w.alloc (.cells #[.int .i64 s, .slice A n c] 25)).alloc (.cells #[.int .i64 0, .slice none 0 0] 25) := ⟨_, rfl⟩
  have hsz : W.heap.size = w.heap.size + 1 + 1 := by rw [eW]; simp
  have hs1 : w.heap.size + 1 < W.heap.size := by omega
  have hpl : w.heap.size < W.heap.size := by omega
  have hpn : ¬ w.heap.size = W.heap.size := by omega
  have hqn : ¬ w.heap.size + 1 = W.heap.size := by omega
  rw [← eW] at H P Q B ⊢
  have HO : Hid (OT ((W.alloc (.cells #[] 39)).drew) 39 W.heap.size (some ⟨W.heap.size, 0, none⟩) 0 0 []) := Lib.hid (by simpa [cellsT] using (OT.lit W 39 W.heap.size [] (Nat.le_refl _) (by simp)).drew)
  have HT := Lib.hid ((H.out.alloc (.cells #[] 39)).drew)
  have HQ := Lib.hid ((Q.out.alloc (.cells #[] 39)).drew)
  have HP := Lib.hid (P.out.alloc (.cells #[] 39)).drew
  have HB := Lib.hid ((B.out.alloc (by show w.heap.size ≤ W.heap.size; omega) (.cells #[] 39)).drew)
  clear eW hsz
  obtain ⟨p0, p1⟩ := P.out.c2
  obtain ⟨q0, q1⟩ := Q.out.c2
  go_region_law (refine step_append_ts rfl (.tmp 5) (.tmp 7) 23 rfl W.heap.size 39 infoBlk Try.underlying23 (some ⟨W.heap.size, 0, none⟩) 0 0 [] (by simp [Act.eval, Act.put]) HO.out A n c xs (by simp [Act.eval, Act.put]) HT.out (by omega) (by show W.heap.size ≤ (W.alloc _).heap.size; simp) ?_; intro A' c' w2 ho hg; have O2 := Lib.hid ho; have G2 := Lib.hid hg; have Q2 := Lib.hid (HQ.out.away hg (box_far (show w.heap.size + 1 < W.heap.size by omega) HO.out.ge)); have P2 := Lib.hid (HP.out.away hg (box_far hpl HO.out.ge)); have B2 := Lib.hid (HB.out.grown hg (by show w.heap.size ≤ (W.alloc _).heap.size; simp; omega) (by intro k hk; simp at hk; omega)); clear ho hg; obtain ⟨r0, r1⟩ := Q2.out.c2; obtain ⟨s0, s1⟩ := P2.out.c2; have f0 := Q2.out.frozen 0; have f1 := Q2.out.frozen 1)
  all_goals (
    rename_i K hK
    show K _ _
    refine hK _ _ ?_
    go_wp2_with (fail)
    have QF := (Q2.out.set_ 0 (.int .i64 s)).set_ 1 (.slice A' n c')
    obtain ⟨z0, z1⟩ := (by simpa using QF : Blk _ _ 25 #[.int .i64 s, .slice A' n c']).c2
    refine bodyPost_ret (v := .agg #[.int .i64 s, .slice A' n c']) (by simp [results, Try.results49, go_sem, z0, z1]) rfl ?_
    exact ⟨_, _, _, rfl, (((by simpa using O2.out : OT w2 39 W.heap.size A' n c' xs).setCell2 (.inl hs1) _).setCell2 (.inl hs1) _).base_le (Nat.le_of_lt hpl), (B2.out.setCell (by show w.heap.size ≤ w.heap.size + 1; omega) _).setCell (by show w.heap.size ≤ w.heap.size + 1; omega) _⟩)
end Go.Proofs.Ytleoncjdhlomaaa
