/-
  Contracts of arenas: the list of gaps.
-/
import Derived.Test.YtleoncjdhlomaaaArG
namespace Go.Proofs.Ytleoncjdhlomaaa
open Go.RowKit
/-- A call has handed back pairs of its own. -/
def GavePs (T : Nat) (w : World) (xs : List (Int × Int)) (e : Ending) (w' : World) : Prop :=
  ∃ A n c, e = .returned (.slice A n c) ∧ OP w' T w.heap.size A n c xs ∧ Below w.heap.size w w'
theorem OP.base_le {w : World} {T base base' : Nat} {A : Option Addr} {n c : Nat} {xs : List (Int × Int)} (h : OP w T base A n c xs) (hb : base' ≤ base) : OP w T base' A n c xs := by
  refine ⟨h.1, ?_⟩
  rcases h.2 with h1 | ⟨g, cap, cur, hv, hbg, r⟩
  · exact .inl h1
  · exact .inr ⟨g, cap, cur, hv, Nat.le_trans hb hbg, r⟩
set_option maxHeartbeats 4000000 in
theorem impl_freeList_any {A : Option Addr} {n c : Nat} {xs : List Tr} (s : Int) (w : World) (h : TS w A n c xs) (hv : validA s xs = true) :
    Calls Try.prog 43 #[.agg #[.int .i64 s, .slice A n c]] w (GavePs 59 w (gapsA s xs)) := by
  have hl := h.len
  obtain ⟨h10, hc⟩ := validA_used hv
  have hn : n ≤ 10 := by omega
  have HV := Lib.hid hv
  have HL := Lib.hid hl
  obtain ⟨hs0, hs1⟩ := (validA_iff.1 hv).1
  have T1 := Lib.hid (h.alloc (.cells #[.int .i64 s, .slice A n c] 25))
  have P1 := Lib.hid (Blk.new w 25 #[.int .i64 s, .slice A n c])
  have B1 := Lib.hid (below_new w (.cells #[.int .i64 s, .slice A n c] 25))
  clear hl h10 hc hv h
  go_enter Try.func43, Try.ntmps43
  go_wp2_with (fail)
  obtain ⟨w1, eW⟩ : ∃ v : World, v = w.alloc (.cells #[.int .i64 s, .slice A n c] 25) := ⟨_, rfl⟩
  have hz1 : w.heap.size < w1.heap.size := by rw [eW]; simp
  rw [← eW] at T1 P1 B1 ⊢
  clear eW
  go_loopw [3, 4, 10] (fun v e i wr => ∃ (k d : Nat) (E : Int) (A4 : Option Addr), k ≤ n ∧ 0 ≤ E ∧ E ≤ 64 ∧ i = .int .i64 k ∧ e = .int .i64 E ∧ v = .slice A4 k d ∧ Hid (endT (xs.take k) = E) ∧ Hid (OP wr 59 w1.heap.size A4 k d (gapsK xs k) ∧ Below w1.heap.size w1 wr)) (fun _ _ i _ => n - (intOf i).toNat)
  case atStart => exact ⟨0, 0, 0, none, Nat.zero_le _, by omega, by omega, rfl, rfl, rfl, Lib.hid rfl, Lib.hid ⟨by simpa [gapsK] using OP.nil _ _ _, Below.refl _ _⟩⟩
  case round =>
    obtain ⟨k, d, E, A4, hk, hE0, hE1, rfl, rfl, rfl, hE, HH⟩ := hrel
    have O4 := Lib.hid HH.out.1
    have B4 := Lib.hid HH.out.2
    have hs4 := B4.out.size
    clear HH
    by_cases hlt : k < n
    · obtain ⟨b, off, x, rfl, hx, ca, cb, cc⟩ := (T1.out.below B4.out (Nat.le_refl _)).at_ hlt
      obtain ⟨_, ⟨hb0, hb1⟩, hc0, hc1⟩ := (validA_iff.1 HV.out).at_ (List.mem_of_getElem? hx)
      have HE : Hid (endT (xs.take (k + 1)) = x.b + x.c) := Lib.hid (endT_next hx)
      obtain ⟨he0, he1⟩ := end_bd HV.out (k := k + 1) (by have := HL.out; omega)
      rw [HE.out] at he0 he1
      have HX := Lib.hid hx
      have hki : (k : Int) < (n : Int) := by omega
      have hw1 : IntKind.i64.wrap (x.b - E) = x.b - E := by rw [IntWalk.i64_in _ (by omega)]
      have S5 : Hid (((wr.alloc (.cells #[.int .i64 x.a, .int .i64 x.b, .int .i64 x.c] 39)).alloc (.cells #[.int .i64 E, .int .i64 (x.b - E)] 59)).cell? ⟨wr.heap.size + 1, 0, none⟩ = some (.int .i64 (E, x.b - E).1) ∧ ((wr.alloc (.cells #[.int .i64 x.a, .int .i64 x.b, .int .i64 x.c] 39)).alloc (.cells #[.int .i64 E, .int .i64 (x.b - E)] 59)).cell? ⟨wr.heap.size + 1, 1, none⟩ = some (.int .i64 (E, x.b - E).2)) := Lib.hid (by have h1 := Blk.new (wr.alloc (.cells #[.int .i64 x.a, .int .i64 x.b, .int .i64 x.c] 39)) 59 #[.int .i64 E, .int .i64 (x.b - E)]; rw [show (wr.alloc (.cells #[.int .i64 x.a, .int .i64 x.b, .int .i64 x.c] 39)).heap.size = wr.heap.size + 1 by simp] at h1; exact h1.c2)
      have O5 := Lib.hid ((O4.out.alloc (.cells #[.int .i64 x.a, .int .i64 x.b, .int .i64 x.c] 39)).alloc (.cells #[.int .i64 E, .int .i64 (x.b - E)] 59))
      have B5 := Lib.hid ((B4.out.alloc hs4 (.cells #[.int .i64 x.a, .int .i64 x.b, .int .i64 x.c] 39)).alloc (by simp; omega) (.cells #[.int .i64 E, .int .i64 (x.b - E)] 59))
      have X5 := Lib.hid ((Blk.new wr 39 #[.int .i64 x.a, .int .i64 x.b, .int .i64 x.c]).alloc (.cells #[.int .i64 E, .int .i64 (x.b - E)] 59))
      have DX : Hid (Disj (some ⟨wr.heap.size, 0, none⟩) A4) := Lib.hid (Disj.mk (B := wr.heap.size) O4.out.lt (fun p hp => by cases hp; exact Nat.le_refl _)).symm
      clear hx
      go_wp2_with (at_builtin; go_must (refine wpList_append_pr _ rfl (.tmp 14) (.tmp 21) _ rfl w1.heap.size 59 infoGap Try.underlying56 _ _ _ _ rfl O5.out _ _ (E, x.b - E) rfl S5.out.1 S5.out.2 (by omega) (by simp; omega) ?_); intro A6 d6 w6 hown6 hg6; have O6 := Lib.hid hown6; have G6 := Lib.hid hg6; have X6 := Lib.hid (X5.out.away hg6 DX.out); clear hown6 hg6; obtain ⟨x0, x1, x2⟩ := X6.out.c3)
      go_roundw
      case rel =>
        refine ⟨k + 1, d6, x.b + x.c, A6, by omega, he0, he1, by go_num, by go_num, by go_num, HE, Lib.hid ⟨?_, below_row B5.out G6.out (by simp; omega) O5.out.ge⟩⟩
        rw [gapsK_next HX.out, hE.out]
        exact O6.out
      case measure => simp [intOf]; omega
    · have ek : k = n := by omega
      subst ek
      have P4 := Lib.hid (P1.out.on B4.out)
      obtain ⟨p0, p1⟩ := P4.out.c2
      have pl := P4.out.lt
      have hw1 : IntKind.i64.wrap (s - E) = s - E := by rw [IntWalk.i64_in _ (by omega)]
      have S5 := Lib.hid ((Blk.new wr 59 #[.int .i64 E, .int .i64 (s - E)]).c2)
      have O5 := Lib.hid (O4.out.alloc (.cells #[.int .i64 E, .int .i64 (s - E)] 59))
      have B5 := Lib.hid (B4.out.alloc hs4 (.cells #[.int .i64 E, .int .i64 (s - E)] 59))
      go_wp2_with (at_builtin; go_must (refine wpList_append_pr _ rfl (.tmp 29) (.tmp 36) _ rfl w1.heap.size 59 infoGap Try.underlying56 _ _ _ _ rfl O5.out _ _ (E, s - E) rfl S5.out.1 S5.out.2 (by omega) (by simp; omega) ?_); intro A6 d6 w6 hown6 hg6; have O6 := Lib.hid hown6; have G6 := Lib.hid hg6; clear hown6 hg6)
      go_ret
      refine ⟨A6, k + 1, d6, rfl, ?_, B1.out.trans ((below_row B5.out G6.out (by simp; omega) O5.out.ge).mono (Nat.le_of_lt hz1))⟩
      have h1 := O6.out.base_le (Nat.le_of_lt hz1)
      have h2 := hE.out
      rw [List.take_of_length_le (by have := HL.out; omega)] at h2
      have h3 := HL.out
      rw [gapsA, h2, h3]
      exact h1
end Go.Proofs.Ytleoncjdhlomaaa
