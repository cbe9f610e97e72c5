/-
  The reader of drawn numbers: newReader, pick, one.
-/
import Derived.Test.YthbdcindhkjboaaOwn
import Derived.Deep.DeepMust
import Derived.Deep.DeepCutAuto
import Derived.KernelRfl
namespace Go.Proofs.Ythbdcindhkjboaa
open Go.RowKit

/-- Block r is a reader of at most N numbers so far. T: the type reader. -/
def RD (w : World) (T : TypeId) (r N : Nat) : Prop :=
  ∃ (A : Option Addr) (n c : Nat) (zs : List Int) (p : Nat), Blk w r T #[.slice A n c, .int .i64 (p : Int)] ∧ p ≤ N ∧ BS w A n c zs ∧ n ≤ 2000 ∧ (0 < n → Lt A r)
theorem RD.below {w w' : World} {T : TypeId} {r N : Nat} (h : RD w T r N) (hb : Below (r + 1) w w') : RD w' T r N := by
  obtain ⟨A, n, c, zs, p, hk, hp, hbs, hn, hl⟩ := h
  refine ⟨A, n, c, zs, p, (hb.block r (by omega)).trans hk, hp, hbs.keep fun hn0 q hq => ?_, hn, hl⟩
  rcases A with _ | a
  · simp at hq
  · have h1 := hl hn0 a rfl
    simp at hq
    exact hb.cell (by omega)
theorem RD.lt {w : World} {T : TypeId} {r N : Nat} (h : RD w T r N) : r < w.heap.size := by
  obtain ⟨A, n, c, zs, p, hk, _⟩ := h
  exact hk.lt
theorem RD.mono {w : World} {T : TypeId} {r N M : Nat} (h : RD w T r N) (hm : N ≤ M) : RD w T r M := by
  obtain ⟨A, n, c, zs, p, hk, hp, r⟩ := h
  exact ⟨A, n, c, zs, p, hk, by omega, r⟩
/-- Only the reader has been written to. -/
def Rd (w w' : World) (r : Nat) : Prop := w.grownBy w' (some r)
theorem Rd.refl (w : World) (r : Nat) : Rd w w r := World.grownBy.refl w _
theorem Rd.trans {a b c : World} {r : Nat} (h : Rd a b r) (k : Rd b c r) : Rd a c r := World.grownBy.trans h k
theorem Rd.of_below {a b : World} {r : Nat} (h : Below a.heap.size a b) : Rd a b r := ⟨h.os, h.tape, h.output, h.size, fun k hk _ => h.block k hk⟩
theorem Rd.below {a b : World} {r : Nat} (h : Rd a b r) (hr : r ≤ a.heap.size) : Below r a b := ⟨h.os, h.tape, h.output, h.size, fun k hk => h.block k (by omega) (fun e => by injection e with e; omega)⟩
theorem OW.rd {w w' : World} {T base r : Nat} {A : Option Addr} {n c : Nat} {xs : List Int} (h : OW w T base A n c xs) (hg : Rd w w' r) (hr : r < base) : OW w' T base A n c xs :=
  h.kept fun g e hlt => hg.block g hlt (fun e2 => by
    injection e2 with e2
    have h1 := h.ge _ e
    simp at h1
    omega)
theorem Blk.rd {w w' : World} {g r : Nat} {t : TypeId} {cs : Array Value} (h : Blk w g t cs) (hg : Rd w w' r) (hr : g ≠ r) : Blk w' g t cs :=
  (hg.block g h.lt (fun e2 => by injection e2 with e2; exact hr e2)).trans h
theorem i64_xor (a b : Nat) (ha : a < 9223372036854775808) (hb : b < 9223372036854775808) : bits .xor .i64 (a : Int) (b : Int) = ((a ^^^ b : Nat) : Int) := by
  have hx : a ^^^ b < 2 ^ 63 := Nat.xor_lt_two_pow (by omega) (by omega)
  have h1 : ∀ x : Nat, x < 9223372036854775808 → (BitVec.ofInt 64 (x : Int)).toNat = x := fun x hx => by
    rw [BitVec.ofInt_natCast, BitVec.toNat_ofNat]; exact Nat.mod_eq_of_lt (by omega)
  show IntKind.i64.wrap ((BitVec.ofInt 64 (a : Int) ^^^ BitVec.ofInt 64 (b : Int)).toNat : Int) = _
  rw [BitVec.toNat_xor, h1 a ha, h1 b hb, IntKind.wrap_i64]
  omega
theorem xor_any {X : Int} (h0 : 0 ≤ X) (h1 : X ≤ 1000000000) : bits BinOp.xor IntKind.i64 X (X / 64) = ((X.toNat ^^^ (X.toNat / 64) : Nat) : Int) := by
  obtain ⟨x, rfl⟩ := Int.eq_ofNat_of_zero_le h0
  have e : (x : Int) / 64 = ((x / 64 : Nat) : Int) := by omega
  rw [e, i64_xor x (x / 64) (by omega) (by omega)]
  rfl
/-- What a pick hands back. -/
def Picked (T : TypeId) (w : World) (r N : Nat) (n : Int) (e : Ending) (w' : World) : Prop :=
  ∃ k : Int, e = .returned (.int .i64 k) ∧ 0 ≤ k ∧ (1 ≤ n → k < n) ∧ RD w' T r (N + 1) ∧ Rd w w' r
set_option maxHeartbeats 4000000 in
theorem pick_any (r N : Nat) (n : Int) (w : World) (h : RD w 68 r N) (hN : N ≤ 1000000) (hn : n ≤ 1000000) :
    Calls Try.prog 61 #[.pointer (some ⟨r, 0, none⟩), .int .i64 n] w (Picked 68 w r N n) := by
  obtain ⟨A, m, c, zs, p, hk, hp, hbs, hm, hl⟩ := h
  have hk1 := (hk.set_ 1 (.int .i64 ((p : Int) + 1)))
  have hrd : RD (w.setCell ⟨r, 1, none⟩ (.int .i64 ((p : Int) + 1))) 68 r (N + 1) := by
    refine ⟨A, m, c, zs, p + 1, by simpa using hk1, by omega, hbs.keep fun hn0 q hq => ?_, hm, hl⟩
    rcases A with _ | a
    · simp at hq
    · have h1 := hl hn0 a rfl
      simp at hq
      exact World.cell?_of_block (w := w) (Below.heap_setCell w _ _ q.block (by show q.block ≠ r; omega))
  have hrow : Rd w (w.setCell ⟨r, 1, none⟩ (.int .i64 ((p : Int) + 1))) r := ⟨rfl, rfl, rfl, by simp [World.setCell], fun k hk hne => Below.heap_setCell _ _ _ _ (fun e => hne (by rw [e]))⟩
  have HRD := Lib.hid hrd
  have HRW := Lib.hid hrow
  have HB := Lib.hid hbs
  have k0 := hk.cell 0
  have k1 := hk.cell 1
  simp at k0 k1
  have f1 := hk.frozen 1
  clear hk hk1 hbs hrd hrow
  have hp1 : p ≤ 1000000 := by omega
  rcases Int.lt_or_le n 1 with h1 | h1
  · go_enter Try.func61, Try.ntmps61
    go_wp2_with (fail)
    go_ret
    exact ⟨0, rfl, by omega, fun h => by omega, HRD.out, HRW.out⟩
  · by_cases h0 : m = 0
    · subst h0
      go_enter Try.func61, Try.ntmps61
      go_wp2_with (fail)
      go_ret
      exact ⟨0, rfl, by omega, fun h => by omega, HRD.out, HRW.out⟩
    · have hm0 : ((m : Int) == 0) = false := by simp; omega
      rcases Nat.lt_or_ge p m with h2 | h2
      · obtain ⟨b, off, v, rfl, hv0, hv1, hc⟩ := HB.out.at_ h2
        have hbr : b < r := hl (by omega) _ rfl
        have hne : b ≠ r := by omega
        go_enter Try.func61, Try.ntmps61
        go_wp2_with (fail)
        go_ret
        exact ⟨v % n, rfl, Int.emod_nonneg _ (by omega), fun _ => Int.emod_lt_of_pos _ (by omega), HRD.out, HRW.out⟩
      · have hj1 : p % m < m := Nat.mod_lt _ (by omega)
        have hj2 : (p * 7 + 3) % m < m := Nat.mod_lt _ (by omega)
        obtain ⟨b, off, v1, rfl, hv10, hv11, hc1⟩ := HB.out.at_ hj1
        obtain ⟨_, _, v2, e2, hv20, hv21, hc2⟩ := HB.out.at_ hj2
        simp only [Option.some.injEq, Addr.mk.injEq, and_true] at e2
        obtain ⟨rfl, rfl⟩ := e2
        have hbr : b < r := hl (by omega) _ rfl
        have hne : b ≠ r := by omega
        have hdv : 0 ≤ (p : Int) / (m : Int) ∧ (p : Int) / (m : Int) ≤ 1000000 := ⟨Int.ediv_nonneg (by omega) (by omega), by
          have := Int.ediv_le_self (a := (p : Int)) (m : Int) (by omega)
          omega⟩
        go_enter Try.func61, Try.ntmps61
        go_upto_region 7 with (fail)
        have a1 : (0 : Int) ≤ (p : Int) % (m : Int) := Int.emod_nonneg _ (by omega)
        have a2 : (p : Int) % (m : Int) < (m : Int) := Int.emod_lt_of_pos _ (by omega)
        have a3 : ((p : Int) % (m : Int)).toNat = p % m := by rw [← Int.natCast_emod]; exact Int.toNat_natCast _
        have a4 : (0 : Int) ≤ ((p : Int) * 7 + 3) % (m : Int) := Int.emod_nonneg _ (by omega)
        have a5 : ((p : Int) * 7 + 3) % (m : Int) < (m : Int) := Int.emod_lt_of_pos _ (by omega)
        have a6 : (((p : Int) * 7 + 3) % (m : Int)).toNat = (p * 7 + 3) % m := by
          have e : ((p : Int) * 7 + 3) = ((p * 7 + 3 : Nat) : Int) := by omega
          rw [e, ← Int.natCast_emod]
          exact Int.toNat_natCast _
        refine wp_region_quiet_lit (by kernel_rfl) (by kernel_rfl) ?_
        repeat (first | go_big_quiet_step (fail) | quiet_step (fail))
        refine wpQuiet_nil ?_
        intro _ hw'
        obtain ⟨nq, rfl⟩ := hw'
        clear a1 a2 a3 a4 a5 a6 hc1 hc2
        have hx : bits BinOp.xor IntKind.i64 (v1 * 131 + v2 * 1117 + (p : Int) * 29 + (p : Int) / (m : Int) * 53) ((v1 * 131 + v2 * 1117 + (p : Int) * 29 + (p : Int) / (m : Int) * 53) / 64) = (((v1 * 131 + v2 * 1117 + (p : Int) * 29 + (p : Int) / (m : Int) * 53).toNat ^^^ ((v1 * 131 + v2 * 1117 + (p : Int) * 29 + (p : Int) / (m : Int) * 53).toNat / 64) : Nat) : Int) :=
          xor_any (by omega) (by omega)
        have hX0 : 0 ≤ v1 * 131 + v2 * 1117 + (p : Int) * 29 + (p : Int) / (m : Int) * 53 := by omega
        have hX1 : v1 * 131 + v2 * 1117 + (p : Int) * 29 + (p : Int) / (m : Int) * 53 ≤ 1000000000 := by omega
        generalize v1 * 131 + v2 * 1117 + (p : Int) * 29 + (p : Int) / (m : Int) * 53 = X at *
        generalize hY : X.toNat ^^^ (X.toNat / 64) = Y at *
        clear hY hv10 hv11 hv20 hv21 hdv hbr hne hj1 hj2 k0 k1 f1
        go_wp2_with (fail)
        go_ret
        exact ⟨(Y : Int) % n, rfl, Int.emod_nonneg _ (by omega), fun _ => Int.emod_lt_of_pos _ (by omega), HRD.out.below (below_drewN (Below.refl _ _) nq), HRW.out.trans (Rd.of_below (below_drewN (Below.refl _ _) nq))⟩
/-- What a reading of one of some numbers hands back: some number that all of them allow. -/
def Oned (T : TypeId) (w : World) (r N : Nat) (p : Int → Prop) (e : Ending) (w' : World) : Prop :=
  ∃ k : Int, e = .returned (.int .i64 k) ∧ p k ∧ RD w' T r (N + 1) ∧ Rd w w' r
set_option maxHeartbeats 4000000 in
theorem one_any {A : Option Addr} {n c : Nat} {xs : List Int} (p : Int → Prop) (r N : Nat) (w : World) (h : RD w 68 r N) (hN : N ≤ 1000000) (hx : OW w 3 (r + 1) A n c xs) (hn : 1 ≤ n) (hn2 : n ≤ 1000) (hp : ∀ x ∈ xs, p x) :
    Calls Try.prog 47 #[.pointer (some ⟨r, 0, none⟩), .slice A n c] w (Oned 68 w r N p) := by
  have HR := Lib.hid h
  have HX := Lib.hid hx
  have HP := Lib.hid hp
  clear h hx hp
  go_enter Try.func47, Try.ntmps47
  go_wp2_with (fail)
  refine (pick_any r N (n : Int) _ HR.out hN (by omega)).mono ?_
  rintro e w1 ⟨k, rfl, hk0, hk1, hr1, hw1⟩
  have hk2 := hk1 (by omega)
  clear hk1
  obtain ⟨j, rfl⟩ := Int.eq_ofNat_of_zero_le hk0
  have HR1 := Lib.hid hr1
  have HW1 := Lib.hid hw1
  have HX1 := Lib.hid (HX.out.rd hw1 (Nat.lt_succ_self _))
  clear hr1 hw1
  obtain ⟨b, off, v, rfl, hx, hc⟩ := HX1.out.is.at_ (k := j) (by omega)
  have HV := Lib.hid (HP.out v (List.mem_of_getElem? hx))
  clear hx
  go_wp2_with (fail)
  go_ret
  exact ⟨v, rfl, HV.out, HR1.out, HW1.out⟩
set_option maxHeartbeats 4000000 in
theorem newReader_any {A : Option Addr} {n c : Nat} {zs : List Int} (w : World) (h : BS w A n c zs) (hn : n ≤ 1048576) :
    Calls Try.prog 45 #[.slice A n c] w fun e w' => e = .returned (.pointer (some ⟨w.heap.size, 0, none⟩)) ∧ RD w' 68 w.heap.size 0 ∧ Below w.heap.size w w' := by
  have hb : ∀ (n' : Nat) (zs' : List Int), BS w A n' c zs' → n' ≤ 2000 → RD (w.alloc (.cells #[.slice A n' c, .int .i64 0] 68)) 68 w.heap.size 0 := fun n' zs' h' hn' => by
    refine ⟨A, n', c, zs', 0, Blk.new _ _ _, Nat.le_refl _, h'.keep fun hn0 q hq => ?_, hn', fun hn0 => h'.lt hn0⟩
    rcases A with _ | a
    · simp at hq
    · have h1 := h'.lt hn0 a rfl
      simp at hq
      exact World.cell?_alloc_lt w _ q (by omega)
  have hnc := h.2.1
  have HB := Lib.hid hb
  have H := Lib.hid h
  clear hb h
  rcases Nat.lt_or_ge 2000 n with h1 | h1
  · have h1' : (2000 : Int) < (n : Int) := by omega
    have h2' : (2000 : Int) ≤ (c : Int) := by omega
    go_enter Try.func45, Try.ntmps45
    go_wp2_with (fail)
    go_ret
    exact ⟨rfl, HB.out 2000 _ (H.out.cut (by omega)) (Nat.le_refl _), below_new _ _⟩
  · have h1' : ¬ (2000 : Int) < (n : Int) := by omega
    go_enter Try.func45, Try.ntmps45
    go_wp2_with (fail)
    go_ret
    exact ⟨rfl, HB.out n _ H.out h1, below_new _ _⟩
theorem row_of {w w' : World} {A : Option Addr} {n c : Nat} (h : w.grownBy w' (Value.slice A n c).ownBlock) : Row w w' A := by
  unfold Row
  rw [← own_map (n := n) (c := c)]
  exact h
theorem RD.row {w w' : World} {T : TypeId} {r N : Nat} {A : Option Addr} (h : RD w T r N) (hg : Row w w' A) (hd : Ge A (r + 1)) : RD w' T r N :=
  h.below (below_row (Below.refl _ _) hg h.lt hd)
theorem Rd.row {w w' : World} {r : Nat} {a : World} {A : Option Addr} (h : Rd a w r) (hg : Row w w' A) (hd : Ge A a.heap.size) : Rd a w' r :=
  ⟨hg.os.trans h.os, hg.tape.trans h.tape, hg.output.trans h.output, Nat.le_trans h.size hg.size, fun k hk hne => (hg.block k (Nat.lt_of_lt_of_le hk h.size) (fun e => by
    rcases A with _ | q
    · simp at e
    · simp at e
      have := hd q rfl
      omega)).trans (h.block k hk hne)⟩
theorem Rd.setCell {a w : World} {r : Nat} (h : Rd a w r) {p : Addr} (hp : a.heap.size ≤ p.block) (u : Value) : Rd a (w.setCell p u) r :=
  ⟨h.os, h.tape, h.output, by simpa [World.setCell] using h.size, fun k hk hne => (Below.heap_setCell w p u k (by omega)).trans (h.block k hk hne)⟩
theorem Rd.alloc {a w : World} {r : Nat} (h : Rd a w r) (o : Obj) : Rd a (w.alloc o) r := h.trans (Rd.of_below (below_new w o))
theorem disj_box {g : Nat} {A : Option Addr} {B : Nat} (h : g < B) (k : Ge A B) : Disj (some ⟨g, 0, none⟩) A := fun p q hp hq e => by
  cases hp
  have := k q hq
  simp at e
  omega
theorem BS.alloc {w : World} {A : Option Addr} {n c : Nat} {xs : List Int} (h : BS w A n c xs) (o : Obj) : BS (w.alloc o) A n c xs :=
  h.keep fun hn q hq => World.cell?_alloc_lt w o q (by
    rcases A with _ | a
    · simp at hq
    · have h1 := h.lt hn a rfl
      simp at hq
      omega)
theorem BS.below {w w' : World} {A : Option Addr} {n c : Nat} {xs : List Int} (h : BS w A n c xs) (hb : Below w.heap.size w w') : BS w' A n c xs :=
  h.keep fun hn q hq => hb.cell (by
    rcases A with _ | a
    · simp at hq
    · have h1 := h.lt hn a rfl
      simp at hq
      omega)
end Go.Proofs.Ythbdcindhkjboaa
