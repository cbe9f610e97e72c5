/-
  A slice of structs of five integers that reads as a list; the laws' functions on lists of sums. (Its words were written by a program of my own.)
-/
import Derived.Test.YtbingkkhhaknlaaOwn
import Derived.Deep.DeepMust
import Derived.Deep.RegionHeld3
import Derived.Lib.QuietBelow
import Derived.KernelRfl
namespace Go.Proofs.Ytbingkkhhaknlaa
open Go.RowKit

structure Su where
  a : Int
  b : Int
  c : Int
  d : Int
  e : Int
  deriving DecidableEq, Inhabited
/-- The slice value 'slice A n c' holds the sums xs. -/
def SS (w : World) (A : Option Addr) (n c : Nat) (xs : List Su) : Prop :=
  xs.length = n ∧ n ≤ c ∧ c ≤ maxLen ∧
    (0 < n → ∃ b off, A = some ⟨b, off, none⟩ ∧ ∀ (j : Nat) (x : Su), xs[j]? = some x → w.cell? ⟨b, off + j * 5, none⟩ = some (.int .i64 x.a) ∧ w.cell? ⟨b, off + j * 5 + 1, none⟩ = some (.int .i64 x.b) ∧ w.cell? ⟨b, off + j * 5 + 2, none⟩ = some (.int .i64 x.c) ∧ w.cell? ⟨b, off + j * 5 + 3, none⟩ = some (.int .i64 x.d) ∧ w.cell? ⟨b, off + j * 5 + 4, none⟩ = some (.int .i64 x.e)) ∧ (A = none → c = 0)
section
variable {w w' : World} {A : Option Addr} {n c : Nat} {xs : List Su}
theorem SS.len (h : SS w A n c xs) : xs.length = n := h.1
theorem SS.cap (h : SS w A n c xs) : n ≤ 9223372036854775807 := by
  have h1 := h.2.1
  have h2 := h.2.2.1
  simp only [maxLen] at h2
  omega
theorem SS.nil (w : World) : SS w none 0 0 [] := ⟨rfl, Nat.le_refl _, by simp [maxLen], fun h => absurd h (by omega), fun _ => rfl⟩
theorem SS.at_ (h : SS w A n c xs) {k : Nat} (hk : k < n) :
    ∃ b off x, A = some ⟨b, off, none⟩ ∧ xs[k]? = some x ∧ w.cell? ⟨b, off + k * 5, none⟩ = some (.int .i64 x.a) ∧ w.cell? ⟨b, off + k * 5 + 1, none⟩ = some (.int .i64 x.b) ∧ w.cell? ⟨b, off + k * 5 + 2, none⟩ = some (.int .i64 x.c) ∧ w.cell? ⟨b, off + k * 5 + 3, none⟩ = some (.int .i64 x.d) ∧ w.cell? ⟨b, off + k * 5 + 4, none⟩ = some (.int .i64 x.e) := by
  obtain ⟨b, off, e, hc⟩ := h.2.2.2.1 (by omega)
  have hl : k < xs.length := by have := h.1; omega
  exact ⟨b, off, xs[k], e, List.getElem?_eq_getElem hl, hc k _ (List.getElem?_eq_getElem hl)⟩
theorem SS.keep (h : SS w A n c xs) (hk : ∀ p : Addr, p.block < w.heap.size → w'.cell? p = w.cell? p) : SS w' A n c xs := by
  refine ⟨h.1, h.2.1, h.2.2.1, fun hn => ?_, h.2.2.2.2⟩
  obtain ⟨b, off, e, hc⟩ := h.2.2.2.1 hn
  refine ⟨b, off, e, fun j x hj => ?_⟩
  obtain ⟨h1, h2, h3, h4, h5⟩ := hc j x hj
  have hb : b < w.heap.size := World.block_lt_of_cell? w ⟨b, off + j * 5, none⟩ h1
  exact ⟨(hk ⟨b, off + j * 5, none⟩ hb).trans h1, (hk ⟨b, off + j * 5 + 1, none⟩ hb).trans h2, (hk ⟨b, off + j * 5 + 2, none⟩ hb).trans h3, (hk ⟨b, off + j * 5 + 3, none⟩ hb).trans h4, (hk ⟨b, off + j * 5 + 4, none⟩ hb).trans h5⟩
theorem SS.below {B : Nat} (h : SS w A n c xs) (hb : Below B w w') (hB : w.heap.size ≤ B) : SS w' A n c xs :=
  h.keep fun p hp => hb.cell (by omega)
theorem SS.drewN (h : SS w A n c xs) (k : Nat) : SS (w.drewN k) A n c xs := h
theorem SS.drew (h : SS w A n c xs) : SS w.drew A n c xs := h
theorem SS.alloc (h : SS w A n c xs) (o : Obj) : SS (w.alloc o) A n c xs := h.keep fun p hp => World.cell?_alloc_lt w o p hp
end
def cellsS (xs : List Su) : List Value := xs.flatMap fun x => [.int .i64 x.a, .int .i64 x.b, .int .i64 x.c, .int .i64 x.d, .int .i64 x.e]
theorem cellsS_len (xs : List Su) : (cellsS xs).length = xs.length * 5 := by
  induction xs with
  | nil => rfl
  | cons x xs ih => simp [cellsS] at ih ⊢; omega
theorem cellsS_at {xs : List Su} {j : Nat} {x : Su} (h : xs[j]? = some x) : (cellsS xs)[j * 5]? = some (.int .i64 x.a) ∧ (cellsS xs)[j * 5 + 1]? = some (.int .i64 x.b) ∧ (cellsS xs)[j * 5 + 2]? = some (.int .i64 x.c) ∧ (cellsS xs)[j * 5 + 3]? = some (.int .i64 x.d) ∧ (cellsS xs)[j * 5 + 4]? = some (.int .i64 x.e) := by
  induction xs generalizing j with
  | nil => simp at h
  | cons y xs ih =>
    rcases j with _ | j
    · simp at h; subst h; simp [cellsS]
    · simp at h
      obtain ⟨h1, h2, h3, h4, h5⟩ := ih h
      have e : cellsS (y :: xs) = [.int .i64 y.a, .int .i64 y.b, .int .i64 y.c, .int .i64 y.d, .int .i64 y.e] ++ cellsS xs := by simp [cellsS]
      have e1 : (j + 1) * 5 = j * 5 + 5 := by omega
      rw [e, e1]
      refine ⟨?_, ?_, ?_, ?_, ?_⟩
      · rw [List.getElem?_append_right (by simp)]; simpa using h1
      · rw [List.getElem?_append_right (by simp)]; simpa using h2
      · rw [List.getElem?_append_right (by simp)]; simpa using h3
      · rw [List.getElem?_append_right (by simp)]; simpa using h4
      · rw [List.getElem?_append_right (by simp)]; simpa using h5
/-- The slice value 'slice A n c' is the call's own, and holds the sums xs. -/
def OS (w : World) (T base : Nat) (A : Option Addr) (n c : Nat) (xs : List Su) : Prop :=
  w.ownsRow base T 5 (.slice A n c) n (cellsS xs)
section
variable {w w' : World} {T base : Nat} {A : Option Addr} {n c : Nat} {xs : List Su}
theorem OS.len (h : OS w T base A n c xs) : xs.length = n := by
  have h1 := h.1
  rw [cellsS_len] at h1
  omega
theorem OS.ss (h : OS w T base A n c xs) : SS w A n c xs := by
  have hl := h.len
  rcases h.2 with ⟨h1, h2⟩ | ⟨g, cap, cur, hv, hb, hg, hnc, hm, _⟩
  · simp only [Value.slice.injEq] at h1
    obtain ⟨rfl, _, rfl⟩ := h1
    subst h2
    exact ⟨hl, Nat.le_refl _, by simp [maxLen], fun h => absurd h (by omega), fun _ => rfl⟩
  · simp only [Value.slice.injEq, true_and] at hv
    obtain ⟨rfl, rfl⟩ := hv
    refine ⟨hl, hnc, hm, fun _ => ⟨g, 0, rfl, fun j x hj => ?_⟩, fun h => by cases h⟩
    have hjn : j < n := by have := (List.getElem?_eq_some_iff.1 hj).1; omega
    obtain ⟨e1, e2, e3, e4, e5⟩ := cellsS_at hj
    have k1 := World.ownsRow.cellAt h (j * 5) (by omega)
    have k2 := World.ownsRow.cellAt h (j * 5 + 1) (by omega)
    have k3 := World.ownsRow.cellAt h (j * 5 + 2) (by omega)
    have k4 := World.ownsRow.cellAt h (j * 5 + 3) (by omega)
    have k5 := World.ownsRow.cellAt h (j * 5 + 4) (by omega)
    rw [Nat.zero_add]
    exact ⟨k1.trans e1, k2.trans e2, k3.trans e3, k4.trans e4, k5.trans e5⟩
theorem OS.kept (h : OS w T base A n c xs) (hb : ∀ g, A = some ⟨g, 0, none⟩ → g < w.heap.size → w'.heap[g]? = w.heap[g]?) : OS w' T base A n c xs := by
  refine ⟨h.1, ?_⟩
  rcases h.2 with h1 | ⟨g, cap, cur, hv, hbg, hg, r⟩
  · exact .inl h1
  · simp only [Value.slice.injEq, true_and] at hv
    obtain ⟨rfl, rfl⟩ := hv
    exact .inr ⟨g, c, cur, rfl, hbg, by rw [hb g rfl (Array.getElem?_eq_some_iff.1 hg).1]; exact hg, r⟩
theorem OS.below {B : Nat} (h : OS w T base A n c xs) (hb : Below B w w') (hB : w.heap.size ≤ B) : OS w' T base A n c xs :=
  h.kept fun g _ hg => hb.block g (by omega)
theorem OS.drew (h : OS w T base A n c xs) : OS w.drew T base A n c xs := h
theorem OS.alloc (h : OS w T base A n c xs) (o : Obj) : OS (w.alloc o) T base A n c xs := World.ownsRow.alloc h o
theorem OS.lt (h : OS w T base A n c xs) : Lt A w.heap.size := fun p hp => by
  rcases h.2 with ⟨h1, h2⟩ | ⟨g, cap, cur, hv, hb, hg, _⟩
  · simp only [Value.slice.injEq] at h1
    rw [h1.1] at hp
    cases hp
  · simp only [Value.slice.injEq, true_and] at hv
    rw [hv.1] at hp
    cases hp
    exact (Array.getElem?_eq_some_iff.1 hg).1
end
theorem cellsS_set {xs : List Su} {j : Nat} (hj : j < xs.length) (x : Su) :
    (((((cellsS xs).set (j * 5) (.int .i64 x.a)).set (j * 5 + 1) (.int .i64 x.b)).set (j * 5 + 2) (.int .i64 x.c)).set (j * 5 + 3) (.int .i64 x.d)).set (j * 5 + 4) (.int .i64 x.e) = cellsS (xs.set j x) := by
  induction xs generalizing j with
  | nil => simp at hj
  | cons y xs ih =>
    have e : ∀ z : Su, cellsS (z :: xs) = .int .i64 z.a :: .int .i64 z.b :: .int .i64 z.c :: .int .i64 z.d :: .int .i64 z.e :: cellsS xs := fun z => by simp [cellsS]
    rcases j with _ | j
    · rw [e]; simp [cellsS]
    · have e1 : (j + 1) * 5 = j * 5 + 5 := by omega
      have := ih (j := j) (by simpa using hj)
      rw [e, e1]
      simp only [List.set_cons_succ, List.set]
      rw [this]
      simp [cellsS]
theorem OS.stored {w : World} {T base g n c : Nat} {xs : List Su} (h : OS w T base (some ⟨g, 0, none⟩) n c xs) {j : Nat} (hj : j < n) (x : Su) :
    OS (((((w.setCell ⟨g, j * 5, none⟩ (.int .i64 x.a)).setCell ⟨g, j * 5 + 1, none⟩ (.int .i64 x.b)).setCell ⟨g, j * 5 + 2, none⟩ (.int .i64 x.c)).setCell ⟨g, j * 5 + 3, none⟩ (.int .i64 x.d)).setCell ⟨g, j * 5 + 4, none⟩ (.int .i64 x.e)) T base (some ⟨g, 0, none⟩) n c (xs.set j x) := by
  have hl := h.len
  unfold OS
  rw [← cellsS_set (by omega)]
  have s1 := (World.ownsRow.stored h (j * 5) (.int .i64 x.a)).1
  have s2 := (World.ownsRow.stored s1 (j * 5 + 1) (.int .i64 x.b)).1
  have s3 := (World.ownsRow.stored s2 (j * 5 + 2) (.int .i64 x.c)).1
  have s4 := (World.ownsRow.stored s3 (j * 5 + 3) (.int .i64 x.d)).1
  exact (World.ownsRow.stored s4 (j * 5 + 4) (.int .i64 x.e)).1
/-- A call has handed back new sums. -/
def GaveSu (T : Nat) (w : World) (xs : List Su) (e : Ending) (w' : World) : Prop :=
  ∃ A n c, e = .returned (.slice A n c) ∧ OS w' T w.heap.size A n c xs ∧ Below w.heap.size w w'
theorem made5 (n : Nat) : (madeCells (Value.agg #[.int .i64 0, .int .i64 0, .int .i64 0, .int .i64 0, .int .i64 0]).cells (n * 5)).toList = cellsS (List.replicate n ⟨0, 0, 0, 0, 0⟩) := by
  have h1 : (madeCells (Value.agg #[.int .i64 0, .int .i64 0, .int .i64 0, .int .i64 0, .int .i64 0]).cells (n * 5)).toList = List.replicate (n * 5) (.int .i64 0) := by
    apply List.ext_getElem?
    intro j
    have hc : (Value.agg #[.int .i64 0, .int .i64 0, .int .i64 0, .int .i64 0, .int .i64 0]).cells = #[.int .i64 0, .int .i64 0, .int .i64 0, .int .i64 0, .int .i64 0] := rfl
    rw [hc]
    by_cases hj : j < n * 5
    · have h3 : (#[.int .i64 0, .int .i64 0, .int .i64 0, .int .i64 0, .int .i64 0] : Array Value)[j % 5]! = .int .i64 0 := by
        have h : j % 5 = 0 ∨ j % 5 = 1 ∨ j % 5 = 2 ∨ j % 5 = 3 ∨ j % 5 = 4 := by omega
        rcases h with h | h | h | h | h <;> simp [h]
      simp [madeCells, hj]
      have h : j % 5 = 0 ∨ j % 5 = 1 ∨ j % 5 = 2 ∨ j % 5 = 3 ∨ j % 5 = 4 := by omega
      rcases h with h | h | h | h | h <;> simp [h]
    · simp [madeCells, hj]
  have h2 : cellsS (List.replicate n ⟨0, 0, 0, 0, 0⟩) = List.replicate (n * 5) (.int .i64 0) := by
    clear h1
    induction n with
    | zero => rfl
    | succ m ih =>
      have e : (m + 1) * 5 = m * 5 + 1 + 1 + 1 + 1 + 1 := by omega
      rw [List.replicate_succ, e, List.replicate_succ, List.replicate_succ, List.replicate_succ, List.replicate_succ, List.replicate_succ, ← ih]
      simp [cellsS]
  rw [h1, h2]
theorem fill5_next {n k : Nat} {xs : List Su} {x : Su} {z : Su} (hl : xs.length = n) (hk : k < n) (hx : xs[k]? = some x) : (xs.take k ++ List.replicate (n - k) z).set k x = xs.take (k + 1) ++ List.replicate (n - (k + 1)) z := by
  have hk' : k < xs.length := by omega
  have e : xs[k] = x := (List.getElem?_eq_some_iff.1 hx).2
  rw [List.set_append_right _ _ (by simp; omega), List.take_succ_eq_append_getElem hk', e]
  have h1 : k - (xs.take k).length = 0 := by rw [List.length_take]; omega
  rw [h1]
  obtain ⟨m, hm⟩ : ∃ m, n - k = m + 1 := ⟨n - k - 1, by omega⟩
  have h2 : n - (k + 1) = m := by omega
  rw [hm, h2, List.replicate_succ]
  simp
theorem laws_szSumS_any {A : Option Addr} {n c : Nat} (left : Int) (w : World) (h1 : n ≤ 9223372036854775807) (h2 : 0 ≤ left) (h3 : left ≤ 1048576) :
    Calls Try.prog 5 #[.slice A n c, .int .i64 left] w fun e w' => e = .returned (.int .i64 (szL left n)) ∧ w = w' := by
  rcases Int.lt_or_le left (n : Int) with h | h
  · go_enter Try.func5, Try.ntmps5
    go_wp2
    go_ret
    exact ⟨ret_int (szL_lo h).symm, rfl⟩
  · go_enter Try.func5, Try.ntmps5
    go_wp2
    go_ret
    exact ⟨ret_int (szL_hi h).symm, rfl⟩
theorem laws_toSum_any (a b c d e : Int) (w : World) :
    Calls Try.prog 13 #[.agg #[.int .i64 a, .int .i64 b, .int .i64 c, .int .i64 d, .int .i64 e]] w fun z w' => z = .returned (.agg #[.int .i64 a, .int .i64 b, .int .i64 c, .int .i64 d, .int .i64 e]) ∧ Below w.heap.size w w' := by
  go_enter Try.func13, Try.ntmps13
  go_wp2_with (fail)
  refine bodyPost_ret (v := .agg #[.int .i64 a, .int .i64 b, .int .i64 c, .int .i64 d, .int .i64 e]) (by simp [results, Try.results13, go_sem]) rfl ⟨rfl, ?_⟩
  repeat' (first | with_reducible exact Below.refl _ _ | refine Below.setCell ?_ ?_ _ | refine Below.alloc ?_ ?_ _ | omega | (simp; done) | (simp; omega))
theorem infoSum : (Try.prog.info? 33).map (fun i => (i.zero, i.size, i.bytes)) = some (some (.agg #[.int .i64 0, .int .i64 0, .int .i64 0, .int .i64 0, .int .i64 0]), 5, 40) := by kernel_rfl
set_option maxHeartbeats 2000000 in
theorem laws_toSumS_any {A : Option Addr} {n c : Nat} {xs : List Su} (w : World) (h : SS w A n c xs) (hn : n ≤ 1048576) :
    Calls Try.prog 7 #[.slice A n c] w (GaveSu 33 w xs) := by
  obtain ⟨i0, hi, hz0, hz1, hz2⟩ := info_parts infoSum
  have hm : n ≤ maxLen := by simp only [maxLen]; omega
  have hl := h.len
  have HL := Lib.hid hl
  clear hl
  have H := Lib.hid h
  clear h
  have hb2 : i0.bytes * n ≤ 281474976710656 := by rw [hz2]; omega
  have HB := Lib.hid hb2
  clear hb2
  have HZ1 := Lib.hid hz1
  have HZ0 := Lib.hid hz0
  have HI := Lib.hid hi
  clear hz0 hz1 hz2 hi
  go_enter Try.func7, Try.ntmps7
  go_wp2_with (at_make; refine wpList_make_full _ rfl _ _ 25 rfl w.heap.size 33 i0 (.agg #[.int .i64 0, .int .i64 0, .int .i64 0, .int .i64 0, .int .i64 0]) 5 Try.underlying25 HI.out HZ0.out HZ1.out .i64 .i64 _ _ n rfl rfl rfl rfl HB.out hm (Nat.le_refl _) ?_; intro w1 hown1 hgr1)
  have hbel : Hid (Below w.heap.size w w1) := Lib.hid ((Below.refl _ _).grown hgr1 (Nat.le_refl _) (by simp))
  have HO : Hid (OS w1 33 w.heap.size (some ⟨w.heap.size, 0, none⟩) n n (xs.take 0 ++ List.replicate (n - 0) ⟨0, 0, 0, 0, 0⟩)) := Lib.hid (by
    unfold OS
    rw [made5] at hown1
    simpa using hown1)
  clear hown1 hgr1
  go_loopw [4] (fun i wr => ∃ k : Nat, k ≤ n ∧ i = .int .i64 k ∧ Hid (OS wr 33 w.heap.size (some ⟨w.heap.size, 0, none⟩) n n (xs.take k ++ List.replicate (n - k) ⟨0, 0, 0, 0, 0⟩)) ∧ Hid (Below w.heap.size w wr)) (fun i _ => n - (intOf i).toNat)
  case atStart => exact ⟨0, Nat.zero_le _, rfl, HO, hbel⟩
  case round =>
    obtain ⟨k, hk, rfl, ho, hb⟩ := hrel
    clear hbel HO
    by_cases hlt : k < n
    · obtain ⟨b, off, x, rfl, hx, ca, cb, cc, cd, ce⟩ := (H.out.below hb.out (Nat.le_refl _)).at_ hlt
      have HX := Lib.hid hx
      clear hx
      go_wp2_with (fail)
      refine (laws_toSum_any x.a x.b x.c x.d x.e _).mono ?_
      rintro e w2 ⟨rfl, hb2⟩
      have O2 := Lib.hid (ho.out.below hb2 (Nat.le_refl _))
      have B2 := Lib.hid (hb.out.trans (hb2.mono hb.out.size))
      clear hb2 ca cb cc cd ce
      obtain ⟨_, _, y, e0, hy, ya, yb, yc, yd, ye⟩ := O2.out.ss.at_ hlt
      simp only [Option.some.injEq, Addr.mk.injEq, and_true] at e0
      obtain ⟨rfl, rfl⟩ := e0
      rw [Nat.zero_add] at ya yb yc yd ye
      have f0 : w2.frozen? ⟨w.heap.size, k * 5, none⟩ = false := World.ownsRow.frozenAt O2.out (k * 5)
      have f1 : w2.frozen? ⟨w.heap.size, k * 5 + 1, none⟩ = false := World.ownsRow.frozenAt O2.out (k * 5 + 1)
      have f2 : w2.frozen? ⟨w.heap.size, k * 5 + 2, none⟩ = false := World.ownsRow.frozenAt O2.out (k * 5 + 2)
      have f3 : w2.frozen? ⟨w.heap.size, k * 5 + 3, none⟩ = false := World.ownsRow.frozenAt O2.out (k * 5 + 3)
      have f4 : w2.frozen? ⟨w.heap.size, k * 5 + 4, none⟩ = false := World.ownsRow.frozenAt O2.out (k * 5 + 4)
      clear hy
      go_wp2_with (fail)
      go_roundw
      case rel =>
        refine ⟨k + 1, by omega, by go_num, Lib.hid ?_, Lib.hid (((((B2.out.setCell (Nat.le_refl _) _).setCell (Nat.le_refl _) _).setCell (Nat.le_refl _) _).setCell (Nat.le_refl _) _).setCell (Nat.le_refl _) _)⟩
        rw [← fill5_next HL.out hlt HX.out]
        exact O2.out.stored hlt x
      case measure => simp [intOf]; omega
    · go_wp2_with (fail)
      go_ret
      have ek : k = n := by omega
      subst ek
      have ht := ho.out
      rw [List.take_of_length_le (by have := HL.out; omega), Nat.sub_self, List.replicate_zero, List.append_nil] at ht
      exact ⟨_, _, _, rfl, ht, hb.out⟩
theorem laws_eqSum_same (a b c d e : Int) (w : World) :
    Calls Try.prog 16 #[.agg #[.int .i64 a, .int .i64 b, .int .i64 c, .int .i64 d, .int .i64 e], .agg #[.int .i64 a, .int .i64 b, .int .i64 c, .int .i64 d, .int .i64 e]] w fun z w' => z = .returned (.bool true) ∧ Below w.heap.size w w' := by
  have e1 : (a != a) = false := by simp
  have e2 : (b != b) = false := by simp
  have e3 : (c != c) = false := by simp
  have e4 : (d != d) = false := by simp
  have e5 : (e != e) = false := by simp
  go_enter Try.func16, Try.ntmps16
  go_wp2_with (fail)
  go_ret
  exact ⟨rfl, ((Below.refl _ _).alloc (Nat.le_refl _) _).alloc (by simp) _⟩
set_option maxHeartbeats 2000000 in
theorem laws_eqSumS_same {A A' : Option Addr} {n c n' c' : Nat} {xs : List Su} (w : World) (h : SS w A n c xs) (h' : SS w A' n' c' xs) :
    Calls Try.prog 9 #[.slice A n c, .slice A' n' c'] w fun e w' => e = .returned (.bool true) ∧ Below w.heap.size w w' := by
  obtain rfl : n = n' := h.len.symm.trans h'.len
  have hcap := h.cap
  have H := Lib.hid h
  have H' := Lib.hid h'
  clear h h'
  go_enter Try.func9, Try.ntmps9
  go_wp2_with (fail)
  go_loopw [5] (fun i wr => ∃ k : Nat, k ≤ n ∧ i = .int .i64 k ∧ Hid (Below w.heap.size w wr)) (fun i _ => n - (intOf i).toNat)
  case atStart => exact ⟨0, Nat.zero_le _, rfl, Lib.hid (Below.refl _ _)⟩
  case round =>
    obtain ⟨k, hk, rfl, hb⟩ := hrel
    by_cases hlt : k < n
    · obtain ⟨b, off, x, rfl, hx, ca, cb, cc, cd, ce⟩ := (H.out.below hb.out (Nat.le_refl _)).at_ hlt
      obtain ⟨b', off', x', rfl, hx', ca', cb', cc', cd', ce'⟩ := (H'.out.below hb.out (Nat.le_refl _)).at_ hlt
      obtain rfl : x = x' := by rw [hx] at hx'; injection hx'
      have hki : (k : Int) < (n : Int) := by omega
      have q1 := fun d os => cell_regrown ca d os
      have q2 := fun d os => cell_regrown cb d os
      have q3 := fun d os => cell_regrown cc d os
      have q4 := fun d os => cell_regrown ca' d os
      have q5 := fun d os => cell_regrown cb' d os
      have q6 := fun d os => cell_regrown cc' d os
      have q7 := fun d os => cell_regrown cd d os
      have q8 := fun d os => cell_regrown ce d os
      have q9 := fun d os => cell_regrown cd' d os
      have q10 := fun d os => cell_regrown ce' d os
      clear hx hx' ca cb cc cd ce ca' cb' cc' cd' ce'
      go_wp2_with (fail)
      refine wp_region_quiet_below (by kernel_rfl) (by kernel_rfl) ?_
      repeat (first | go_big_quiet_step ((go_at_call 16; exact Calls.regrown_of (laws_eqSum_same _ _ _ _ _ _))) | quiet_step ((go_at_call 16; exact Calls.regrown_of (laws_eqSum_same _ _ _ _ _ _))))
      refine wpQuiet_nil ?_
      intro wq hw'
      have hbq : Below wr.heap.size wr wq := by obtain ⟨p, rfl⟩ := hw'; exact below_regrown _ _ _
      have BQ := Lib.hid (hb.out.trans (hbq.mono hb.out.size))
      clear hw' hbq q1 q2 q3 q4 q5 q6 q7 q8 q9 q10
      go_wp2_with (fail)
      go_roundw
      case rel => exact ⟨k + 1, by omega, by go_num, BQ⟩
      case measure => simp [intOf]; omega
    · go_wp2_with (fail)
      go_ret
      exact ⟨rfl, hb.out⟩
end Go.Proofs.Ytbingkkhhaknlaa
