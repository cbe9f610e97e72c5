/-
  Contracts of slices.Grow and slices.Concat over blocks.
-/
import Derived.Test.YtleoncjdhlomaaaArW
import Derived.Test.YtleoncjdhlomaaaTriA
import Derived.Lib.AppendZeros
import Derived.Deep.DeepMust
namespace Go.Proofs.Ytleoncjdhlomaaa
open Go.RowKit

set_option maxHeartbeats 1000000 in
theorem growT_any (n : Nat) (w : World) (hn : n ≤ 1073741824) :
    Calls Try.prog 57 #[.slice none 0 0, .int .i64 (n : Int)] w fun e w' => ∃ A c, e = .returned (.slice A 0 c) ∧ OT w' 39 w.heap.size A 0 c [] ∧ Below w.heap.size w w' := by
  by_cases h0 : n = 0
  · subst h0
    go_enter Try.func57, Try.ntmps57
    go_wp2_with (fail)
    go_ret
    exact ⟨none, 0, rfl, ⟨rfl, .inl ⟨rfl, rfl⟩⟩, Below.refl _ _⟩
  · obtain ⟨i, hi, hz, h1, h2⟩ := info_parts infoBlk
    have hr := Lib.run_append_nil_zeros (P := Try.prog) w 23 3 23 39 i (.agg #[.int .i64 0, .int .i64 0, .int .i64 0]) .i64 .i64 Try.underlying23 Try.underlying3 hi hz n (by omega) (by omega) (by omega) (by rw [h2]; omega)
    have hcm : grownCap w n 0 39 ≤ maxLen := grownCap_le_maxLen w n 0 39 (by simp only [maxLen]; omega)
    have hcg : n ≤ grownCap w n 0 39 := grownCap_ge w n 0 39
    have hown : OT (w.drew.alloc (.cells (Builtin.zeroCells (Value.agg #[.int .i64 0, .int .i64 0, .int .i64 0]).cells n ++ Builtin.zeroCells (Value.agg #[.int .i64 0, .int .i64 0, .int .i64 0]).cells (grownCap w n 0 39 - n)) 39)) 39 w.heap.size (some ⟨w.heap.size, 0, none⟩) 0 (grownCap w n 0 39) [] :=
      World.ownsRow_made w.drew _ _ (Nat.le_refl _) hcm (by
        rw [Array.size_append, size_zeroCells, size_zeroCells]
        simp [Value.cells]
        omega)
    have hbel : Below w.heap.size w (w.drew.alloc (.cells (Builtin.zeroCells (Value.agg #[.int .i64 0, .int .i64 0, .int .i64 0]).cells n ++ Builtin.zeroCells (Value.agg #[.int .i64 0, .int .i64 0, .int .i64 0]).cells (grownCap w n 0 39 - n)) 39)) := ((Below.refl _ w).drew).alloc (Nat.le_refl _) _
    clear hi hz h1 h2
    generalize grownCap w n 0 39 = cap at *
    generalize w.drew.alloc (.cells (Builtin.zeroCells (Value.agg #[.int .i64 0, .int .i64 0, .int .i64 0]).cells n ++ Builtin.zeroCells (Value.agg #[.int .i64 0, .int .i64 0, .int .i64 0]).cells (cap - n)) 39) = w1 at *
    have HR := Lib.hid hr
    have HO := Lib.hid hown
    have HB := Lib.hid hbel
    clear hr hown hbel
    go_enter Try.func57, Try.ntmps57
    go_wp2_with (at_builtin; refine Lib.wpList_append_run _ rfl _ _ _ _ rfl _ _ rfl rfl _ _ HR.out ?_)
    go_ret
    exact ⟨_, _, rfl, HO.out, HB.out⟩
/-- A call has handed back triples of its own. -/
def GaveTs (T : Nat) (w : World) (xs : List Tr) (e : Ending) (w' : World) : Prop :=
  ∃ A n c, e = .returned (.slice A n c) ∧ OT w' T w.heap.size A n c xs ∧ Below w.heap.size w w'
/-- A slice of slices of triples. -/
def SlT (w : World) (A : Option Addr) (m : Nat) (X : List (List Tr)) : Prop :=
  X.length = m ∧ ∀ j, j < m → ∃ b off Aj nj cj xj, A = some ⟨b, off, none⟩ ∧ X[j]? = some xj ∧ w.cell? ⟨b, off + j, none⟩ = some (.slice Aj nj cj) ∧ TS w Aj nj cj xj
theorem SlT.below {w w' : World} {A : Option Addr} {m B : Nat} {X : List (List Tr)} (h : SlT w A m X) (hb : Below B w w') (hB : w.heap.size ≤ B) : SlT w' A m X := by
  refine ⟨h.1, fun j hj => ?_⟩
  obtain ⟨b, off, Aj, nj, cj, xj, e, hx, hc, hi⟩ := h.2 j hj
  refine ⟨b, off, Aj, nj, cj, xj, e, hx, ?_, hi.below hb hB⟩
  rw [← hc]
  exact hb.cell (p := ⟨b, off + j, none⟩) (Nat.lt_of_lt_of_le (World.block_lt_of_cell? w ⟨b, off + j, none⟩ hc) hB)
theorem SlT.one {w : World} {b : Nat} {A : Option Addr} {n c : Nat} {x : List Tr} (hc : w.cell? ⟨b, 0, none⟩ = some (.slice A n c)) (hi : TS w A n c x) : SlT w (some ⟨b, 0, none⟩) 1 [x] := by
  refine ⟨rfl, fun j hj => ?_⟩
  obtain rfl : j = 0 := by omega
  exact ⟨b, 0, A, n, c, x, rfl, rfl, hc, hi⟩
def catTN (X : List (List Tr)) : Nat := X.flatten.length
theorem catTN_step {X : List (List Tr)} {k : Nat} {x : List Tr} (h : X[k]? = some x) : catTN (X.take (k + 1)) = catTN (X.take k) + x.length := by
  have hk : k < X.length := (List.getElem?_eq_some_iff.1 h).1
  have hx : X[k] = x := (List.getElem?_eq_some_iff.1 h).2
  simp [catTN, List.take_succ_eq_append_getElem hk, hx]
theorem catT_step {X : List (List Tr)} {k : Nat} {x : List Tr} (h : X[k]? = some x) : (X.take (k + 1)).flatten = (X.take k).flatten ++ x := by
  have hk : k < X.length := (List.getElem?_eq_some_iff.1 h).1
  have hx : X[k] = x := (List.getElem?_eq_some_iff.1 h).2
  simp [List.take_succ_eq_append_getElem hk, hx]
theorem catTN_le (X : List (List Tr)) (k : Nat) : catTN (X.take k) ≤ catTN X := by
  have h : X = X.take k ++ X.drop k := (List.take_append_drop k X).symm
  have h2 : catTN X = catTN (X.take k) + catTN (X.drop k) := by
    rw [catTN, catTN, catTN, ← List.length_append, ← List.flatten_append, List.take_append_drop]
  omega
set_option maxHeartbeats 2000000 in
theorem concatT_any {A : Option Addr} {m c : Nat} {X : List (List Tr)} (w : World) (h : SlT w A m X) (hm : m ≤ 1000) (hn : catTN X ≤ 536870912) :
    Calls Try.prog 44 #[.slice A m c] w (GaveTs 39 w X.flatten) := by
  have hl := h.1
  have HL := Lib.hid hl
  clear hl
  have H := Lib.hid h
  clear h
  have HN := Lib.hid hn
  clear hn
  go_enter Try.func44, Try.ntmps44
  go_wp2_with (fail)
  go_loop [3, 11] (fun t i => ∃ k s : Nat, k ≤ m ∧ s ≤ 536870912 ∧ i = .int .i64 k ∧ t = .int .i64 s ∧ Hid (catTN (X.take k) = s)) (fun _ i => m - (intOf i).toNat)
  case atStart => exact ⟨0, 0, Nat.zero_le _, by omega, rfl, rfl, Lib.hid (by simp [catTN])⟩
  case round =>
    obtain ⟨k, s, hk, hs, rfl, rfl, ha⟩ := hrel
    by_cases hlt : k < m
    · obtain ⟨b, off, Aj, nj, cj, xj, rfl, hx, hc, hi⟩ := H.out.2 k hlt
      have hj : s + nj ≤ 536870912 := by
        have h1 := catTN_step hx
        have h2 := catTN_le X (k + 1)
        have h3 := HN.out
        have h4 := hi.len
        have h5 := ha.out
        omega
      have HX := Lib.hid hx
      have HI := Lib.hid hi
      clear hx hi
      go_wp2_with (fail)
      go_round
      case rel => exact ⟨k + 1, s + nj, by omega, hj, by go_num, by go_num, Lib.hid (by rw [catTN_step HX.out, ha.out, HI.out.len])⟩
      case measure => simp [intOf]; omega
    · go_wp2_with (fail)
      have ek : k = m := by omega
      subst ek
      refine (growT_any s _ (by omega)).mono ?_
      rintro e w1 ⟨A1, c1, rfl, ho1, hb1⟩
      have HO1 := Lib.hid ho1
      clear ho1
      go_wp2_with (fail)
      go_loopw [6, 27] (fun v i wr => ∃ (k' n' c' : Nat) (A' : Option Addr), k' ≤ k ∧ i = .int .i64 k' ∧ v = .slice A' n' c' ∧ Hid (OT wr 39 w.heap.size A' n' c' (X.take k').flatten) ∧ Below w.heap.size w wr) (fun _ i _ => k - (intOf i).toNat)
      case atStart => exact ⟨0, 0, c1, A1, Nat.zero_le _, rfl, rfl, Lib.hid (by simpa using HO1.out), hb1⟩
      case round =>
        obtain ⟨k', n', c', A', hk', rfl, rfl, ho, hb⟩ := hrel
        clear hb1
        by_cases hlt' : k' < k
        · obtain ⟨b, off, Aj, nj, cj, xj, rfl, hx, hc, hi⟩ := (H.out.below hb (Nat.le_refl _)).2 k' hlt'
          have hj : n' + nj ≤ 536870912 := by
            have h1 := catTN_step hx
            have h2 := catTN_le X (k' + 1)
            have h3 := HN.out
            have h4 := hi.len
            have h5 := ho.out.len
            unfold catTN at *
            omega
          have HX := Lib.hid hx
          have HI := Lib.hid hi
          clear hx hi
          have HB := Lib.hid hb
          clear hb
          go_wp2_with (at_builtin; go_must (refine wpList_append_ts _ rfl (.tmp 31) (.tmp 32) _ rfl w.heap.size 39 infoBlk Try.underlying23 _ _ _ _ rfl ho.out _ _ _ xj rfl HI.out (by omega) HB.out.size ?_); intro A'' c'' w2 hown2 hg2; have HO2 := Lib.hid hown2; have HG2 := Lib.hid hg2; clear hown2 hg2)
          go_roundw
          case rel =>
            refine ⟨k' + 1, n' + nj, c'', A'', by omega, by go_num, rfl, Lib.hid ?_, below_row HB.out HG2.out HB.out.size ho.out.ge⟩
            rw [catT_step HX.out]
            exact HO2.out
          case measure => simp [intOf]; omega
        · go_wp2_with (fail)
          go_ret
          have ek : k' = k := by omega
          subst ek
          have h2 := ho.out
          rw [List.take_of_length_le (by have := HL.out; omega)] at h2
          exact ⟨A', n', c', rfl, h2, hb⟩
end Go.Proofs.Ytleoncjdhlomaaa
