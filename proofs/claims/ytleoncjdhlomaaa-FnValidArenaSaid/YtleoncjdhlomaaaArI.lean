/-
  Contracts of arenas: validity by the program.
-/
import Derived.Test.YtleoncjdhlomaaaOwn
import Derived.Test.YtleoncjdhlomaaaArM
import Derived.Lib.QuietBelow
import Derived.IntWalk
import Derived.Deep.DeepMust
namespace Go.Proofs.Ytleoncjdhlomaaa
open Go.RowKit
/-- A name is among the first k ones. -/
def seen (xs : List Tr) (k v : Nat) : Bool := (xs.take k).any fun y => decide (y.a = (v : Int))
theorem seen_zero (xs : List Tr) (v : Nat) : seen xs 0 v = false := by simp [seen]
theorem seen_next {xs : List Tr} {k v : Nat} {x : Tr} (h : xs[k]? = some x) : seen xs (k + 1) v = (seen xs k v || decide (x.a = (v : Int))) := by
  have hk : k < xs.length := (List.getElem?_eq_some_iff.1 h).1
  have hx : xs[k] = x := (List.getElem?_eq_some_iff.1 h).2
  simp [seen, List.take_succ_eq_append_getElem hk, hx]
theorem seen_f {xs : List Tr} {k v : Nat} {x : Tr} (h : seen xs k v = false) (hx : x.a = (v : Int)) : ∀ y ∈ xs.take k, y.a ≠ x.a := fun y hy e => by
  have h1 : seen xs k v = true := List.any_eq_true.2 ⟨y, hy, by simp [e, hx]⟩
  rw [h] at h1
  cases h1
theorem seen_t {xs : List Tr} {k v : Nat} {x : Tr} (h : seen xs k v = true) (hx : x.a = (v : Int)) : ¬ ∀ y ∈ xs.take k, y.a ≠ x.a := fun hh => by
  obtain ⟨y, hy, e⟩ := List.any_eq_true.1 h
  simp at e
  exact hh y hy (by omega)
/-- Block g tells for each name whether it is among the first k ones. -/
def Named (w : World) (T g : Nat) (xs : List Tr) (k : Nat) : Prop := ∃ arr : Array Value, Blk w g T arr ∧ arr.size = 100 ∧ ∀ v : Nat, v < 100 → arr[v]? = some (.bool (seen xs k v))
theorem Named.on {w w' : World} {T g k : Nat} {xs : List Tr} (h : Named w T g xs k) (hb : Below w.heap.size w w') : Named w' T g xs k := by
  obtain ⟨arr, h1, h2, h3⟩ := h
  exact ⟨arr, h1.on hb, h2, h3⟩
theorem Named.at_ {w : World} {T g k : Nat} {xs : List Tr} (h : Named w T g xs k) {v : Nat} (hv : v < 100) : w.cell? ⟨g, v, none⟩ = some (.bool (seen xs k v)) ∧ w.frozen? ⟨g, v, none⟩ = false := by
  obtain ⟨arr, h1, h2, h3⟩ := h
  exact ⟨(h1.cell v).trans (h3 v hv), h1.frozen v⟩
theorem Named.lt {w : World} {T g k : Nat} {xs : List Tr} (h : Named w T g xs k) : g < w.heap.size := by
  obtain ⟨arr, h1, _⟩ := h
  exact h1.lt
theorem Named.next {w : World} {T g k : Nat} {xs : List Tr} {x : Tr} (h : Named w T g xs k) (hx : xs[k]? = some x) {v : Nat} (hv : x.a = (v : Int)) (h100 : v < 100) : Named (w.setCell ⟨g, v, none⟩ (.bool true)) T g xs (k + 1) := by
  obtain ⟨arr, h1, h2, h3⟩ := h
  refine ⟨arr.setIfInBounds v (.bool true), h1.set_ v _, by simpa using h2, fun u hu => ?_⟩
  rw [Array.getElem?_setIfInBounds, seen_next hx]
  by_cases e : v = u
  · subst e
    rw [if_pos rfl, if_pos (by omega), decide_eq_true hv, Bool.or_true]
  · rw [if_neg e, h3 u hu, decide_eq_false (by omega), Bool.or_false]
theorem Named.new (w : World) (T : Nat) (xs : List Tr) : Named (w.alloc (.cells (Array.replicate 100 (.bool false)) T)) T w.heap.size xs 0 :=
  ⟨_, Blk.new _ _ _, by simp, fun v hv => by rw [seen_zero]; simp [hv]⟩
theorem validA_bad2 {s : Int} {xs : List Tr} {k : Nat} (hk : k < xs.length) (h : ¬ okAt s xs k) : ¬ ValidA s xs := fun hv => h (hv.2.2 k hk)
set_option maxHeartbeats 4000000 in
theorem impl_ValidArena_any {A : Option Addr} {n c : Nat} {xs : List Tr} (s : Int) (w : World) (h : TS w A n c xs) :
    Calls Try.prog 15 #[.agg #[.int .i64 s, .slice A n c]] w fun e w' => e = .returned (.bool (validA s xs)) ∧ Below w.heap.size w w' := by
  have hcap := h.cap
  have hl := h.len
  have HL := Lib.hid hl
  have H := Lib.hid (h.alloc (.cells #[.int .i64 s, .slice A n c] 25))
  have B0 := Lib.hid (below_new w (.cells #[.int .i64 s, .slice A n c] 25))
  have X0 := Lib.hid (Blk.new w 25 #[.int .i64 s, .slice A n c])
  have BLT : Hid (0 < n → Lt A w.heap.size) := Lib.hid (fun hn p hp => by
    obtain ⟨b, off, x, e, _, hc, _⟩ := h.at_ hn
    rw [e] at hp
    cases hp
    exact World.block_lt_of_cell? w _ hc)
  clear h hl
  rcases h1 : inR s 0 64 with _ | _
  · go_enter Try.func15, Try.ntmps15
    go_wp2_with (go_at_call 38; refine (call_b (impl_within_any _ _ _ _) h1).mono ?_; rintro e w' ⟨rfl, rfl⟩)
    go_ret
    exact ⟨ret_bool (validA_f (fun hv => by have := inR_t hv.1.1 hv.1.2; rw [h1] at this; cases this)).symm, B0.out⟩
  obtain ⟨hs0, hs1⟩ := inR_iff.1 h1
  have H1 := Lib.hid h1
  clear h1
  rcases Int.lt_or_le 10 (n : Int) with h10 | h10
  · have hd : decide (10 < (n : Int)) = true := decide_eq_true h10
    go_enter Try.func15, Try.ntmps15
    go_wp2_with (go_at_call 38; refine (call_b (impl_within_any _ _ _ _) H1.out).mono ?_; rintro e w' ⟨rfl, rfl⟩)
    go_ret
    exact ⟨ret_bool (validA_f (fun hv => by have := hv.2.1; have := HL.out; omega)).symm, B0.out⟩
  have hd : decide (10 < (n : Int)) = false := decide_eq_false (by omega)
  obtain ⟨zs, hzs, hzr⟩ : ∃ zs : Array Value, zs = Array.replicate 100 (.bool false) ∧ ∀ W, (zeroValue 52).run Try.prog W = .ok (.agg zs) W := ⟨_, rfl, fun W => by kernel_rfl⟩
  have hne : ¬ zs = #[] := by rw [hzs]; simp
  have NN : Hid (Named ((w.alloc (.cells #[.int .i64 s, .slice A n c] 25)).alloc (.cells zs 52)) 52 (w.heap.size + 1) xs 0) := Lib.hid (by rw [hzs]; simpa using Named.new (w.alloc (.cells #[.int .i64 s, .slice A n c] 25)) 52 xs)
  have HZ := Lib.hid hzs
  have BN := Lib.hid (B0.out.alloc B0.out.size (.cells zs 52))
  have XN := Lib.hid (X0.out.alloc (.cells zs 52))
  have TN := Lib.hid (H.out.alloc (.cells zs 52))
  clear hzs
  go_enter Try.func15, Try.ntmps15
  go_wp2_with (go_at_call 38; refine (call_b (impl_within_any _ _ _ _) H1.out).mono ?_; rintro e w' ⟨rfl, rfl⟩)
  obtain ⟨wz, eW⟩ : ∃ v : World, v = (w.alloc (.cells #[.int .i64 s, .slice A n c] 25)).alloc (.cells zs 52) := ⟨_, rfl⟩
  rw [← eW] at NN BN XN TN ⊢
  clear eW hzr hne HZ B0 X0 H
  go_loopw [4, 20] (fun e i wr => ∃ (k : Nat) (E : Int), k ≤ n ∧ i = .int .i64 k ∧ e = .int .i64 E ∧ 0 ≤ E ∧ E ≤ s ∧ Hid (endT (xs.take k) = E) ∧ Hid (okPre s xs k) ∧ Hid (Below w.heap.size w wr ∧ Blk wr w.heap.size 25 #[.int .i64 s, .slice A n c] ∧ TS wr A n c xs ∧ Named wr 52 (w.heap.size + 1) xs k)) (fun _ i _ => n - (intOf i).toNat)
  case atStart => exact ⟨0, 0, Nat.zero_le _, rfl, rfl, by omega, by omega, Lib.hid (by simp [endT]), Lib.hid (okPre_zero _ _), Lib.hid ⟨BN.out, XN.out, TN.out, NN.out⟩⟩
  case round =>
    obtain ⟨k, E, hk, rfl, rfl, hE0, hE1, hE, hP, HH⟩ := hrel
    clear BN XN TN NN
    obtain ⟨bx, x0, t0, n0⟩ := HH.out
    have B := Lib.hid bx
    have X := Lib.hid x0
    have TT := Lib.hid t0
    have N := Lib.hid n0
    have xl := x0.lt
    have nl := n0.lt
    clear bx x0 t0 n0 HH
    obtain ⟨a0, a1⟩ := X.out.c2
    by_cases hlt : k < n
    · obtain ⟨b, off, x, rfl, hx, ca, cb, cc⟩ := TT.out.at_ hlt
      have HX := Lib.hid hx
      clear hx
      have hkl : Hid (k < xs.length) := Lib.hid (by have := HL.out; omega)
      have hki : (k : Int) < (n : Int) := by omega
      have bl : b < wr.heap.size := World.block_lt_of_cell? wr _ ca
      have B1 := Lib.hid (B.out.alloc B.out.size (.cells #[.int .i64 x.a, .int .i64 x.b, .int .i64 x.c] 39))
      rcases h1 : inR x.a 0 99 with _ | _
      · go_wp2_with (go_at_call 38; refine (call_b (impl_within_any _ _ _ _) h1).mono ?_; rintro e w' ⟨rfl, rfl⟩)
        go_ret
        exact ⟨ret_bool (validA_f (validA_bad2 hkl.out (fun hh => by have h2 := (hh x HX.out).1; have := inR_t h2.1 h2.2; rw [h1] at this; cases this))).symm, B1.out⟩
      obtain ⟨v0, v1⟩ := inR_iff.1 h1
      obtain ⟨v, hv⟩ := Int.eq_ofNat_of_zero_le v0
      have hv100 : v < 100 := by omega
      obtain ⟨nc, nf⟩ := N.out.at_ hv100
      have HV := Lib.hid hv
      have K1 := Lib.hid h1
      clear h1
      rw [hv] at v0 v1 ca K1
      obtain ⟨xa, hxa⟩ : ∃ y : Int, y = (v : Int) := ⟨_, rfl⟩
      rcases hsn : seen xs k v with _ | _
      case true =>
        rw [hsn] at nc
        rw [HV.out] at B1
        go_wp2_with (go_at_call 38; refine (call_b (impl_within_any _ _ _ _) K1.out).mono ?_; rintro e w' ⟨rfl, rfl⟩)
        go_ret
        exact ⟨ret_bool (validA_f (validA_bad2 hkl.out (fun hh => seen_t hsn HV.out (hh x HX.out).2.1))).symm, B1.out⟩
      rw [hsn] at nc
      rw [HV.out] at B1
      have SF := Lib.hid (seen_f hsn HV.out)
      clear hsn
      rcases h2 : inR x.b E s with _ | _
      · go_wp2_with (first | (go_at_call 38; ((with_reducible refine (call_b (impl_within_any (v : Int) 0 99 _) K1.out).mono ?_); rintro e w' ⟨rfl, rfl⟩)) | (go_at_call 38; ((with_reducible refine (call_b (impl_within_any x.b E s _) h2).mono ?_); rintro e w' ⟨rfl, rfl⟩)))
        go_ret
        exact ⟨ret_bool (validA_f (validA_bad2 hkl.out (fun hh => by have h3 := (hh x HX.out).2.2.1; rw [hE.out] at h3; have := inR_t h3.1 h3.2; rw [h2] at this; cases this))).symm, B1.out⟩
      obtain ⟨b0, b1⟩ := inR_iff.1 h2
      have K2 := Lib.hid h2
      have hw1 : IntKind.i64.wrap (s - x.b) = s - x.b := IntWalk.i64_in _ (by omega)
      clear h2
      rcases h3 : inR x.c 1 (s - x.b) with _ | _
      · go_wp2_with (first | (go_at_call 38; ((with_reducible refine (call_b (impl_within_any (v : Int) 0 99 _) K1.out).mono ?_); rintro e w' ⟨rfl, rfl⟩)) | (go_at_call 38; ((with_reducible refine (call_b (impl_within_any x.b E s _) K2.out).mono ?_); rintro e w' ⟨rfl, rfl⟩)) | (go_at_call 38; ((with_reducible refine (call_b (impl_within_any x.c 1 (s - x.b) _) h3).mono ?_); rintro e w' ⟨rfl, rfl⟩)))
        go_ret
        exact ⟨ret_bool (validA_f (validA_bad2 hkl.out (fun hh => by have h4 := (hh x HX.out).2.2.2; have := inR_t h4.1 h4.2; rw [h3] at this; cases this))).symm, B1.out⟩
      obtain ⟨c0, c1⟩ := inR_iff.1 h3
      have K3 := Lib.hid h3
      clear h3
      have n0 := HV.out
      have BX := Lib.hid ((B.out.setCell (p := ⟨w.heap.size + 1, v, none⟩) (by show w.heap.size ≤ w.heap.size + 1; omega) (.bool true)).alloc (by simpa [World.setCell] using B.out.size) (.cells #[.int .i64 (v : Int), .int .i64 x.b, .int .i64 x.c] 39))
      clear n0
      go_wp2_with (first | (go_at_call 38; ((with_reducible refine (call_b (impl_within_any (v : Int) 0 99 _) K1.out).mono ?_); rintro e w' ⟨rfl, rfl⟩)) | (go_at_call 38; ((with_reducible refine (call_b (impl_within_any x.b E s _) K2.out).mono ?_); rintro e w' ⟨rfl, rfl⟩)) | (go_at_call 38; ((with_reducible refine (call_b (impl_within_any x.c 1 (s - x.b) _) K3.out).mono ?_); rintro e w' ⟨rfl, rfl⟩)))
      go_roundw
      case rel =>
        have hbw : b < w.heap.size := BLT.out (by omega) _ rfl
        refine ⟨k + 1, x.b + x.c, by omega, by go_num, by go_num, by omega, by omega, Lib.hid (endT_next HX.out), Lib.hid (okPre_next hP.out (fun z hz => ?_)), Lib.hid ⟨BX.out, (X.out.far (p := ⟨w.heap.size + 1, v, none⟩) (by show w.heap.size ≠ w.heap.size + 1; omega) _).alloc _, (TT.out.setCell (p := ⟨w.heap.size + 1, v, none⟩) (fun p q hp hq => by cases hp; cases hq; show w.heap.size + 1 ≠ b; omega) _).alloc _, (N.out.next HX.out HV.out hv100).on (below_new _ _)⟩⟩
        obtain rfl : x = z := by rw [HX.out] at hz; injection hz
        exact ⟨by have := inR_iff.1 K1.out; have := HV.out; omega, SF.out, by rw [hE.out]; exact inR_iff.1 K2.out, inR_iff.1 K3.out⟩
      case measure => simp [intOf]; omega
    · have ek : k = n := by omega
      subst ek
      go_wp2_with (fail)
      go_ret
      exact ⟨ret_bool (validA_t ⟨inR_iff.1 H1.out, by have := HL.out; omega, by rw [HL.out]; exact hP.out⟩).symm, B.out⟩
end Go.Proofs.Ytleoncjdhlomaaa
