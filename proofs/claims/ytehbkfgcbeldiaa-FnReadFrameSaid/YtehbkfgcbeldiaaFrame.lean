/-
  Contracts of the functions that make frames, and of slices.Concat over integers.
-/
import Derived.Test.YtehbkfgcbeldiaaItem
import Derived.Test.YtehbkfgcbeldiaaCopy
import Derived.Lib.AppendZeros
import Derived.Deep.DeepMust
namespace Go.Proofs.Ytehbkfgcbeldiaa
open Go.RowKit

/-- The numbers of an item's frame behind the mark and ahead of the check. -/
def bodyL (cl ky : Int) (xs : List Int) : List Int := [(xs.length : Int), cl, ky] ++ xs
/-- The numbers of an item's frame. -/
def frameL (cl ky : Int) (xs : List Int) : List Int := (165 :: bodyL cl ky xs) ++ [chk (bodyL cl ky xs)]
theorem validI_parts {cl ky : Int} {xs : List Int} (h : validI cl ky xs = true) : 0 ≤ cl ∧ cl ≤ 2 ∧ 0 ≤ ky ∧ ky ≤ 255 ∧ xs.length ≤ 8 ∧ allR xs 0 255 = true := by
  simp only [validI, okB, Bool.and_eq_true, decide_eq_true_eq, inR_iff] at h
  obtain ⟨⟨⟨h1, h2⟩, h3, h4⟩, h5, h6⟩ := h
  exact ⟨h1, h2, h3, h4, by omega, h6⟩
theorem allR_cons {x : Int} {xs : List Int} {lo hi : Int} : allR (x :: xs) lo hi = (inR x lo hi && allR xs lo hi) := by simp [allR]
theorem allR_append {xs ys : List Int} {lo hi : Int} : allR (xs ++ ys) lo hi = (allR xs lo hi && allR ys lo hi) := by simp [allR]
theorem bodyL_ok {cl ky : Int} {xs : List Int} (h : validI cl ky xs = true) : allR (bodyL cl ky xs) 0 255 = true := by
  obtain ⟨h1, h2, h3, h4, h5, h6⟩ := validI_parts h
  unfold bodyL
  rw [allR_append, allR_cons, allR_cons, allR_cons, inR_t (by omega) (by omega), inR_t (by omega) (by omega), inR_t (by omega) (by omega), h6]
  rfl
theorem bodyL_len (cl ky : Int) (xs : List Int) : (bodyL cl ky xs).length = xs.length + 3 := by simp [bodyL]
theorem frameL_len (cl ky : Int) (xs : List Int) : (frameL cl ky xs).length = xs.length + 5 := by simp [frameL, bodyL_len]
theorem frameL_ok {cl ky : Int} {xs : List Int} (h : validI cl ky xs = true) : allR (frameL cl ky xs) 0 255 = true := by
  have hc := chk_bd (bodyL cl ky xs)
  unfold frameL
  rw [allR_append, allR_cons, bodyL_ok h, allR_cons, inR_t (by omega) (by omega), inR_t (by omega) (by omega)]
  rfl
theorem chkOf_body {cl ky : Int} {xs : List Int} (h : validI cl ky xs = true) : chkOf (bodyL cl ky xs) = chk (bodyL cl ky xs) := by
  have h5 := (validI_parts h).2.2.2.2.1
  unfold chkOf
  rw [okB_short (by rw [bodyL_len]; omega), bodyL_ok h]
  rfl
theorem frame_body {w : World} {T base g n c : Nat} {cl ky : Int} {xs : List Int} (hl : xs.length = n) (h : OW w T base (some ⟨g, 0, none⟩) (4 + n) c ([165, (n : Int), cl, ky] ++ xs)) :
    IS w (some ⟨g, 1, none⟩) (3 + n) (c - 1) (bodyL cl ky xs) := by
  have h1 := h.is.cut (lo := 1) (hi := 4 + n) (by omega) (Nat.le_refl _)
  have e1 : 4 + n - 1 = 3 + n := by omega
  have e2 : (([165, (n : Int), cl, ky] ++ xs).take (4 + n)).drop 1 = bodyL cl ky xs := by
    rw [List.take_of_length_le (by simp; omega)]
    simp [bodyL, hl]
  rw [e1, e2] at h1
  simpa using h1
set_option maxHeartbeats 1000000 in
theorem spec_frame_any {A : Option Addr} {n c : Nat} {xs : List Int} (cl ky : Int) (w : World) (h : IS w A n c xs) (hv : validI cl ky xs = true) :
    Calls Try.prog 28 #[.agg #[.int .i64 cl, .int .i64 ky, .slice A n c]] w (GaveInts 3 w (frameL cl ky xs)) := by
  obtain ⟨_, _, _, _, hn8, _⟩ := validI_parts hv
  have hl := h.len
  have hcap := h.cap
  have hn : n ≤ 8 := by omega
  have HL := Lib.hid hl
  have H := Lib.hid h
  have HV := Lib.hid hv
  clear hl hn8 h hv
  have HO : Hid (OW ((w.alloc (.cells #[.int .i64 cl, .int .i64 ky, .slice A n c] 26)).alloc (.cells #[.int .i64 165, .int .i64 n, .int .i64 cl, .int .i64 ky] 3)) 3 (w.heap.size + 1) (some ⟨w.heap.size + 1, 0, none⟩) 4 4 [165, (n : Int), cl, ky]) :=
    Lib.hid (by simpa using OW.lit (w.alloc (.cells #[.int .i64 cl, .int .i64 ky, .slice A n c] 26)) 3 (w.heap.size + 1) [165, (n : Int), cl, ky] (by simp) (by simp))
  have B0 : Below w.heap.size w ((w.alloc (.cells #[.int .i64 cl, .int .i64 ky, .slice A n c] 26)).alloc (.cells #[.int .i64 165, .int .i64 n, .int .i64 cl, .int .i64 ky] 3)) := ((Below.refl _ _).alloc (Nat.le_refl _) _).alloc (by simp) _
  go_enter Try.func28, Try.ntmps28
  go_wp2_with (at_builtin; go_must (refine wpList_append_is _ rfl (.tmp 11) (.tmp 13) _ rfl (w.heap.size + 1) 3 infoInt Try.underlying23 _ _ _ _ rfl HO.out _ _ _ xs rfl ((H.out.alloc _).alloc _) (by omega) (by simp) ?_); intro A' c' w1 hown1 hg1; obtain ⟨g, rfl, hg2, hg3⟩ := hown1.pos (by omega); have hc1 := hown1.is.2.1; have HO1 := Lib.hid hown1; have HG1 := Lib.hid hg1; clear hown1 hg1)
  have HI := Lib.hid (frame_body (HL.out) HO1.out)
  have B1 := Lib.hid (HO.out.below_grown HG1.out B0 (by omega) (by simp; omega))
  clear B0
  have hs1 := B1.out.size
  refine (spec_checkOf_any _ HI.out (bodyL_ok HV.out)).mono ?_
  rintro e w' ⟨rfl, rfl⟩
  have HS : Hid (IS (w1.alloc (.cells #[.int .i64 (chk (bodyL cl ky xs))] 3)) (some ⟨w1.heap.size, 0, none⟩) 1 1 [chk (bodyL cl ky xs)]) := Lib.hid (by simpa using (OW.lit w1 3 0 [chk (bodyL cl ky xs)] (by simp) (by simp)).is)
  go_wp2_with (at_builtin; go_must (refine wpList_append_is _ rfl (.tmp 15) (.tmp 19) _ rfl (w.heap.size + 1) 3 infoInt Try.underlying23 _ _ _ _ rfl (HO1.out.alloc _) _ _ _ _ rfl HS.out (by omega) (by simp; omega) ?_); intro A'' c'' w2 hown2 hg4)
  go_ret
  refine ⟨A'', _, c'', rfl, ?_, ?_⟩
  · have e : [165, (n : Int), cl, ky] ++ xs ++ [chk (bodyL cl ky xs)] = frameL cl ky xs := by simp [frameL, bodyL, HL.out]
    rw [e] at hown2
    exact hown2.base_le (by omega)
  · exact (HO1.out.alloc _).below_grown hg4 (B1.out.alloc hs1 _) (by omega) (by simp; omega)
/-- The numbers of a valid item, none for another. -/
def frameOfL (cl ky : Int) (xs : List Int) : List Int := if validI cl ky xs = true then frameL cl ky xs else []
theorem frameOfL_t {cl ky : Int} {xs : List Int} (h : validI cl ky xs = true) : frameOfL cl ky xs = frameL cl ky xs := if_pos h
theorem frameOfL_f {cl ky : Int} {xs : List Int} (h : validI cl ky xs = false) : frameOfL cl ky xs = [] := if_neg (by simp [h])
theorem frameOfL_le (cl ky : Int) (xs : List Int) : (frameOfL cl ky xs).length ≤ 13 := by
  rcases hv : validI cl ky xs with _ | _
  · rw [frameOfL_f hv]; simp
  · have := (validI_parts hv).2.2.2.2.1
    rw [frameOfL_t hv, frameL_len]; omega
theorem gave_none {T : Nat} {w w' : World} {xs : List Int} (hx : xs = []) (hb : Below w.heap.size w w') : GaveInts T w xs (.returned (.slice none 0 0)) w' := by
  subst hx
  exact ⟨none, 0, 0, rfl, ⟨rfl, .inl ⟨rfl, rfl⟩⟩, hb⟩
set_option maxHeartbeats 1000000 in
theorem impl_FrameOf_any {A : Option Addr} {n c : Nat} {xs : List Int} (cl ky : Int) (w : World) (h : IS w A n c xs) :
    Calls Try.prog 9 #[.agg #[.int .i64 cl, .int .i64 ky, .slice A n c]] w (GaveInts 3 w (frameOfL cl ky xs)) := by
  have hl := h.len
  have hcap := h.cap
  have H := Lib.hid h
  clear h
  rcases hv : validI cl ky xs with _ | _
  · clear hl
    go_enter Try.func9, Try.ntmps9
    go_wp2_with (fail)
    refine (impl_ValidItem_any _ _ _ (H.out.alloc _)).mono ?_
    rintro e w1 ⟨rfl, hb1⟩
    rw [hv]
    go_wp2_with (fail)
    go_ret
    exact gave_none (frameOfL_f hv) (below_then (below_new _ _) hb1)
  · obtain ⟨_, _, _, _, hn8, _⟩ := validI_parts hv
    have hn : n ≤ 8 := by omega
    have HL := Lib.hid hl
    clear hl hn8
    go_enter Try.func9, Try.ntmps9
    go_wp2_with (fail)
    refine (impl_ValidItem_any _ _ _ (H.out.alloc _)).mono ?_
    rintro e w1 ⟨rfl, hb1⟩
    rw [hv]
    have HV := Lib.hid hv
    clear hv
    have K1 := Lib.hid ((Blk.new w 26 #[.int .i64 cl, .int .i64 ky, .slice A n c]).on hb1)
    have B1 := Lib.hid (below_then (below_new _ _) hb1)
    clear hb1
    have hs1 := B1.out.size
    have hk1 := K1.out.lt
    obtain ⟨k10, k11, k12⟩ := K1.out.c3
    have HO : Hid (OW (w1.alloc (.cells #[.int .i64 165, .int .i64 n, .int .i64 cl, .int .i64 ky] 3)) 3 w1.heap.size (some ⟨w1.heap.size, 0, none⟩) 4 4 [165, (n : Int), cl, ky]) :=
      Lib.hid (by simpa using OW.lit w1 3 w1.heap.size [165, (n : Int), cl, ky] (by simp) (by simp))
    have HX := Lib.hid ((H.out.below B1.out (Nat.le_refl _)).alloc (.cells #[.int .i64 165, .int .i64 n, .int .i64 cl, .int .i64 ky] 3))
    go_wp2_with (at_builtin; go_must (refine wpList_append_is _ rfl (.tmp 15) (.tmp 17) _ rfl w1.heap.size 3 infoInt Try.underlying23 _ _ _ _ rfl HO.out _ _ _ xs rfl HX.out (by omega) (by simp) ?_); intro A' c' w2 hown1 hg1; obtain ⟨g, rfl, hg2, hg3⟩ := hown1.pos (by omega); have hc1 := hown1.is.2.1; have HO1 := Lib.hid hown1; have HG1 := Lib.hid hg1; clear hown1 hg1)
    clear k10 k11 k12
    have HI := Lib.hid (frame_body (HL.out) HO1.out)
    have B2 := Lib.hid (HO.out.below_grown HG1.out (B1.out.alloc hs1 _) hs1 (by simp; omega))
    have hs2 := HG1.out.size
    simp at hs2
    refine (impl_CheckOf_any _ HI.out).mono ?_
    rintro e w' ⟨rfl, rfl⟩
    rw [chkOf_body HV.out]
    have HS : Hid (IS (w2.alloc (.cells #[.int .i64 (chk (bodyL cl ky xs))] 3)) (some ⟨w2.heap.size, 0, none⟩) 1 1 [chk (bodyL cl ky xs)]) := Lib.hid (by simpa using (OW.lit w2 3 0 [chk (bodyL cl ky xs)] (by simp) (by simp)).is)
    go_wp2_with (at_builtin; go_must (refine wpList_append_is _ rfl (.tmp 19) (.tmp 23) _ rfl w1.heap.size 3 infoInt Try.underlying23 _ _ _ _ rfl (HO1.out.alloc _) _ _ _ _ rfl HS.out (by omega) (by simp; omega) ?_); intro A'' c'' w3 hown2 hg4)
    go_ret
    refine ⟨A'', _, c'', rfl, ?_, ?_⟩
    · have e : [165, (n : Int), cl, ky] ++ xs ++ [chk (bodyL cl ky xs)] = frameOfL cl ky xs := by rw [frameOfL_t HV.out]; simp [frameL, bodyL, HL.out]
      rw [e] at hown2
      exact hown2.base_le hs1
    · exact (HO1.out.alloc _).below_grown hg4 (B2.out.alloc (by omega) _) hs1 (by simp; omega)
end Go.Proofs.Ytehbkfgcbeldiaa
