/-
  Contracts of budgets: credit taken and given on both sides.
-/
import Derived.Test.YtcbphifadokfeaaBudV
import Derived.Test.YtcbphifadokfeaaBudW
import Derived.Deep.RegionHeld3
import Derived.Deep.DrawnRows
namespace Go.Proofs.Ytcbphifadokfeaa
open Go.RowKit
attribute [local go_sem ↓] Go.wp_at_zero Go.wp_at_succ

/-- Credit can be taken, or given. -/
def tcOK (t : Int) (ks us : List Int) (cl s : Int) : Bool := validB t ks us && inR cl 0 2 && inR s 0 200 && decide (s ≤ roomL t ks us cl)
def gcOK (t : Int) (ks us : List Int) (cl s : Int) : Bool := validB t ks us && inR cl 0 2 && inR s 0 200 && decide (s ≤ us.getD cl.toNat 0)
def addL (us : List Int) (cl s : Int) : List Int := us.set cl.toNat (us.getD cl.toNat 0 + s)
def tcT (t : Int) (ks us : List Int) (cl s : Int) : Int := if tcOK t ks us cl s then t else 0
def tcK (t : Int) (ks us : List Int) (cl s : Int) : List Int := if tcOK t ks us cl s then ks else []
def tcU (t : Int) (ks us : List Int) (cl s : Int) : List Int := if tcOK t ks us cl s then addL us cl s else []
def gcT (t : Int) (ks us : List Int) (cl s : Int) : Int := if gcOK t ks us cl s then t else 0
def gcK (t : Int) (ks us : List Int) (cl s : Int) : List Int := if gcOK t ks us cl s then ks else []
def gcU (t : Int) (ks us : List Int) (cl s : Int) : List Int := if gcOK t ks us cl s then addL us cl (-s) else []
theorem tcOK_iff {t : Int} {ks us : List Int} {cl s : Int} : tcOK t ks us cl s = true ↔ validB t ks us = true ∧ inR cl 0 2 = true ∧ (0 ≤ s ∧ s ≤ 200) ∧ s ≤ roomL t ks us cl := by simp [tcOK, inR_iff, and_assoc]
theorem gcOK_iff {t : Int} {ks us : List Int} {cl s : Int} : gcOK t ks us cl s = true ↔ validB t ks us = true ∧ inR cl 0 2 = true ∧ (0 ≤ s ∧ s ≤ 200) ∧ s ≤ us.getD cl.toNat 0 := by simp [gcOK, inR_iff, and_assoc]
theorem validB_len {t : Int} {ks us : List Int} (h : validB t ks us = true) : ks.length = 3 ∧ us.length = 3 := ⟨(cnt_iff.1 (validB_iff.1 h).2.1).1, (cnt_iff.1 (validB_iff.1 h).2.2.1).1⟩
theorem tcK_le (t : Int) (ks us : List Int) (cl s : Int) : (tcK t ks us cl s).length ≤ 3 := by
  unfold tcK; split
  · rename_i h; have := (validB_len (tcOK_iff.1 h).1).1; omega
  · simp
theorem tcU_le (t : Int) (ks us : List Int) (cl s : Int) : (tcU t ks us cl s).length ≤ 3 := by
  unfold tcU; split
  · rename_i h; have := (validB_len (tcOK_iff.1 h).1).2; simp [addL]; omega
  · simp
theorem gcK_le (t : Int) (ks us : List Int) (cl s : Int) : (gcK t ks us cl s).length ≤ 3 := by
  unfold gcK; split
  · rename_i h; have := (validB_len (gcOK_iff.1 h).1).1; omega
  · simp
theorem gcU_le (t : Int) (ks us : List Int) (cl s : Int) : (gcU t ks us cl s).length ≤ 3 := by
  unfold gcU; split
  · rename_i h; have := (validB_len (gcOK_iff.1 h).1).2; simp [addL]; omega
  · simp
/-- A call has handed back a budget, and whether there is one. -/
def GaveBudB (T : Nat) (w : World) (t : Int) (ks us : List Int) (ok : Bool) (e : Ending) (w' : World) : Prop :=
  ∃ A n c A' n' c', e = .returned (.tuple #[.agg #[.int .i64 t, .slice A n c, .slice A' n' c'], .bool ok]) ∧ OW w' T w.heap.size A n c ks ∧ OW w' T w.heap.size A' n' c' us ∧ Disj A A' ∧ Below w.heap.size w w'
theorem gaveBud_f {T : Nat} {w w' : World} {t : Int} {ks us : List Int} {ok : Bool} (h1 : t = 0) (h2 : ks = []) (h3 : us = []) (h4 : ok = false) (hb : Below w.heap.size w w') :
    GaveBudB T w t ks us ok (.returned (.tuple #[.agg #[.int .i64 0, .slice none 0 0, .slice none 0 0], .bool false])) w' := by
  subst h1 h2 h3 h4
  exact ⟨none, 0, 0, none, 0, 0, rfl, ⟨rfl, .inl ⟨rfl, rfl⟩⟩, ⟨rfl, .inl ⟨rfl, rfl⟩⟩, (fun p q hp => by cases hp), hb⟩
theorem OW.put {w : World} {T base g n c : Nat} {xs : List Int} (h : OW w T base (some ⟨g, 0, none⟩) n c xs) {j : Nat} (v : Int) :
    OW (w.setCell ⟨g, j, none⟩ (.int .i64 v)) T base (some ⟨g, 0, none⟩) n c (xs.set j v) := h.storedS j v
set_option maxHeartbeats 2000000 in
theorem impl_addUsed_any {A A' : Option Addr} {n c n' c' : Nat} {ks us : List Int} (t cl s : Int) (w : World) (h : IS w A n c ks) (h' : IS w A' n' c' us) (hk : cnt ks 0 200 = true) (hu : cnt us 0 200 = true) (hc : inR cl 0 2 = true) (hs0 : -200 ≤ s) (hs1 : s ≤ 200) :
    Calls Try.prog 40 #[.agg #[.int .i64 t, .slice A n c, .slice A' n' c'], .int .i64 cl, .int .i64 s] w (GaveBud 3 w t ks (addL us cl s)) := by
  obtain ⟨hc0, hc1⟩ := inR_iff.1 hc
  obtain ⟨j, rfl⟩ := Int.eq_ofNat_of_zero_le hc0
  have hj : j < 3 := by omega
  obtain ⟨u, hu1, hu2, hu3, hu4⟩ := cnt_at hu hj
  obtain rfl : n = 3 := h.len ▸ (cnt_iff.1 hk).1
  obtain rfl : n' = 3 := h'.len ▸ (cnt_iff.1 hu).1
  have H := Lib.hid h
  have H' := Lib.hid h'
  have HU1 := Lib.hid hu1
  have HU2 := Lib.hid hu2
  have hj1 : (j : Int) < 3 := by omega
  clear h h' hk hu hc hu1 hu2
  go_enter Try.func40, Try.ntmps40
  go_wp2_with (fail)
  refine (clone_any _ ((H'.out.alloc _).alloc _) (by omega)).mono ?_
  rintro e w1 ⟨A1, n1, c1, rfl, ho1, hb1⟩
  have hn1 : n1 = 3 := by have h1 := ho1.len; have h2 := H'.out.len; omega
  subst hn1
  obtain ⟨g, rfl, hg1, hg2⟩ := ho1.pos (by omega)
  simp at hg1
  have hz := hb1.size
  simp at hz
  have B1 : Hid (Below w.heap.size w w1) := Lib.hid (Below.trans (((Below.refl _ _).alloc (by simp) _).alloc (by simp; try omega) _) (hb1.mono (by simp; try omega)))
  have P1 : Hid (Blk w1 w.heap.size 33 #[.int .i64 t, .slice A 3 c, .slice A' 3 c']) := Lib.hid (((Blk.new w _ _).alloc _).on hb1)
  have Q1 : Hid (Blk w1 (w.heap.size + 1) 33 #[.int .i64 0, .slice none 0 0, .slice none 0 0]) := Lib.hid ((by simpa using Blk.new (w.alloc (.cells #[.int .i64 t, .slice A 3 c, .slice A' 3 c'] 33)) 33 #[.int .i64 0, .slice none 0 0, .slice none 0 0] : Blk _ (w.heap.size + 1) _ _).on hb1)
  have HO1 : Hid (OW w1 3 (w.heap.size + 1 + 1) (some ⟨g, 0, none⟩) 3 c1 us) := Lib.hid (by simpa using ho1)
  clear ho1 hb1
  obtain ⟨_, _, v, e0, hx, hcv⟩ := HO1.out.is.at_ hj
  simp only [Option.some.injEq, Addr.mk.injEq, and_true] at e0
  obtain ⟨rfl, rfl⟩ := e0
  obtain rfl : u = v := by rw [HU1.out] at hx; injection hx
  rw [Nat.zero_add] at hcv
  have hf : w1.frozen? ⟨g, j, none⟩ = false := World.ownsRow.frozenAt HO1.out j
  clear hx
  go_wp2_with (fail)
  have HO2 := Lib.hid (HO1.out.put (j := j) (u + s))
  have B2 := Lib.hid (B1.out.setCell (p := ⟨g, j, none⟩) (by show w.heap.size ≤ g; omega) (.int .i64 (u + s)))
  have P2 := Lib.hid (P1.out.far (p := ⟨g, j, none⟩) (by show w.heap.size ≠ g; omega) (.int .i64 (u + s)))
  have Q2 := Lib.hid (Q1.out.far (p := ⟨g, j, none⟩) (by show w.heap.size + 1 ≠ g; omega) (.int .i64 (u + s)))
  obtain ⟨W2, eW⟩ : ∃ W, W = w1.setCell ⟨g, j, none⟩ (.int .i64 (u + s)) := ⟨_, rfl⟩
  rw [← eW] at HO2 B2 P2 Q2 ⊢
  have HD := Lib.hid eW
  clear eW hcv hf
  have hsz : w.heap.size + 1 + 1 ≤ W2.heap.size := by rw [HD.out]; simpa [World.setCell] using hz
  obtain ⟨p0, p1, p2⟩ := P2.out.c3
  go_region_held3 (fun w' => w'.cell? ⟨w.heap.size, 0, none⟩ = some (.int .i64 t) ∧ w'.cell? ⟨w.heap.size, 1, none⟩ = some (.slice A 3 c) ∧ w'.cell? ⟨w.heap.size, 2, none⟩ = some (.slice A' 3 c')) (first | exact S1 | go_keep)
    ((go_at_call 53; go_must (refine (clone_any _ (H.out.below B2.out (Nat.le_refl _)).drew (by omega)).mono ?_; rintro e w3 ⟨A3, n3, c3, rfl, ho3, hb3⟩; have HO3 := Lib.hid ho3; have HB3 := Lib.hid hb3; clear ho3 hb3; have P3 := Lib.hid (P2.out.drew.on HB3.out); have Q3 := Lib.hid (Q2.out.drew.on HB3.out); have S1 := And.intro P3.out.c3.1 (And.intro P3.out.c3.2.1 P3.out.c3.2.2); obtain ⟨q0, q1, q2⟩ := Q3.out.c3; have f0 := Q3.out.frozen 0; have f1 := Q3.out.frozen 1; have f2 := Q3.out.frozen 2)))
  go_wp2_with (fail)
  refine bodyPost_ret (v := .agg #[.int .i64 t, .slice A3 n3 c3, .slice (some ⟨g, 0, none⟩) 3 c1]) (by simp [results, Try.results40, go_sem, q0, q1, q2]) rfl ?_
  have hs3 := HB3.out.size
  simp at hs3
  refine ⟨_, _, _, _, _, _, rfl, ?_, ?_, ?_, ?_⟩
  · refine OW.base_le (base := w.heap.size + 1 + 1) ?_ (by omega)
    repeat (refine OW.setCell ?_ (by simp; try omega) _)
    exact HO3.out.base_le (by simpa using hsz)
  · unfold addL
    rw [Int.toNat_natCast, HU2.out]
    refine OW.base_le (base := w.heap.size + 1 + 1) ?_ (by omega)
    repeat (refine OW.setCell ?_ (by simp; try omega) _)
    exact HO2.out.drew.below HB3.out (Nat.le_refl _)
  · exact (Disj.mk HO2.out.lt HO3.out.ge).symm
  · repeat (refine Below.setCell ?_ (by simp; try omega) _)
    exact B2.out.drew.trans (HB3.out.mono (by simp; omega))
theorem room_tc (t : Int) (ks us : List Int) (cl s : Int) : inR s 0 (roomV t ks us cl) = tcOK t ks us cl s := by
  rcases h : tcOK t ks us cl s with _ | _
  · rcases hv : validB t ks us with _ | _
    · rw [roomV_f1 hv]; simp [inR]; omega
    rcases hc : inR cl 0 2 with _ | _
    · rw [roomV_f2 hc]; simp [inR]; omega
    · rw [roomV_t hv hc]
      have hb := roomL_bd hv hc
      rcases hi : inR s 0 (roomL t ks us cl) with _ | _
      · rfl
      · have h2 := inR_iff.1 hi
        rw [tcOK_iff.2 ⟨hv, hc, ⟨h2.1, by omega⟩, h2.2⟩] at h
        cases h
  · obtain ⟨h1, h2, h3, h4⟩ := tcOK_iff.1 h
    rw [roomV_t h1 h2]
    exact inR_t h3.1 h4
theorem used_gc {t : Int} {ks us : List Int} {cl s : Int} (hv : validB t ks us = true) (hc : inR cl 0 2 = true) : inR s 0 (us.getD cl.toNat 0) = gcOK t ks us cl s := by
  obtain ⟨hc0, hc1⟩ := inR_iff.1 hc
  obtain ⟨u, hu1, hu2, hu3, hu4⟩ := cnt_at (validB_iff.1 hv).2.2.1 (j := cl.toNat) (by omega)
  rcases h : gcOK t ks us cl s with _ | _
  · rcases hi : inR s 0 (us.getD cl.toNat 0) with _ | _
    · rfl
    · have h2 := inR_iff.1 hi
      rw [gcOK_iff.2 ⟨hv, hc, ⟨h2.1, by omega⟩, h2.2⟩] at h
      cases h
  · obtain ⟨h1, h2, h3, h4⟩ := gcOK_iff.1 h
    exact inR_t h3.1 h4
set_option maxHeartbeats 2000000 in
theorem impl_TakeCredit_any {A A' : Option Addr} {n c n' c' : Nat} {ks us : List Int} (t cl s : Int) (w : World) (h : IS w A n c ks) (h' : IS w A' n' c' us) :
    Calls Try.prog 20 #[.agg #[.int .i64 t, .slice A n c, .slice A' n' c'], .int .i64 cl, .int .i64 s] w (GaveBudB 3 w (tcT t ks us cl s) (tcK t ks us cl s) (tcU t ks us cl s) (tcOK t ks us cl s)) := by
  have H := Lib.hid h
  have H' := Lib.hid h'
  clear h h'
  have HR := Lib.hid (room_tc t ks us cl s)
  rcases hok : tcOK t ks us cl s with _ | _
  · have HK := Lib.hid hok
    clear hok
    go_enter Try.func20, Try.ntmps20
    go_wp2_with (fail)
    refine (impl_RoomFor_any _ _ _ ((H.out.alloc _).alloc _) ((H'.out.alloc _).alloc _)).mono ?_
    rintro e w1 ⟨rfl, hb⟩
    have B1 := Lib.hid (Below.trans (((Below.refl w.heap.size w).alloc (Nat.le_refl _) _).alloc (by simp) _) (hb.mono (by simp; try omega)))
    have Q1 : Hid (Blk w1 (w.heap.size + 1) 33 #[.int .i64 0, .slice none 0 0, .slice none 0 0]) := Lib.hid ((by simpa using Blk.new (w.alloc (.cells #[.int .i64 t, .slice A n c, .slice A' n' c'] 33)) 33 #[.int .i64 0, .slice none 0 0, .slice none 0 0] : Blk _ (w.heap.size + 1) _ _).on hb)
    clear hb
    obtain ⟨q0, q1, q2⟩ := Q1.out.c3
    have f0 := Q1.out.frozen 0
    have f1 := Q1.out.frozen 1
    have f2 := Q1.out.frozen 2
    go_wp2_with (go_at_call 24; refine (call_b (impl_within_any _ _ _ _) (HR.out.trans HK.out)).mono ?_; rintro e w' ⟨rfl, rfl⟩)
    refine bodyPost_ret (v := .tuple #[.agg #[.int .i64 0, .slice none 0 0, .slice none 0 0], .bool false]) (by simp [results, Try.results20, go_sem, q0, q1, q2]) rfl ?_
    refine gaveBud_f (by simp [tcT, HK.out]) (by simp [tcK, HK.out]) (by simp [tcU, HK.out]) rfl ?_
    repeat' (first | exact B1.out | refine Below.setCell ?_ ?_ _ | (show w.heap.size ≤ _; first | omega | (simp; done) | (simp; omega)))
  · have HK := Lib.hid hok
    obtain ⟨g1, g2, g3, g4⟩ := tcOK_iff.1 hok
    have G1 := Lib.hid (validB_iff.1 g1)
    have G2 := Lib.hid g2
    obtain ⟨g5, g6⟩ := g3
    have g7 : -200 ≤ s := by omega
    clear hok g1 g2 g4
    go_enter Try.func20, Try.ntmps20
    go_wp2_with (fail)
    refine (impl_RoomFor_any _ _ _ ((H.out.alloc _).alloc _) ((H'.out.alloc _).alloc _)).mono ?_
    rintro e w1 ⟨rfl, hb⟩
    have B1 := Lib.hid (Below.trans (((Below.refl w.heap.size w).alloc (Nat.le_refl _) _).alloc (by simp) _) (hb.mono (by simp; try omega)))
    have P1 : Hid (Blk w1 w.heap.size 33 #[.int .i64 t, .slice A n c, .slice A' n' c']) := Lib.hid (((Blk.new w _ _).alloc _).on hb)
    have Q1 : Hid (Blk w1 (w.heap.size + 1) 33 #[.int .i64 0, .slice none 0 0, .slice none 0 0]) := Lib.hid ((by simpa using Blk.new (w.alloc (.cells #[.int .i64 t, .slice A n c, .slice A' n' c'] 33)) 33 #[.int .i64 0, .slice none 0 0, .slice none 0 0] : Blk _ (w.heap.size + 1) _ _).on hb)
    have hz1 := hb.size
    simp at hz1
    clear hb
    obtain ⟨p0, p1, p2⟩ := P1.out.c3
    go_wp2_with (go_at_call 24; refine (call_b (impl_within_any _ _ _ _) (HR.out.trans HK.out)).mono ?_; rintro e w' ⟨rfl, rfl⟩)
    refine (impl_addUsed_any _ _ _ _ (H.out.below B1.out (Nat.le_refl _)) (H'.out.below B1.out (Nat.le_refl _)) G1.out.2.1 G1.out.2.2.1 G2.out g7 g6).mono ?_
    rintro e w2 ⟨A1, n1, c1, A2, n2, c2, rfl, ho1, ho2, hd, hb⟩
    have Q2 := Lib.hid (Q1.out.on hb)
    have B2 := Lib.hid (B1.out.trans (hb.mono B1.out.size))
    have O1 := Lib.hid ho1
    have O2 := Lib.hid ho2
    have D := Lib.hid hd
    clear ho1 ho2 hd hb p0 p1 p2
    obtain ⟨q0, q1, q2⟩ := Q2.out.c3
    have f0 := Q2.out.frozen 0
    have f1 := Q2.out.frozen 1
    have f2 := Q2.out.frozen 2
    go_wp2_with (fail)
    refine bodyPost_ret (v := .tuple #[.agg #[.int .i64 t, .slice A1 n1 c1, .slice A2 n2 c2], .bool true]) (by simp [results, Try.results20, go_sem, q0, q1, q2]) rfl ?_
    refine ⟨A1, n1, c1, A2, n2, c2, by simp [tcT, HK.out], ?_, ?_, D.out, ?_⟩
    · simp only [tcK, HK.out, if_true]
      refine OW.base_le (base := w1.heap.size) ?_ (by omega)
      repeat (refine OW.setCell ?_ (by simp; try omega) _)
      exact O1.out
    · simp only [tcU, HK.out, if_true]
      refine OW.base_le (base := w1.heap.size) ?_ (by omega)
      repeat (refine OW.setCell ?_ (by simp; try omega) _)
      exact O2.out
    · repeat' (first | exact B2.out | refine Below.setCell ?_ ?_ _ | (show w.heap.size ≤ _; first | omega | (simp; done) | (simp; omega)))
end Go.Proofs.Ytcbphifadokfeaa
