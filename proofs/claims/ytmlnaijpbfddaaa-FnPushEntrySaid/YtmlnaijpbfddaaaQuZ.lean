/-
  The laws' comparison of like entries and like queues.
-/
import Derived.Test.YtmlnaijpbfddaaaQuD
namespace Go.Proofs.Ytmlnaijpbfddaaa
open Go.RowKit
set_option maxHeartbeats 800000 in
theorem laws_equalEntries_same {A A' : Option Addr} {n c c' : Nat} {xs : List Tr} (w : World) (h : TS w A n c xs) (h' : TS w A' n c' xs) :
    Calls Try.prog 10 #[.slice A n c, .slice A' n c'] w fun e w' => e = .returned (.bool true) ∧ ∃ m, w' = w.drewN m := by
  have hcap := h.cap
  have H := Lib.hid h
  have H' := Lib.hid h'
  clear h h'
  go_enter Try.func10, Try.ntmps10
  go_wp2_with (fail)
  go_loopw [5] (fun i wr => ∃ k : Nat, ∃ m : Nat, k ≤ n ∧ i = .int .i64 k ∧ wr = w.drewN m) (fun i _ => n - (intOf i).toNat)
  case atStart => exact ⟨0, 0, Nat.zero_le _, rfl, rfl⟩
  case round =>
    obtain ⟨k, m, hk, rfl, rfl⟩ := hrel
    by_cases hlt : k < n
    · obtain ⟨b, off, x, rfl, hx, ca, cb, cc⟩ := H.out.at_ hlt
      obtain ⟨b', off', x', rfl, hx', ca', cb', cc'⟩ := H'.out.at_ hlt
      obtain rfl : x = x' := by rw [hx] at hx'; injection hx'
      clear hx hx'
      have hi1 : (k : Int) < (n : Int) := by omega
      have e1 : (x.a == x.a) = true := by simp
      have e2 : (x.b == x.b) = true := by simp
      have e3 : (x.c == x.c) = true := by simp
      go_wp2_with (fail)
      go_quiet (fail)
      go_wp2_with (fail)
      go_roundw
      case rel => exact ⟨k + 1, _, by omega, by go_num, rfl⟩
      case measure => simp [intOf]; omega
    · go_wp2_with (fail)
      go_ret
      exact ⟨rfl, _, rfl⟩
set_option maxHeartbeats 800000 in
theorem laws_equalQueue_same {A A2 A3 B B2 B3 : Option Addr} {n c n2 c2 n3 c3 d d2 d3 : Nat} {xs : List Tr} {sh db : List Int} (t : Int) (w : World) (h1 : TS w A n c xs) (h2 : IS w A2 n2 c2 sh) (h3 : IS w A3 n3 c3 db) (k1 : TS w B n d xs) (k2 : IS w B2 n2 d2 sh) (k3 : IS w B3 n3 d3 db) :
    Calls Try.prog 8 #[.agg #[.slice A n c, .slice A2 n2 c2, .slice A3 n3 c3, .int .i64 t], .agg #[.slice B n d, .slice B2 n2 d2, .slice B3 n3 d3, .int .i64 t]] w fun e w' => e = .returned (.bool true) ∧ Below w.heap.size w w' := by
  have e1 : (t == t) = true := by simp
  have hb2 : Below w.heap.size w ((w.alloc (.cells #[.slice A n c, .slice A2 n2 c2, .slice A3 n3 c3, .int .i64 t] 26)).alloc (.cells #[.slice B n d, .slice B2 n2 d2, .slice B3 n3 d3, .int .i64 t] 26)) := ((Below.refl _ _).alloc (Nat.le_refl _) _).alloc (by simp) _
  have HB := Lib.hid hb2
  have H1 := Lib.hid (h1.below hb2 (Nat.le_refl _))
  have H2 := Lib.hid (h2.below hb2 (Nat.le_refl _))
  have H3 := Lib.hid (h3.below hb2 (Nat.le_refl _))
  have K1 := Lib.hid (k1.below hb2 (Nat.le_refl _))
  have K2 := Lib.hid (k2.below hb2 (Nat.le_refl _))
  have K3 := Lib.hid (k3.below hb2 (Nat.le_refl _))
  have P := Lib.hid ((Blk.new w 26 #[.slice A n c, .slice A2 n2 c2, .slice A3 n3 c3, .int .i64 t]).alloc (.cells #[.slice B n d, .slice B2 n2 d2, .slice B3 n3 d3, .int .i64 t] 26))
  have R : Hid (Blk ((w.alloc (.cells #[.slice A n c, .slice A2 n2 c2, .slice A3 n3 c3, .int .i64 t] 26)).alloc (.cells #[.slice B n d, .slice B2 n2 d2, .slice B3 n3 d3, .int .i64 t] 26)) (w.heap.size + 1) 26 #[.slice B n d, .slice B2 n2 d2, .slice B3 n3 d3, .int .i64 t]) := Lib.hid (by simpa using Blk.new (w.alloc (.cells #[.slice A n c, .slice A2 n2 c2, .slice A3 n3 c3, .int .i64 t] 26)) 26 #[.slice B n d, .slice B2 n2 d2, .slice B3 n3 d3, .int .i64 t])
  clear hb2 h1 h2 h3 k1 k2 k3
  go_enter Try.func8, Try.ntmps8
  go_wp2_with (fail)
  refine (laws_equalEntries_same _ H1.out K1.out).mono ?_
  rintro e v1 ⟨rfl, m1, h1⟩
  replace HB := Lib.hid (show Below w.heap.size w v1 by rw [h1]; exact below_drewN HB.out _)
  replace H2 := Lib.hid (show IS v1 A2 n2 c2 sh by rw [h1]; exact H2.out.drewN _)
  replace K2 := Lib.hid (show IS v1 B2 n2 d2 sh by rw [h1]; exact K2.out.drewN _)
  replace H3 := Lib.hid (show IS v1 A3 n3 c3 db by rw [h1]; exact H3.out.drewN _)
  replace K3 := Lib.hid (show IS v1 B3 n3 d3 db by rw [h1]; exact K3.out.drewN _)
  replace P := Lib.hid (show Blk v1 w.heap.size 26 #[.slice A n c, .slice A2 n2 c2, .slice A3 n3 c3, .int .i64 t] by rw [h1]; exact P.out)
  replace R := Lib.hid (show Blk v1 (w.heap.size + 1) 26 #[.slice B n d, .slice B2 n2 d2, .slice B3 n3 d3, .int .i64 t] by rw [h1]; exact R.out)
  clear h1
  obtain ⟨p0, p1, p2, p3⟩ := P.out.c4
  obtain ⟨r0, r1, r2, r3⟩ := R.out.c4
  go_wp2_with (fail)
  clear p0 p1 p2 p3 r0 r1 r2 r3
  refine (call_b (laws_equalInts_any _ H2.out K2.out) (decide_eq_true rfl)).mono ?_
  rintro e v2 ⟨rfl, m2, h2⟩
  replace HB := Lib.hid (show Below w.heap.size w v2 by rw [h2]; exact below_drewN HB.out _)
  replace H2 := Lib.hid (show IS v2 A2 n2 c2 sh by rw [h2]; exact H2.out.drewN _)
  replace K2 := Lib.hid (show IS v2 B2 n2 d2 sh by rw [h2]; exact K2.out.drewN _)
  replace H3 := Lib.hid (show IS v2 A3 n3 c3 db by rw [h2]; exact H3.out.drewN _)
  replace K3 := Lib.hid (show IS v2 B3 n3 d3 db by rw [h2]; exact K3.out.drewN _)
  replace P := Lib.hid (show Blk v2 w.heap.size 26 #[.slice A n c, .slice A2 n2 c2, .slice A3 n3 c3, .int .i64 t] by rw [h2]; exact P.out)
  replace R := Lib.hid (show Blk v2 (w.heap.size + 1) 26 #[.slice B n d, .slice B2 n2 d2, .slice B3 n3 d3, .int .i64 t] by rw [h2]; exact R.out)
  clear h2
  obtain ⟨p0, p1, p2, p3⟩ := P.out.c4
  obtain ⟨r0, r1, r2, r3⟩ := R.out.c4
  go_wp2_with (fail)
  clear p0 p1 p2 p3 r0 r1 r2 r3
  refine (call_b (laws_equalInts_any _ H3.out K3.out) (decide_eq_true rfl)).mono ?_
  rintro e v3 ⟨rfl, m3, h3⟩
  replace HB := Lib.hid (show Below w.heap.size w v3 by rw [h3]; exact below_drewN HB.out _)
  replace H2 := Lib.hid (show IS v3 A2 n2 c2 sh by rw [h3]; exact H2.out.drewN _)
  replace K2 := Lib.hid (show IS v3 B2 n2 d2 sh by rw [h3]; exact K2.out.drewN _)
  replace H3 := Lib.hid (show IS v3 A3 n3 c3 db by rw [h3]; exact H3.out.drewN _)
  replace K3 := Lib.hid (show IS v3 B3 n3 d3 db by rw [h3]; exact K3.out.drewN _)
  replace P := Lib.hid (show Blk v3 w.heap.size 26 #[.slice A n c, .slice A2 n2 c2, .slice A3 n3 c3, .int .i64 t] by rw [h3]; exact P.out)
  replace R := Lib.hid (show Blk v3 (w.heap.size + 1) 26 #[.slice B n d, .slice B2 n2 d2, .slice B3 n3 d3, .int .i64 t] by rw [h3]; exact R.out)
  clear h3
  obtain ⟨p0, p1, p2, p3⟩ := P.out.c4
  obtain ⟨r0, r1, r2, r3⟩ := R.out.c4
  go_wp2_with (fail)
  go_ret
  exact ⟨rfl, HB.out⟩
end Go.Proofs.Ytmlnaijpbfddaaa
