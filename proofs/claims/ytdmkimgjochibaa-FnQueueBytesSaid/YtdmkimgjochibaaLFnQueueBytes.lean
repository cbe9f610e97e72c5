/-
  The walk of FnQueueBytes. (Its words were written by a program of my own.)
-/
import Derived.Test.YtdmkimgjochibaaDrawQ
import Derived.Test.YtdmkimgjochibaaQuT
import Derived.Deep.RegionHeld3
import Derived.Deep.DeepMust
import Derived.Deep.DeepCutAuto
namespace Go.Proofs.Ytdmkimgjochibaa
open Go.RowKit
-- CALL: W s0
set_option maxHeartbeats 1000000 in
theorem walk_FnQueueBytes {A : Option Addr} {n c : Nat} {zs : List Int} (w : World) (h : BS w A n c zs) :
    Calls Try.prog 6 #[.slice A n c] w fun e w' => e = .returned (.bool true) ∧ Below w.heap.size w w' := by
  have H := Lib.hid h
  clear h
  rcases Nat.lt_or_ge 1048576 n with h1 | h1
  · have h1' : (1048576 : Int) < (n : Int) := by omega
    go_enter Try.func6, Try.ntmps6
    go_wp2_with (fail)
    go_ret
    exact ⟨rfl, Below.refl _ _⟩
  have h1' : ¬ (1048576 : Int) < (n : Int) := by omega
  go_enter Try.func6, Try.ntmps6
  go_wp2_with (fail)
  refine (spec_DrawQueueBytes_any w H.out h1).mono ?_
  rintro e w1 ⟨xs, sh, db, t, A1, n1, c1, A2, n2, c2, A3, n3, c3, rfl, hn1, hn2, hn3, ⟨ht0, ht1⟩, i1, i2, i3, hbl⟩
  have T1 := Lib.hid (i1.alloc (.cells #[.slice A1 n1 c1, .slice A2 n2 c2, .slice A3 n3 c3, .int .i64 t] 26))
  have S2 := Lib.hid (i2.alloc (.cells #[.slice A1 n1 c1, .slice A2 n2 c2, .slice A3 n3 c3, .int .i64 t] 26))
  have S3 := Lib.hid (i3.alloc (.cells #[.slice A1 n1 c1, .slice A2 n2 c2, .slice A3 n3 c3, .int .i64 t] 26))
  have X := Lib.hid (Blk.new w1 26 #[.slice A1 n1 c1, .slice A2 n2 c2, .slice A3 n3 c3, .int .i64 t])
  have hz1 := hbl.size
  have HXL := Lib.hid i1.len
  have B1 := Lib.hid (hbl.trans ((below_new w1 (.cells #[.slice A1 n1 c1, .slice A2 n2 c2, .slice A3 n3 c3, .int .i64 t] 26)).mono hz1))
  clear i1 i2 i3 hbl
  obtain ⟨os, hos⟩ : ∃ os, quB xs sh db t = os := ⟨_, rfl⟩
  have HOS := Lib.hid hos
  clear hos
  go_wp2_with (fail)
  refine (impl_QueueBytes_any t _ T1.out S2.out S3.out).mono ?_
  rintro e w2 ⟨A4, n4, c4, rfl, ho, hb⟩
  rw [HOS.out] at ho
  have HL := Lib.hid ho.len
  have I1 := Lib.hid ho.is
  replace T1 := Lib.hid (T1.out.below hb (Nat.le_refl _))
  replace S2 := Lib.hid (S2.out.below hb (Nat.le_refl _))
  replace S3 := Lib.hid (S3.out.below hb (Nat.le_refl _))
  replace X := Lib.hid (X.out.on hb)
  replace B1 := Lib.hid (B1.out.trans (hb.mono B1.out.size))
  clear ho hb
  rcases hv : validQ xs sh db t with _ | _
  · rw [← HOS.out, quB_no hv] at HL
    obtain rfl : n4 = 0 := HL.out.symm
    obtain ⟨xa, xb, xc, xd⟩ := X.out.c4
    go_wp2_with (fail)
    refine (spec_QueueBytes_any t _ T1.out S2.out S3.out).mono ?_
    clear xa xb xc xd
    rintro e w3 ⟨A3_, n3_, c3_, rfl, ho, hb⟩
    rw [HOS.out] at ho
    have K3 := Lib.hid ho.is
    replace T1 := Lib.hid (T1.out.below hb (Nat.le_refl _))
    replace S2 := Lib.hid (S2.out.below hb (Nat.le_refl _))
    replace S3 := Lib.hid (S3.out.below hb (Nat.le_refl _))
    replace X := Lib.hid (X.out.on hb)
    replace B1 := Lib.hid (B1.out.trans (hb.mono B1.out.size))
    replace I1 := Lib.hid (I1.out.below hb (Nat.le_refl _))
    clear ho hb
    go_wp2_with (fail)
    refine (call_b (laws_equalInts_any w3 I1.out K3.out) (decide_eq_true rfl)).mono ?_
    rintro e w3' ⟨rfl, mm, h4⟩
    replace B1 := Lib.hid (show Below w.heap.size w w3' by rw [h4]; exact below_drewN B1.out mm)
    replace I1 := Lib.hid (show IS w3' A4 0 c4 os by rw [h4]; exact I1.out.drewN mm)
    replace T1 := Lib.hid (show TS w3' A1 n1 c1 xs by rw [h4]; exact T1.out.drewN mm)
    replace S2 := Lib.hid (show IS w3' A2 n2 c2 sh by rw [h4]; exact S2.out.drewN mm)
    replace S3 := Lib.hid (show IS w3' A3 n3 c3 db by rw [h4]; exact S3.out.drewN mm)
    replace X := Lib.hid (show Blk w3' w1.heap.size 26 #[.slice A1 n1 c1, .slice A2 n2 c2, .slice A3 n3 c3, .int .i64 t] by rw [h4]; exact X.out)
    clear h4 K3
    obtain ⟨xa, xb, xc, xd⟩ := X.out.c4
    go_wp2_with (fail)
    refine (spec_QueueBytes_any t _ T1.out S2.out S3.out).mono ?_
    clear xa xb xc xd
    rintro e w4 ⟨A4_, n4_, c4_, rfl, ho, hb⟩
    rw [HOS.out] at ho
    have K4 := Lib.hid ho.is
    replace T1 := Lib.hid (T1.out.below hb (Nat.le_refl _))
    replace S2 := Lib.hid (S2.out.below hb (Nat.le_refl _))
    replace S3 := Lib.hid (S3.out.below hb (Nat.le_refl _))
    replace X := Lib.hid (X.out.on hb)
    replace B1 := Lib.hid (B1.out.trans (hb.mono B1.out.size))
    replace I1 := Lib.hid (I1.out.below hb (Nat.le_refl _))
    clear ho hb
    go_wp2_with (fail)
    refine (call_b (laws_equalInts_any w4 I1.out K4.out) (decide_eq_true rfl)).mono ?_
    rintro e w4' ⟨rfl, mm, h4⟩
    replace B1 := Lib.hid (show Below w.heap.size w w4' by rw [h4]; exact below_drewN B1.out mm)
    replace I1 := Lib.hid (show IS w4' A4 0 c4 os by rw [h4]; exact I1.out.drewN mm)
    replace T1 := Lib.hid (show TS w4' A1 n1 c1 xs by rw [h4]; exact T1.out.drewN mm)
    replace S2 := Lib.hid (show IS w4' A2 n2 c2 sh by rw [h4]; exact S2.out.drewN mm)
    replace S3 := Lib.hid (show IS w4' A3 n3 c3 db by rw [h4]; exact S3.out.drewN mm)
    replace X := Lib.hid (show Blk w4' w1.heap.size 26 #[.slice A1 n1 c1, .slice A2 n2 c2, .slice A3 n3 c3, .int .i64 t] by rw [h4]; exact X.out)
    clear h4 K4
    go_wp2_with (fail)
    go_ret
    exact ⟨rfl, B1.out⟩
  have hvE := validE_iff.1 (validQ_iff.1 hv).1
  have hO := HOS.out
  rw [quB_yes hv] at hO
  have hs : os.sum = szE xs := by rw [← hO]; exact bytesE_sum fun x hx => (hvE.at_ hx).2.1
  have HA := Lib.hid (show allR os 0 1000 = true by rw [← hO]; exact bytesE_allR hvE)
  have HC := Lib.hid (fun x hx => (hvE.at_ (x := x) hx).2.2)
  have h4 : n4 = 3 := by have := HL.out; rw [← hO] at this; exact this.symm
  subst h4
  obtain ⟨s, hs2⟩ : ∃ s, szE xs = s := ⟨_, rfl⟩
  rw [hs2] at hs
  have HS1 := Lib.hid hs
  have HS2 := Lib.hid hs2
  clear hvE hO hs hs2 hv
  obtain ⟨xa, xb, xc, xd⟩ := X.out.c4
  go_wp2_with (fail)
  refine (spec_QueueBytes_any t _ T1.out S2.out S3.out).mono ?_
  clear xa xb xc xd
  rintro e w3 ⟨A3_, n3_, c3_, rfl, ho, hb⟩
  rw [HOS.out] at ho
  have K3 := Lib.hid ho.is
  replace T1 := Lib.hid (T1.out.below hb (Nat.le_refl _))
  replace S2 := Lib.hid (S2.out.below hb (Nat.le_refl _))
  replace S3 := Lib.hid (S3.out.below hb (Nat.le_refl _))
  replace X := Lib.hid (X.out.on hb)
  replace B1 := Lib.hid (B1.out.trans (hb.mono B1.out.size))
  replace I1 := Lib.hid (I1.out.below hb (Nat.le_refl _))
  clear ho hb
  go_wp2_with (fail)
  refine (call_b (laws_equalInts_any w3 I1.out K3.out) (decide_eq_true rfl)).mono ?_
  rintro e w3' ⟨rfl, mm, h4⟩
  replace B1 := Lib.hid (show Below w.heap.size w w3' by rw [h4]; exact below_drewN B1.out mm)
  replace I1 := Lib.hid (show IS w3' A4 3 c4 os by rw [h4]; exact I1.out.drewN mm)
  replace T1 := Lib.hid (show TS w3' A1 n1 c1 xs by rw [h4]; exact T1.out.drewN mm)
  replace S2 := Lib.hid (show IS w3' A2 n2 c2 sh by rw [h4]; exact S2.out.drewN mm)
  replace S3 := Lib.hid (show IS w3' A3 n3 c3 db by rw [h4]; exact S3.out.drewN mm)
  replace X := Lib.hid (show Blk w3' w1.heap.size 26 #[.slice A1 n1 c1, .slice A2 n2 c2, .slice A3 n3 c3, .int .i64 t] by rw [h4]; exact X.out)
  clear h4 K3
  obtain ⟨xa, xb, xc, xd⟩ := X.out.c4
  have C1 := Lib.hid (call_int (laws_sum_any w3'.drew I1.out.drew HA.out (by omega)) HS1.out)
  have C2 := Lib.hid (call_int (laws_sizeOf_any w3'.drew T1.out.drew HC.out (by omega)) HS2.out)
  go_wp2_with (fail)
  go_region_held3 (fun w' => w'.cell? ⟨w1.heap.size, 0, none⟩ = some (.slice A1 n1 c1)) (first | exact xa | go_keep) (first
    | (go_at_call 25; refine C1.out.mono ?_; rintro e w4 ⟨rfl, rfl⟩)
    | (go_at_call 26; refine C2.out.mono ?_; rintro e w5 ⟨rfl, rfl⟩))
  all_goals (go_wp2_with (fail); go_ret; exact ⟨ret_bool (by first | rfl | (simp; done)), B1.out.drew⟩)
end Go.Proofs.Ytdmkimgjochibaa
