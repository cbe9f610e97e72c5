/-
  The walk of FnValidEntries. (Its words were written by a program of my own.)
-/
import Derived.Test.YtdmkimgjochibaaGenR
import Derived.Test.YtdmkimgjochibaaQuR
import Derived.Deep.RegionHeld3
import Derived.Deep.DeepMust
import Derived.Deep.DeepCutAuto
namespace Go.Proofs.Ytdmkimgjochibaa
open Go.RowKit
-- CALL: W s0
set_option maxHeartbeats 8000000 in
theorem walk_FnValidEntries {A : Option Addr} {n c : Nat} {zs : List Int} (w : World) (h : BS w A n c zs) :
    Calls Try.prog 8 #[.slice A n c] w fun e w' => e = .returned (.bool true) ∧ Below w.heap.size w w' := by
  have H := Lib.hid h
  clear h
  rcases Nat.lt_or_ge 1048576 n with h1 | h1
  · have h1' : (1048576 : Int) < (n : Int) := by omega
    go_enter Try.func8, Try.ntmps8
    go_wp2_with (fail)
    go_ret
    exact ⟨rfl, Below.refl _ _⟩
  have h1' : ¬ (1048576 : Int) < (n : Int) := by omega
  go_enter Try.func8, Try.ntmps8
  go_wp2_with (fail)
  refine (spec_DrawValidEntries_any w H.out h1).mono ?_
  rintro e w1 ⟨xs, A1, n1, c1, rfl, hn1, i1, hbl⟩
  have T1 := Lib.hid i1
  have B1 := Lib.hid hbl
  have HXL := Lib.hid i1.len
  clear i1 hbl
  obtain ⟨v, hv⟩ : ∃ v, validE xs = v := ⟨_, rfl⟩
  have HV := Lib.hid hv
  clear hv
  have hvv : (v != v) = false := by cases v <;> rfl
  have hvw : (v == v) = true := by cases v <;> rfl
  go_wp2_with (fail)
  refine (call_b (impl_ValidEntries_any w1 T1.out) HV.out).mono ?_
  rintro e w2 ⟨rfl, hb⟩
  have B2 := Lib.hid (B1.out.trans (hb.mono B1.out.size))
  have T2 := Lib.hid (T1.out.below hb (Nat.le_refl _))
  clear hb
  go_wp2_with (fail)
  refine (call_b (spec_ValidEntries_any w2 T2.out) HV.out).mono ?_
  rintro e w3 ⟨rfl, hb⟩
  have B3 := Lib.hid (B2.out.trans (hb.mono B2.out.size))
  have T3 := Lib.hid (T2.out.below hb (Nat.le_refl _))
  have hz3 := B3.out.size
  clear hb
  have O3 : Hid (OT (w3.alloc (.cells #[] 32)) 32 w3.heap.size (some ⟨w3.heap.size, 0, none⟩) 0 0 []) := Lib.hid (by simpa [cellsT] using OT.lit w3 32 w3.heap.size [] (Nat.le_refl _) (by simp))
  have G3 := Lib.hid (below_new w3 (.cells #[] 32))
  have T4 := Lib.hid (T3.out.alloc (.cells #[] 32))
  go_wp2_with (fail)
  go_loopw [5, 6] (fun l i wr => ∃ (k m : Nat) (ys : List Tr) (A c : _) , m + k = n1 ∧ i = .int .i64 ((k : Int) - 1) ∧ l = .slice A m c ∧ Hid (OT wr 32 w3.heap.size A m c ys) ∧ Hid (ys = (xs.drop k).reverse) ∧ Hid (Below w3.heap.size w3 wr)) (fun _ i _ => (intOf i + 1).toNat)
  case atStart => exact ⟨n1, 0, [], _, _, by omega, by go_num, rfl, O3, Lib.hid (by rw [List.drop_of_length_le (by have := HXL.out; omega)]; rfl), G3⟩
  case round =>
    obtain ⟨k, m, ys, A, c, hmk, rfl, rfl, ho, hy, hg⟩ := hrel
    have T5 := Lib.hid (T3.out.below hg.out (Nat.le_refl _))
    have hsz := hg.out.size
    rcases k with _ | p
    · have hd : ¬ (0 : Int) ≤ ((0 : Nat) : Int) - 1 := by omega
      have hys : ys = xs.reverse := by rw [hy.out]; rfl
      have HW := Lib.hid (show validE ys = v by rw [hys, validE_rev]; exact HV.out)
      have HB := Lib.hid (B3.out.trans (hg.out.mono hz3))
      clear hys
      go_wp2_with (fail)
      refine (call_b (impl_ValidEntries_any _ ho.out.ts) HW.out).mono ?_
      rintro e w6 ⟨rfl, hb⟩
      have B6 := Lib.hid (HB.out.trans (hb.mono HB.out.size))
      clear hb
      go_wp2_with (fail)
      go_ret
      exact ⟨rfl, B6.out⟩
    · have hp : ((p + 1 : Nat) : Int) - 1 = (p : Int) := by omega
      have hpn : p < n1 := by omega
      have hpn' : (p : Int) < (n1 : Int) := by omega
      have hpz : (0 : Int) ≤ (p : Int) := by omega
      rw [hp]
      obtain ⟨b, off, x, rfl, hx, ca, cb, cc⟩ := T5.out.at_ hpn
      have HX := Lib.hid (drop_rev hx)
      have O7 := Lib.hid (ho.out.alloc (.cells #[.int .i64 x.a, .int .i64 x.b, .int .i64 x.c] 32))
      have SV := Lib.hid (ts_one wr 32 x.a x.b x.c)
      have W7 := Lib.hid (hg.out.trans ((below_new wr (.cells #[.int .i64 x.a, .int .i64 x.b, .int .i64 x.c] 32)).mono hsz))
      have hs7 : w3.heap.size ≤ (wr.alloc (.cells #[.int .i64 x.a, .int .i64 x.b, .int .i64 x.c] 32)).heap.size := W7.out.size
      clear hx
      go_wp2_with (at_builtin; go_must (refine wpList_append_ts _ rfl (.tmp 26) (.tmp 31) _ rfl w3.heap.size 32 infoEnt2 Try.underlying23 _ _ _ ys rfl O7.out _ _ _ [⟨x.a, x.b, x.c⟩] rfl SV.out (by omega) (by simp; omega) ?_); intro A8 c8 w8 hown8 hg8; have O8 := Lib.hid hown8; have W8 := Lib.hid (below_row W7.out hg8 hs7 O7.out.ge); clear hown8 hg8)
      go_roundw
      case rel => exact ⟨p, m + 1, _, A8, c8, by omega, by go_num, rfl, O8, Lib.hid (by rw [hy.out, HX.out]), W8⟩
      case measure => simp [intOf]
end Go.Proofs.Ytdmkimgjochibaa
