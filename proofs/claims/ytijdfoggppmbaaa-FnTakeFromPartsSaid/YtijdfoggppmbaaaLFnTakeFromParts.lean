/-
  The walk of FnTakeFromParts. (Its words were written by a program of my own.)
-/
import Derived.Test.YtijdfoggppmbaaaDrawBkT
import Derived.Test.YtijdfoggppmbaaaBkP
import Derived.Test.YtijdfoggppmbaaaBkN
import Derived.Deep.RegionHeld3
import Derived.Deep.DeepMust
import Derived.Deep.DeepCutAuto
namespace Go.Proofs.Ytijdfoggppmbaaa
open Go.RowKit
-- CALL: W s0
set_option maxHeartbeats 1600000 in
theorem walk_FnTakeFromParts {A : Option Addr} {n c : Nat} {zs : List Int} (w : World) (h : BS w A n c zs) :
    Calls Try.prog 7 #[.slice A n c] w fun e w' => e = .returned (.bool true) ∧ Below w.heap.size w w' := by
  have H := Lib.hid h
  clear h
  rcases Nat.lt_or_ge 1048576 n with h1 | h1
  · have h1' : (1048576 : Int) < (n : Int) := by omega
    go_enter Try.func7, Try.ntmps7
    go_wp2_with (fail)
    go_ret
    exact ⟨rfl, Below.refl _ _⟩
  have h1' : ¬ (1048576 : Int) < (n : Int) := by omega
  go_enter Try.func7, Try.ntmps7
  go_wp2_with (fail)
  refine (spec_DrawTakeFrom_any w H.out h1).mono ?_
  rintro e w1 ⟨s, p, l, t, x, u, rfl, ⟨hs0, hs1⟩, ⟨hp0, hp1⟩, ⟨hl0, hl1⟩, ⟨ht0, ht1⟩, ⟨hx0, hx1⟩, ⟨hu0, hu1⟩, hb⟩
  have B1 := Lib.hid hb
  have hz1 := B1.out.size
  clear hb 
  replace B1 := Lib.hid (B1.out.alloc B1.out.size (.cells #[.int .i64 s, .int .i64 p, .int .i64 l, .int .i64 t] 24))
  have Q := Lib.hid (Blk.new w1 24 #[.int .i64 s, .int .i64 p, .int .i64 l, .int .i64 t])
  rcases ho : tkOK s p l t x u with _ | _
  · skip
    have HO := Lib.hid ho
    clear ho
    obtain ⟨q0, q1, q2, q3⟩ := Q.out.c4
    go_wp2_with (fail)
    refine (tk_no (impl_TakeFrom_any s p l t x u _) HO.out).mono ?_
    clear q0 q1 q2 q3
    rintro e w2 ⟨rfl, hb⟩
    replace Q := Lib.hid (Q.out.on hb)
    replace B1 := Lib.hid (B1.out.trans (hb.mono B1.out.size))
    clear hb
    replace Q := Lib.hid (Q.out.alloc (.cells #[.int .i64 0, .int .i64 0, .int .i64 0, .int .i64 0] 24))
    replace B1 := Lib.hid (B1.out.alloc B1.out.size (.cells #[.int .i64 0, .int .i64 0, .int .i64 0, .int .i64 0] 24))
    have F := Lib.hid (Blk.new w2 24 #[.int .i64 0, .int .i64 0, .int .i64 0, .int .i64 0])
    obtain ⟨q0, q1, q2, q3⟩ := Q.out.c4
    go_wp2_with (fail)
    refine (tk_no (spec_TakeFrom_any s p l t x u _) HO.out).mono ?_
    clear q0 q1 q2 q3
    rintro e w3 ⟨rfl, hb⟩
    replace Q := Lib.hid (Q.out.on hb)
    replace F := Lib.hid (F.out.on hb)
    replace B1 := Lib.hid (B1.out.trans (hb.mono B1.out.size))
    clear hb
    replace Q := Lib.hid (Q.out.alloc (.cells #[.int .i64 0, .int .i64 0, .int .i64 0, .int .i64 0] 24))
    replace F := Lib.hid (F.out.alloc (.cells #[.int .i64 0, .int .i64 0, .int .i64 0, .int .i64 0] 24))
    replace B1 := Lib.hid (B1.out.alloc B1.out.size (.cells #[.int .i64 0, .int .i64 0, .int .i64 0, .int .i64 0] 24))
    have G := Lib.hid (Blk.new w3 24 #[.int .i64 0, .int .i64 0, .int .i64 0, .int .i64 0])
    obtain ⟨f0, f1, f2, f3⟩ := F.out.c4
    go_wp2_with (fail)
    go_ret
    exact ⟨ret_bool (by first | rfl | (simp; done) | (simp; omega)), B1.out⟩
  have HO := Lib.hid ho
  have HI := Lib.hid (tkOK_in ho)
  obtain ⟨v, hv⟩ : ∃ v, lvV s p l t u = v := ⟨_, rfl⟩
  have hvb := lvV_bd s p l t u
  obtain ⟨y, hy⟩ : ∃ y, lvV s p l t u - x = y := ⟨_, rfl⟩
  have hyv : v - x = y := by rw [← hv, hy]
  rw [hv] at hvb
  have hw1 : IntKind.i64.wrap (v - x) = y := by rw [IntKind.wrap_i64]; omega
  have HB2 : Hid (bkV s p y u = true) := Lib.hid (by rw [← hy]; exact tk_next ho)
  have HL2 : Hid (lvV s p y u u = y) := Lib.hid (lv_last HB2.out)
  have HV := Lib.hid hv
  have HY := Lib.hid hy
  clear ho hv hy hyv
  obtain ⟨q0, q1, q2, q3⟩ := Q.out.c4
  go_wp2_with (fail)
  refine (tk_yes (impl_TakeFrom_any s p l t x u _) HO.out HY.out).mono ?_
  clear q0 q1 q2 q3
  rintro e w2 ⟨rfl, hb⟩
  replace Q := Lib.hid (Q.out.on hb)
  replace B1 := Lib.hid (B1.out.trans (hb.mono B1.out.size))
  clear hb
  replace Q := Lib.hid (Q.out.alloc (.cells #[.int .i64 s, .int .i64 p, .int .i64 y, .int .i64 u] 24))
  replace B1 := Lib.hid (B1.out.alloc B1.out.size (.cells #[.int .i64 s, .int .i64 p, .int .i64 y, .int .i64 u] 24))
  have F := Lib.hid (Blk.new w2 24 #[.int .i64 s, .int .i64 p, .int .i64 y, .int .i64 u])
  obtain ⟨q0, q1, q2, q3⟩ := Q.out.c4
  go_wp2_with (fail)
  refine (tk_yes (spec_TakeFrom_any s p l t x u _) HO.out HY.out).mono ?_
  clear q0 q1 q2 q3
  rintro e w3 ⟨rfl, hb⟩
  replace Q := Lib.hid (Q.out.on hb)
  replace F := Lib.hid (F.out.on hb)
  replace B1 := Lib.hid (B1.out.trans (hb.mono B1.out.size))
  clear hb
  replace Q := Lib.hid (Q.out.alloc (.cells #[.int .i64 s, .int .i64 p, .int .i64 y, .int .i64 u] 24))
  replace F := Lib.hid (F.out.alloc (.cells #[.int .i64 s, .int .i64 p, .int .i64 y, .int .i64 u] 24))
  replace B1 := Lib.hid (B1.out.alloc B1.out.size (.cells #[.int .i64 s, .int .i64 p, .int .i64 y, .int .i64 u] 24))
  have G := Lib.hid (Blk.new w3 24 #[.int .i64 s, .int .i64 p, .int .i64 y, .int .i64 u])
  obtain ⟨k, hk⟩ : ∃ k, x.tdiv 2 = k := ⟨_, rfl⟩
  obtain ⟨k1, k2, k3⟩ := tk_parts HO.out hk.symm
  have hkb : 0 ≤ k ∧ k ≤ 201 := by
    have h1 := HI.out.2.2.2.1
    have := tdiv_bd (a := x) (b := 2) (m := 201) (by omega) (by omega) (by omega)
    omega
  have hw5 : IntKind.i64.wrap k = k := by rw [IntKind.wrap_i64]; omega
  have hw6 : IntKind.i64.wrap (x - k) = x - k := by rw [IntKind.wrap_i64]; omega
  obtain ⟨z, hz⟩ : ∃ z, lvV s p l t u - k = z := ⟨_, rfl⟩
  rw [hz] at k2 k3
  rw [HY.out] at k3
  have HK := Lib.hid k1
  have HZ := Lib.hid hz
  have HK2 := Lib.hid k2
  have HK3 := Lib.hid k3
  clear k1 k2 k3 hz
  obtain ⟨q0, q1, q2, q3⟩ := Q.out.c4
  obtain ⟨f0, f1, f2, f3⟩ := F.out.c4
  go_wp2_with (fail)
  refine (tk_yes (impl_TakeFrom_any s p l t k u _) HK.out HZ.out).mono ?_
  clear q0 q1 q2 q3 f0 f1 f2 f3
  rintro e w4 ⟨rfl, hb⟩
  replace Q := Lib.hid (Q.out.on hb)
  replace F := Lib.hid (F.out.on hb)
  replace G := Lib.hid (G.out.on hb)
  replace B1 := Lib.hid (B1.out.trans (hb.mono B1.out.size))
  clear hb
  replace Q := Lib.hid (Q.out.alloc (.cells #[.int .i64 s, .int .i64 p, .int .i64 z, .int .i64 u] 24))
  replace F := Lib.hid (F.out.alloc (.cells #[.int .i64 s, .int .i64 p, .int .i64 z, .int .i64 u] 24))
  replace G := Lib.hid (G.out.alloc (.cells #[.int .i64 s, .int .i64 p, .int .i64 z, .int .i64 u] 24))
  replace B1 := Lib.hid (B1.out.alloc B1.out.size (.cells #[.int .i64 s, .int .i64 p, .int .i64 z, .int .i64 u] 24))
  have M := Lib.hid (Blk.new w4 24 #[.int .i64 s, .int .i64 p, .int .i64 z, .int .i64 u])
  obtain ⟨m0, m1, m2, m3⟩ := M.out.c4
  go_wp2_with (fail)
  refine (tk_yes (impl_TakeFrom_any s p z u (x - k) u _) HK2.out HK3.out).mono ?_
  clear m0 m1 m2 m3
  rintro e w5 ⟨rfl, hb⟩
  replace Q := Lib.hid (Q.out.on hb)
  replace F := Lib.hid (F.out.on hb)
  replace G := Lib.hid (G.out.on hb)
  replace M := Lib.hid (M.out.on hb)
  replace B1 := Lib.hid (B1.out.trans (hb.mono B1.out.size))
  clear hb
  replace Q := Lib.hid (Q.out.alloc (.cells #[.int .i64 s, .int .i64 p, .int .i64 y, .int .i64 u] 24))
  replace F := Lib.hid (F.out.alloc (.cells #[.int .i64 s, .int .i64 p, .int .i64 y, .int .i64 u] 24))
  replace G := Lib.hid (G.out.alloc (.cells #[.int .i64 s, .int .i64 p, .int .i64 y, .int .i64 u] 24))
  replace M := Lib.hid (M.out.alloc (.cells #[.int .i64 s, .int .i64 p, .int .i64 y, .int .i64 u] 24))
  replace B1 := Lib.hid (B1.out.alloc B1.out.size (.cells #[.int .i64 s, .int .i64 p, .int .i64 y, .int .i64 u] 24))
  have E := Lib.hid (Blk.new w5 24 #[.int .i64 s, .int .i64 p, .int .i64 y, .int .i64 u])
  obtain ⟨f0, f1, f2, f3⟩ := F.out.c4
  go_wp2_with (fail)
  go_ret
  exact ⟨ret_bool (by first | rfl | (simp; done) | (simp; omega)), B1.out⟩
end Go.Proofs.Ytijdfoggppmbaaa
