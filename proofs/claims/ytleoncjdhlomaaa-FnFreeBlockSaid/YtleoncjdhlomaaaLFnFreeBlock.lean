/-
  The walk of FnFreeBlock. (Its words were written by a program of my own.)
-/
import Derived.Test.YtleoncjdhlomaaaDrawA
import Derived.Test.YtleoncjdhlomaaaArY
import Derived.Test.YtleoncjdhlomaaaArR
import Derived.Test.YtleoncjdhlomaaaArC
import Derived.Test.YtleoncjdhlomaaaArD
import Derived.Test.YtleoncjdhlomaaaArN
import Derived.Test.YtleoncjdhlomaaaArE
import Derived.Test.YtleoncjdhlomaaaArU
import Derived.Test.YtleoncjdhlomaaaArL
import Derived.Deep.RegionHeld3
import Derived.Deep.DrawnRows
import Derived.Deep.QuietTactic
import Derived.Lib.QuietBelow
import Derived.BigQuiet
import Derived.Deep.DeepMust
import Derived.Deep.DeepCutAuto
namespace Go.Proofs.Ytleoncjdhlomaaa
open Go.RowKit
-- CALL: W s0
set_option maxRecDepth 100000 in
set_option maxHeartbeats 1600000 in
theorem walk_FnFreeBlock {A : Option Addr} {n c : Nat} {zs : List Int} (w : World) (h : BS w A n c zs) :
    Calls Try.prog 6 #[.slice A n c] w fun e w' => e = .returned (.bool true) ∧ Below w.heap.size w w' := by
  have H := Lib.hid h
  clear h
  rcases Nat.lt_or_ge 1048576 n with h1 | h1
  · have h1' : (1048576 : Int) < (n : Int) := by omega
    go_enter Try.func6, Try.ntmps6
    go_wp2_with (fail)
    go_ret
    exact ⟨rfl, Below.refl _ _⟩
  have h1' : ¬ (1048576 : Int) < (n : Int) := by omega
  go_enter Try.func6, Try.ntmps6
  go_wp2_with (fail)
  refine (spec_DrawFreeBlock_any w H.out h1).mono ?_
  rintro e w1 ⟨s, xs, A1, n1, c1, nm, rfl, hn1, ht, hb⟩
  have T1 := Lib.hid ht
  have B1 := Lib.hid hb
  have hz1 := B1.out.size
  clear hb ht
  replace T1 := Lib.hid (T1.out.alloc (.cells #[.int .i64 s, .slice A1 n1 c1] 25))
  replace B1 := Lib.hid (B1.out.alloc B1.out.size (.cells #[.int .i64 s, .slice A1 n1 c1] 25))
  have X := Lib.hid (Blk.new w1 25 #[.int .i64 s, .slice A1 n1 c1])
  have HXL := Lib.hid T1.out.len
  rcases hk : frOK s xs nm with _ | _
  · skip
    have HK := Lib.hid hk
    clear hk
    obtain ⟨x0, x1⟩ := X.out.c2
    go_wp2_with (fail)
    refine (ar_none (impl_FreeBlock_any s nm _ T1.out) HK.out fr_no).mono ?_
    clear x0 x1
    rintro e w2 ⟨A2, n2, c2, rfl, ho, hb⟩
    have hl2 := ho.len
    have hb7 := hb
    replace T1 := Lib.hid (T1.out.below hb7 (Nat.le_refl _))
    replace X := Lib.hid (X.out.on hb7)
    replace B1 := Lib.hid (B1.out.trans (hb7.mono B1.out.size))
    have T2 := Lib.hid ho.ts
    clear ho hb hb7
    replace T1 := Lib.hid (T1.out.alloc (.cells #[.int .i64 0, .slice A2 n2 c2] 25))
    replace T2 := Lib.hid (T2.out.alloc (.cells #[.int .i64 0, .slice A2 n2 c2] 25))
    replace X := Lib.hid (X.out.alloc (.cells #[.int .i64 0, .slice A2 n2 c2] 25))
    replace B1 := Lib.hid (B1.out.alloc B1.out.size (.cells #[.int .i64 0, .slice A2 n2 c2] 25))
    have F := Lib.hid (Blk.new w2 25 #[.int .i64 0, .slice A2 n2 c2])
    obtain ⟨x0, x1⟩ := X.out.c2
    go_wp2_with (fail)
    refine (ar_none (spec_FreeBlock_any s nm _ T1.out) HK.out fr_no).mono ?_
    clear x0 x1
    rintro e w3 ⟨A3, n3, c3, rfl, ho, hb⟩
    have hl3 := ho.len
    have hb7 := hb
    replace T1 := Lib.hid (T1.out.below hb7 (Nat.le_refl _))
    replace T2 := Lib.hid (T2.out.below hb7 (Nat.le_refl _))
    replace X := Lib.hid (X.out.on hb7)
    replace F := Lib.hid (F.out.on hb7)
    replace B1 := Lib.hid (B1.out.trans (hb7.mono B1.out.size))
    have T3 := Lib.hid ho.ts
    clear ho hb hb7
    replace T1 := Lib.hid (T1.out.alloc (.cells #[.int .i64 0, .slice A3 n3 c3] 25))
    replace T2 := Lib.hid (T2.out.alloc (.cells #[.int .i64 0, .slice A3 n3 c3] 25))
    replace T3 := Lib.hid (T3.out.alloc (.cells #[.int .i64 0, .slice A3 n3 c3] 25))
    replace X := Lib.hid (X.out.alloc (.cells #[.int .i64 0, .slice A3 n3 c3] 25))
    replace F := Lib.hid (F.out.alloc (.cells #[.int .i64 0, .slice A3 n3 c3] 25))
    replace B1 := Lib.hid (B1.out.alloc B1.out.size (.cells #[.int .i64 0, .slice A3 n3 c3] 25))
    have G := Lib.hid (Blk.new w3 25 #[.int .i64 0, .slice A3 n3 c3])
    obtain ⟨f0, f1⟩ := F.out.c2
    obtain ⟨g0, g1⟩ := G.out.c2
    go_wp2_with (fail)
    refine (laws_equalArena_same 0 _ T2.out T3.out).mono ?_
    clear f0 f1 g0 g1
    rintro e w4 ⟨rfl, hb⟩
    replace T1 := Lib.hid (T1.out.below hb (Nat.le_refl _))
    replace T2 := Lib.hid (T2.out.below hb (Nat.le_refl _))
    replace T3 := Lib.hid (T3.out.below hb (Nat.le_refl _))
    replace X := Lib.hid (X.out.on hb)
    replace F := Lib.hid (F.out.on hb)
    replace G := Lib.hid (G.out.on hb)
    replace B1 := Lib.hid (B1.out.trans (hb.mono B1.out.size))
    clear hb
    obtain ⟨f0, f1⟩ := F.out.c2
    obtain ⟨g0, g1⟩ := G.out.c2
    go_wp2_with (fail)
    refine (laws_equalArena_same 0 _ T2.out T3.out).mono ?_
    clear f0 f1 g0 g1
    rintro e w5 ⟨rfl, hb⟩
    replace T1 := Lib.hid (T1.out.below hb (Nat.le_refl _))
    replace T2 := Lib.hid (T2.out.below hb (Nat.le_refl _))
    replace T3 := Lib.hid (T3.out.below hb (Nat.le_refl _))
    replace X := Lib.hid (X.out.on hb)
    replace F := Lib.hid (F.out.on hb)
    replace G := Lib.hid (G.out.on hb)
    replace B1 := Lib.hid (B1.out.trans (hb.mono B1.out.size))
    clear hb
    go_wp2_with (fail)
    go_ret
    exact ⟨ret_bool (rfl), B1.out⟩
  have HK := Lib.hid hk
  clear hk
  obtain ⟨ys, ey⟩ : ∃ v, frX s xs nm = v := ⟨_, rfl⟩
  have HY := Lib.hid ey
  have HS0 := Lib.hid (fr_facts HK.out).2.2.1
  obtain ⟨t1, t2, t3, t4⟩ := fr_more HK.out ey.symm
  have HF := Lib.hid t1
  obtain ⟨u1, hu1⟩ : ∃ v, usedA s xs = v := ⟨_, rfl⟩
  obtain ⟨u2, hu2⟩ : ∃ v, usedA s ys = v := ⟨_, rfl⟩
  obtain ⟨g1, hg1⟩ : ∃ v, gapA s xs = v := ⟨_, rfl⟩
  obtain ⟨g2, hg2⟩ : ∃ v, gapA s ys = v := ⟨_, rfl⟩
  rw [hu1, hu2] at t2
  rw [hg1, hg2] at t3
  have t3' : g2 ≥ g1 := t3
  have HU1 := Lib.hid hu1
  have HU2 := Lib.hid hu2
  have HG1 := Lib.hid hg1
  have HG2 := Lib.hid hg2
  obtain ⟨K, hK⟩ : ∃ K : Nat, whereA nm xs = K := ⟨_, rfl⟩
  obtain ⟨f1, f2, _, f4⟩ := fr_facts HK.out
  rw [hK] at f2 f4
  have HK2 := Lib.hid hK
  have HF2 := Lib.hid f2
  have HYE : Hid (ys = xs.take K ++ xs.drop (K + 1)) := Lib.hid (ey.symm.trans f4)
  have HVN := Lib.hid (valid_ch.1 (validA_iff.1 f1)).2.2.1
  clear ey t1 hu1 hu2 hg1 hg2 hK f1 f2 f4 t4
  obtain ⟨x0, x1⟩ := X.out.c2
  go_wp2_with (fail)
  refine (ar_at (impl_FreeBlock_any s nm _ T1.out) HS0.out HY.out HK.out).mono ?_
  clear x0 x1
  rintro e w2 ⟨A2, n2, c2, rfl, ho, hb⟩
  have hl2 := ho.len
  have hb7 := hb
  replace T1 := Lib.hid (T1.out.below hb7 (Nat.le_refl _))
  replace X := Lib.hid (X.out.on hb7)
  replace B1 := Lib.hid (B1.out.trans (hb7.mono B1.out.size))
  have T2 := Lib.hid ho.ts
  clear ho hb hb7
  replace T1 := Lib.hid (T1.out.alloc (.cells #[.int .i64 s, .slice A2 n2 c2] 25))
  replace T2 := Lib.hid (T2.out.alloc (.cells #[.int .i64 s, .slice A2 n2 c2] 25))
  replace X := Lib.hid (X.out.alloc (.cells #[.int .i64 s, .slice A2 n2 c2] 25))
  replace B1 := Lib.hid (B1.out.alloc B1.out.size (.cells #[.int .i64 s, .slice A2 n2 c2] 25))
  have F := Lib.hid (Blk.new w2 25 #[.int .i64 s, .slice A2 n2 c2])
  obtain ⟨x0, x1⟩ := X.out.c2
  go_wp2_with (fail)
  refine (ar_at (spec_FreeBlock_any s nm _ T1.out) HS0.out HY.out HK.out).mono ?_
  clear x0 x1
  rintro e w3 ⟨A3, n3, c3, rfl, ho, hb⟩
  have hl3 := ho.len
  have hb7 := hb
  replace T1 := Lib.hid (T1.out.below hb7 (Nat.le_refl _))
  replace T2 := Lib.hid (T2.out.below hb7 (Nat.le_refl _))
  replace X := Lib.hid (X.out.on hb7)
  replace F := Lib.hid (F.out.on hb7)
  replace B1 := Lib.hid (B1.out.trans (hb7.mono B1.out.size))
  have T3 := Lib.hid ho.ts
  clear ho hb hb7
  replace T1 := Lib.hid (T1.out.alloc (.cells #[.int .i64 s, .slice A3 n3 c3] 25))
  replace T2 := Lib.hid (T2.out.alloc (.cells #[.int .i64 s, .slice A3 n3 c3] 25))
  replace T3 := Lib.hid (T3.out.alloc (.cells #[.int .i64 s, .slice A3 n3 c3] 25))
  replace X := Lib.hid (X.out.alloc (.cells #[.int .i64 s, .slice A3 n3 c3] 25))
  replace F := Lib.hid (F.out.alloc (.cells #[.int .i64 s, .slice A3 n3 c3] 25))
  replace B1 := Lib.hid (B1.out.alloc B1.out.size (.cells #[.int .i64 s, .slice A3 n3 c3] 25))
  have G := Lib.hid (Blk.new w3 25 #[.int .i64 s, .slice A3 n3 c3])
  obtain ⟨f0, f1⟩ := F.out.c2
  obtain ⟨g0, g1⟩ := G.out.c2
  go_wp2_with (fail)
  refine (laws_equalArena_same s _ T2.out T3.out).mono ?_
  clear f0 f1 g0 g1
  rintro e w4 ⟨rfl, hb⟩
  replace T1 := Lib.hid (T1.out.below hb (Nat.le_refl _))
  replace T2 := Lib.hid (T2.out.below hb (Nat.le_refl _))
  replace T3 := Lib.hid (T3.out.below hb (Nat.le_refl _))
  replace X := Lib.hid (X.out.on hb)
  replace F := Lib.hid (F.out.on hb)
  replace G := Lib.hid (G.out.on hb)
  replace B1 := Lib.hid (B1.out.trans (hb.mono B1.out.size))
  clear hb
  have HN : Hid (n2 + 1 = n1) := Lib.hid (by have h1 := T2.out.len; rw [HYE.out] at h1; have h2 := HXL.out; have h3 := HF2.out; simp at h1; omega)
  have HGET : Hid (∀ i k y, i ≠ K → xs[i]? = some y → (i < K → k = i) → (K < i → k + 1 = i) → ys[k]? = some y) := Lib.hid fun i k y hne hy h1 h2 => by
    rw [HYE.out, ← List.eraseIdx_eq_take_drop_succ]
    rcases Nat.lt_or_ge i K with h | h
    · obtain rfl := h1 h
      rw [List.getElem?_eraseIdx_of_lt h]
      exact hy
    · have h3 := h2 (by omega)
      rw [List.getElem?_eraseIdx_of_ge (by omega), h3]
      exact hy
  obtain ⟨x0, x1⟩ := X.out.c2
  obtain ⟨f0, f1⟩ := F.out.c2
  go_wp2_with (fail)
  go_loopw [9, 10] (fun p i wq => ∃ (j k mm : Nat), j ≤ n1 ∧ i = .int .i64 (j : Int) ∧ p = .int .i64 (k : Int) ∧ Hid ((j ≤ K ∧ k = j) ∨ (K < j ∧ k + 1 = j)) ∧ wq = w4.drewN mm) (fun _ i _ => n1 - (intOf i).toNat)
  case atStart => exact ⟨0, 0, 0, Nat.zero_le _, rfl, rfl, Lib.hid (.inl ⟨Nat.zero_le _, rfl⟩), rfl⟩
  case round =>
    obtain ⟨j, k, mm, hj, rfl, rfl, hcs, rfl⟩ := hrel
    by_cases hlt : j < n1
    · have hlt' : (j : Int) < (n1 : Int) := by omega
      have zk : (0 : Int) ≤ (j : Int) := by omega
      obtain ⟨b, off, y, rfl, hy, ca, cb, cc⟩ := T1.out.at_ hlt
      have HYY := Lib.hid hy
      by_cases hjk : j = K
      · subst hjk
        have hya : y.a = nm := by
          obtain ⟨x, hx, e⟩ := where_get (nm := nm) (xs := xs) (by rw [HK2.out]; exact HF2.out)
          rw [HK2.out, HYY.out] at hx
          injection hx with hx
          rw [hx]; exact e
        have e0 : (y.a == nm) = true := by simp [hya]
        have HC : Hid (k = j) := Lib.hid (by rcases hcs.out with ⟨_, h1⟩ | ⟨h1, _⟩; exact h1; omega)
        clear hy hya hcs
        go_wp2_with (fail)
        go_roundw
        case rel => exact ⟨j + 1, k, _, by omega, by first | rfl | go_num, by first | rfl | go_num, Lib.hid (.inr ⟨by omega, by have := HC.out; omega⟩), rfl⟩
        case measure => simp [intOf]; omega
      · have hya : ¬ y.a = nm := fun e => by
          obtain ⟨x, hx, e2⟩ := where_get (nm := nm) (xs := xs) (by rw [HK2.out]; exact HF2.out)
          rw [HK2.out] at hx
          have hd := List.pairwise_iff_getElem.1 HVN.out.2
          have h1 := List.getElem?_eq_some_iff.1 HYY.out
          have h2 := List.getElem?_eq_some_iff.1 hx
          rcases Nat.lt_or_gt_of_ne hjk with h3 | h3
          · exact hd j K (by simpa using h1.1) (by simpa using h2.1) h3 (by simp [h1.2, h2.2, e, e2])
          · exact hd K j (by simpa using h2.1) (by simpa using h1.1) h3 (by simp [h1.2, h2.2, e, e2])
        have e0 : (y.a == nm) = false := by simp [hya]
        have hg := HGET.out j k y hjk HYY.out (fun h => by rcases hcs.out with ⟨_, h1⟩ | ⟨h1, _⟩; exact h1; omega) (fun h => by rcases hcs.out with ⟨h1, _⟩ | ⟨_, h1⟩; omega; exact h1)
        have hk5 : k < n2 := by have h1 := (List.getElem?_eq_some_iff.1 hg).1; have h2 := T2.out.len; omega
        obtain ⟨b5, off5, y5, rfl, hy5, da, db', dc⟩ := T2.out.at_ hk5
        obtain rfl : y5 = y := by rw [hg] at hy5; injection hy5 with h; exact h.symm
        have hge : ¬ (k : Int) ≥ (n2 : Int) := by omega
        have hge2 : decide (n2 ≤ k) = false := by simp; omega
        have hge3 : (k : Int) < (n2 : Int) := by omega
        have zk2 : (0 : Int) ≤ (k : Int) := by omega
        have hkb : k ≤ 11 := by have := HN.out; omega
        have e1 : (y5.a == y5.a) = true := by simp
        have e2 : (y5.b == y5.b) = true := by simp
        have e3 : (y5.c == y5.c) = true := by simp
        have HC : Hid ((j + 1 ≤ K ∧ k + 1 = j + 1) ∨ (K < j + 1 ∧ k + 1 + 1 = j + 1)) := Lib.hid (by rcases hcs.out with ⟨h1, h2⟩ | ⟨h1, h2⟩ <;> omega)
        clear hy hya hcs hg hy5
        go_wp2_with (fail)
        go_quiet (fail)
        go_wp2_with (fail)
        go_roundw
        case rel => exact ⟨j + 1, k + 1, _, by omega, by first | rfl | go_num, by first | rfl | go_num, HC, rfl⟩
        case measure => simp [intOf]; omega
    · have hlt' : ¬ (j : Int) < (n1 : Int) := by omega
      obtain rfl : k = n2 := by have := HF2.out; have := HN.out; have := HXL.out; rcases hcs.out with ⟨h2, _⟩ | ⟨_, h2⟩ <;> omega
      have hkk : ((k : Int) == (k : Int)) = true := by simp
      clear hcs x0 x1 f0 f1
      obtain ⟨w5, ew5⟩ : ∃ v : World, v = w4.drewN mm := ⟨_, rfl⟩
      replace T1 := Lib.hid (show TS w5 A1 n1 c1 xs by rw [ew5]; exact T1.out.drewN mm)
      replace T2 := Lib.hid (show TS w5 A2 k c2 ys by rw [ew5]; exact T2.out.drewN mm)
      replace T3 := Lib.hid (show TS w5 A3 n3 c3 ys by rw [ew5]; exact T3.out.drewN mm)
      replace X := Lib.hid (show Blk w5 (w1.heap.size) 25 #[.int .i64 s, .slice A1 n1 c1] by rw [ew5]; exact X.out)
      replace F := Lib.hid (show Blk w5 (w2.heap.size) 25 #[.int .i64 s, .slice A2 k c2] by rw [ew5]; exact F.out)
      replace G := Lib.hid (show Blk w5 (w3.heap.size) 25 #[.int .i64 s, .slice A3 n3 c3] by rw [ew5]; exact G.out)
      replace B1 := Lib.hid (show Below w.heap.size w w5 by rw [ew5]; exact below_drewN B1.out mm)
      rw [← ew5]
      clear ew5
      obtain ⟨x0, x1⟩ := X.out.c2
      obtain ⟨f0, f1⟩ := F.out.c2
      go_wp2_with (fail)
      refine (ar_none (impl_FreeBlock_any s nm _ T2.out) HF.out fr_no).mono ?_
      clear x0 x1 f0 f1
      rintro e w6 ⟨A4, n4, c4, rfl, ho, hb⟩
      have hl4 := ho.len
      have hb7 := hb
      replace T1 := Lib.hid (T1.out.below hb7 (Nat.le_refl _))
      replace T2 := Lib.hid (T2.out.below hb7 (Nat.le_refl _))
      replace T3 := Lib.hid (T3.out.below hb7 (Nat.le_refl _))
      replace X := Lib.hid (X.out.on hb7)
      replace F := Lib.hid (F.out.on hb7)
      replace G := Lib.hid (G.out.on hb7)
      replace B1 := Lib.hid (B1.out.trans (hb7.mono B1.out.size))
      have T4 := Lib.hid ho.ts
      clear ho hb hb7
      replace T1 := Lib.hid (T1.out.alloc (.cells #[.int .i64 0, .slice A4 n4 c4] 25))
      replace T2 := Lib.hid (T2.out.alloc (.cells #[.int .i64 0, .slice A4 n4 c4] 25))
      replace T3 := Lib.hid (T3.out.alloc (.cells #[.int .i64 0, .slice A4 n4 c4] 25))
      replace T4 := Lib.hid (T4.out.alloc (.cells #[.int .i64 0, .slice A4 n4 c4] 25))
      replace X := Lib.hid (X.out.alloc (.cells #[.int .i64 0, .slice A4 n4 c4] 25))
      replace F := Lib.hid (F.out.alloc (.cells #[.int .i64 0, .slice A4 n4 c4] 25))
      replace G := Lib.hid (G.out.alloc (.cells #[.int .i64 0, .slice A4 n4 c4] 25))
      replace B1 := Lib.hid (B1.out.alloc B1.out.size (.cells #[.int .i64 0, .slice A4 n4 c4] 25))
      have K4 := Lib.hid (Blk.new w6 25 #[.int .i64 0, .slice A4 n4 c4])
      have C1 := Lib.hid (fun (d : Nat) (os : Array Obj) => call_int (impl_UsedPlaces_any s (Go.Sort.grow (redrawn (w6.alloc (.cells #[.int .i64 0, .slice A4 n4 c4] 25)) d) os) (T2.out.regrown d os)) HU2.out)
      have C2 := Lib.hid (fun (d : Nat) (os : Array Obj) => call_int (impl_UsedPlaces_any s (Go.Sort.grow (redrawn (w6.alloc (.cells #[.int .i64 0, .slice A4 n4 c4] 25)) d) os) (T1.out.regrown d os)) HU1.out)
      have C3 := Lib.hid (fun (d : Nat) (os : Array Obj) => call_int (impl_LargestGap_any s (Go.Sort.grow (redrawn (w6.alloc (.cells #[.int .i64 0, .slice A4 n4 c4] 25)) d) os) (T2.out.regrown d os)) HG2.out)
      have C4 := Lib.hid (fun (d : Nat) (os : Array Obj) => call_int (impl_LargestGap_any s (Go.Sort.grow (redrawn (w6.alloc (.cells #[.int .i64 0, .slice A4 n4 c4] 25)) d) os) (T1.out.regrown d os)) HG1.out)
      obtain ⟨x0, x1⟩ := X.out.c2
      obtain ⟨f0, f1⟩ := F.out.c2
      have qx0 := fun d os => cell_regrown x0 d os
      have qx1 := fun d os => cell_regrown x1 d os
      have qf0 := fun d os => cell_regrown f0 d os
      have qf1 := fun d os => cell_regrown f1 d os
      have lX := X.out.lt
      have lF := F.out.lt
      go_wp2_with (fail)
      refine wp_region_quiet_below (by kernel_rfl) (by kernel_rfl) ?_
      repeat (first | go_big_quiet_step ((first | (go_at_call 22; with_reducible exact Calls.regrown_of (C1.out _ _)) | (go_at_call 22; with_reducible exact Calls.regrown_of (C2.out _ _)) | (go_at_call 23; with_reducible exact Calls.regrown_of (C3.out _ _)) | (go_at_call 23; with_reducible exact Calls.regrown_of (C4.out _ _)))) | quiet_step ((first | (go_at_call 22; with_reducible exact Calls.regrown_of (C1.out _ _)) | (go_at_call 22; with_reducible exact Calls.regrown_of (C2.out _ _)) | (go_at_call 23; with_reducible exact Calls.regrown_of (C3.out _ _)) | (go_at_call 23; with_reducible exact Calls.regrown_of (C4.out _ _)))))
      refine wpQuiet_nil ?_
      intro w7 hw'
      have hb : Below (w6.alloc (.cells #[.int .i64 0, .slice A4 n4 c4] 25)).heap.size (w6.alloc (.cells #[.int .i64 0, .slice A4 n4 c4] 25)) w7 := by obtain ⟨p, rfl⟩ := hw'; exact below_regrown _ _ _
      clear hw' qx0 qx1 qf0 qf1 x0 x1 f0 f1 lX lF
      replace T1 := Lib.hid (T1.out.below hb (Nat.le_refl _))
      replace T2 := Lib.hid (T2.out.below hb (Nat.le_refl _))
      replace T3 := Lib.hid (T3.out.below hb (Nat.le_refl _))
      replace T4 := Lib.hid (T4.out.below hb (Nat.le_refl _))
      replace X := Lib.hid (X.out.on hb)
      replace F := Lib.hid (F.out.on hb)
      replace G := Lib.hid (G.out.on hb)
      replace K4 := Lib.hid (K4.out.on hb)
      replace B1 := Lib.hid (B1.out.trans (hb.mono B1.out.size))
      clear hb
      go_wp2_with (fail)
      go_ret
      exact ⟨ret_bool (by first | rfl | (simp; done) | (simp; omega)), B1.out⟩
end Go.Proofs.Ytleoncjdhlomaaa
