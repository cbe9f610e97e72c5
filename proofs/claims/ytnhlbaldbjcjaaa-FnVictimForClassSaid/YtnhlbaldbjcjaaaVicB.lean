/-
  heap.up over the victims. (fuel: a method's look-up asks for it; it is the number of types and 100 more, as far as two seats show.)
-/
import Derived.Test.YtnhlbaldbjcjaaaVicA
namespace Go.Proofs.Ytnhlbaldbjcjaaa
open Go.RowKit
theorem mPush (a : Addr) (w : World) : (method 176 36 (.pointer (some a)) "Push").run Try.prog w = .ok (47, .pointer (some a)) w := by kernel_rfl
theorem mLen (a : Addr) (w : World) : (method 176 36 (.pointer (some a)) "Len").run Try.prog w = .ok (16, .pointer (some a)) w := by kernel_rfl
theorem mLess (a : Addr) (w : World) : (method 176 36 (.pointer (some a)) "Less").run Try.prog w = .ok (46, .pointer (some a)) w := by kernel_rfl
theorem mSwap (a : Addr) (w : World) : (method 176 36 (.pointer (some a)) "Swap").run Try.prog w = .ok (48, .pointer (some a)) w := by kernel_rfl

/-- Which of two places goes first. -/
def goesP (xs : List Tr) (p q : Int) : Bool := goesL ((xs[p.toNat]?.map (·.b)).getD 0) ((xs[q.toNat]?.map (·.b)).getD 0) p.toNat q.toNat
/-- The places after the one at j has gone up. -/
def upL (xs : List Tr) (ps : List Int) (j : Nat) : List Int :=
  if h : j = 0 then ps else if goesP xs (ps.getD j 0) (ps.getD ((j - 1) / 2) 0) then upL xs ((ps.set j (ps.getD ((j - 1) / 2) 0)).set ((j - 1) / 2) (ps.getD j 0)) ((j - 1) / 2) else ps
termination_by j
decreasing_by omega
theorem upL_zero (xs : List Tr) (ps : List Int) : upL xs ps 0 = ps := by rw [upL]; simp
theorem upL_stop {xs : List Tr} {ps : List Int} {j : Nat} {p q : Int} (hj : j ≠ 0) (hp : ps[j]? = some p) (hq : ps[(j - 1) / 2]? = some q) (h : goesP xs p q = false) : upL xs ps j = ps := by
  rw [upL, dif_neg hj]
  simp only [List.getD_eq_getElem?_getD, hp, hq, Option.getD_some, h]
  simp
theorem upL_step {xs : List Tr} {ps : List Int} {j : Nat} {p q : Int} (hj : j ≠ 0) (hp : ps[j]? = some p) (hq : ps[(j - 1) / 2]? = some q) (h : goesP xs p q = true) : upL xs ps j = upL xs ((ps.set j q).set ((j - 1) / 2) p) ((j - 1) / 2) := by
  rw [upL, dif_neg hj]
  simp only [List.getD_eq_getElem?_getD, hp, hq, Option.getD_some, h]
  simp
theorem goesP_at {xs : List Tr} {p q : Nat} {x y : Tr} (hx : xs[p]? = some x) (hy : xs[q]? = some y) : goesP xs (p : Int) (q : Int) = goesL x.b y.b p q := by
  simp [goesP, hx, hy]
set_option maxHeartbeats 4000000 in
theorem heap_up_any {g gp n c m d j : Nat} {B : Option Addr} {xs : List Tr} {ps : List Int} (w0 w : World) (hP : Blk w g 41 #[.slice B m d, .slice (some ⟨gp, 0, none⟩) n c])
    (hT : TS w0 B m d xs) (hO : OW w 3 w0.heap.size (some ⟨gp, 0, none⟩) n c ps) (hB : Below w0.heap.size w0 w) (hg : g ≠ gp) (hall : ∀ p ∈ ps, 0 ≤ p ∧ p < (m : Int)) (hj : j < n) (hn : n ≤ 1000) :
    Calls Try.prog 28 #[.iface 36 (.pointer (some ⟨g, 0, none⟩)), .int .i64 (j : Int)] w fun e w' => e = .returned (.tuple #[]) ∧ Blk w' g 41 #[.slice B m d, .slice (some ⟨gp, 0, none⟩) n c] ∧ OW w' 3 w0.heap.size (some ⟨gp, 0, none⟩) n c (upL xs ps j) ∧ Below w0.heap.size w0 w' := by
  have HP := Lib.hid hP
  have HT := Lib.hid hT
  have HO := Lib.hid hO
  have HB := Lib.hid hB
  have HA := Lib.hid hall
  clear hP hT hO hB hall
  have m1 := mLess ⟨g, 0, none⟩
  have m2 := mSwap ⟨g, 0, none⟩
  go_enter Try.func28, Try.ntmps28
  go_wp2_with (fail)
  go_loopw [1] (fun i wr => ∃ (k : Nat) (qs : List Int), i = .int .i64 k ∧ k < n ∧ Hid (Blk wr g 41 #[.slice B m d, .slice (some ⟨gp, 0, none⟩) n c]) ∧ Hid (OW wr 3 w0.heap.size (some ⟨gp, 0, none⟩) n c qs) ∧ Hid (Below w0.heap.size w0 wr) ∧ Hid (∀ p ∈ qs, 0 ≤ p ∧ p < (m : Int)) ∧ Hid (upL xs qs k = upL xs ps j)) (fun i _ => (intOf i).toNat)
  case atStart => exact ⟨j, ps, rfl, hj, HP, HO, HB, HA, Lib.hid rfl⟩
  case round =>
    obtain ⟨k, qs, rfl, hk, hP, hO, hB, hA, hU⟩ := hrel
    rcases Nat.eq_zero_or_pos k with h0 | h0
    · subst h0
      have hd : Int.tdiv (-1) 2 = 0 := by decide
      go_wp2_with (fail)
      refine bodyPost_end (v := .tuple #[]) (by simp [results, Try.results28, go_sem]) rfl ?_
      exact ⟨rfl, hP.out, by rw [← hU.out, upL_zero]; exact hO.out, hB.out⟩
    obtain ⟨K, hK⟩ : ∃ v, (k - 1) / 2 = v := ⟨_, rfl⟩
    have hKk : K < k := by omega
    have hd : Int.tdiv ((k : Int) - 1) 2 = (K : Int) := by
      have e : ((k : Int) - 1) = ((k - 1 : Nat) : Int) := by omega
      rw [e, ← hK]
      rfl
    have HK := Lib.hid hK
    clear hK
    have hne : ((K : Int) == (k : Int)) = false := by simp; omega
    have hlen := hO.out.len
    obtain ⟨p, hp⟩ : ∃ p, qs[k]? = some p := ⟨_, List.getElem?_eq_getElem (by omega)⟩
    obtain ⟨q, hq⟩ : ∃ q, qs[K]? = some q := ⟨_, List.getElem?_eq_getElem (by omega)⟩
    obtain ⟨p0, p1⟩ := hA.out p (List.mem_of_getElem? hp)
    obtain ⟨q0, q1⟩ := hA.out q (List.mem_of_getElem? hq)
    obtain ⟨p, rfl⟩ := Int.eq_ofNat_of_zero_le p0
    obtain ⟨q, rfl⟩ := Int.eq_ofNat_of_zero_le q0
    have hxl := HT.out.len
    obtain ⟨x, hx⟩ : ∃ x, xs[p]? = some x := ⟨_, List.getElem?_eq_getElem (by omega)⟩
    obtain ⟨y, hy⟩ : ∃ y, xs[q]? = some y := ⟨_, List.getElem?_eq_getElem (by omega)⟩
    have HPK := Lib.hid hp
    have HQK := Lib.hid hq
    have HX := Lib.hid hx
    have HY := Lib.hid hy
    clear hp hq hx hy hlen hxl p0 p1 q0 q1
    have HT2 := Lib.hid (HT.out.below hB.out (Nat.le_refl _))
    rcases hgo : goesL x.b y.b p q with _ | _
    · have HG := Lib.hid hgo
      go_wp2_with (fail)
      refine (call_b (vic_Less_any _ hP.out HT2.out hO.out.is hk (by omega) HPK.out HQK.out HX.out HY.out) HG.out).mono ?_
      rintro e w2 ⟨rfl, N, rfl⟩
      go_wp2_with (fail)
      refine bodyPost_end (v := .tuple #[]) (by simp [results, Try.results28, go_sem]) rfl ?_
      refine ⟨rfl, hP.out.drewN _, ?_, below_drewN hB.out _⟩
      rw [← hU.out, upL_stop (by omega) HPK.out (by rw [HK.out]; exact HQK.out) (by rw [goesP_at HX.out HY.out]; exact HG.out)]
      exact hO.out.drewN _
    · have HG := Lib.hid hgo
      go_wp2_with (fail)
      refine (call_b (vic_Less_any _ hP.out HT2.out hO.out.is hk (by omega) HPK.out HQK.out HX.out HY.out) HG.out).mono ?_
      rintro e w2 ⟨rfl, N, rfl⟩
      go_wp2_with (fail)
      refine (vic_Swap_any (i := K) (j := k) _ (hP.out.drewN _) (hO.out.drewN _) hg (by omega) hk (by omega) HQK.out HPK.out).mono ?_
      rintro e w3 ⟨rfl, N3, rfl⟩
      go_wp2_with (fail)
      go_roundw
      case rel =>
        obtain ⟨g', eg, hgb, _⟩ := hO.out.pos (by omega)
        simp only [Option.some.injEq, Addr.mk.injEq, and_true] at eg
        subst eg
        refine ⟨K, (qs.set K (p : Int)).set k (q : Int), by go_num, by omega, Lib.hid ((((hP.out.drewN _).far (p := ⟨gp, K, none⟩) hg _).far (p := ⟨gp, k, none⟩) hg _).drewN _), Lib.hid ((((hO.out.drewN _).storedS K (p : Int)).storedS k (q : Int)).drewN _), Lib.hid (below_drewN (((below_drewN hB.out _).setCell (p := ⟨gp, K, none⟩) hgb _).setCell (p := ⟨gp, k, none⟩) hgb _) _), Lib.hid ?_, Lib.hid ?_⟩
        · intro r hr
          rcases List.mem_or_eq_of_mem_set hr with hr | rfl
          · rcases List.mem_or_eq_of_mem_set hr with hr | rfl
            · exact hA.out r hr
            · exact hA.out _ (List.mem_of_getElem? HPK.out)
          · exact hA.out _ (List.mem_of_getElem? HQK.out)
        · rw [← hU.out, upL_step (by omega) HPK.out (by rw [HK.out]; exact HQK.out) (by rw [goesP_at HX.out HY.out]; exact HG.out), HK.out, List.set_comm _ _ (by omega)]
      case measure => simp [intOf]; omega
end Go.Proofs.Ytnhlbaldbjcjaaa
