/-
  Contracts of queues: bytes by classes.
-/
import Derived.Test.YtmlnaijpbfddaaaQuY
import Derived.Test.YtmlnaijpbfddaaaQuA
namespace Go.Proofs.Ytmlnaijpbfddaaa
open Go.RowKit
/-- The bytes of the classes of a valid queue. -/
noncomputable def quB (xs : List Tr) (sh db : List Int) (t : Int) : List Int := if validQ xs sh db t then bytesE xs else []
theorem quB_le (xs : List Tr) (sh db : List Int) (t : Int) : (quB xs sh db t).length ≤ 3 := by
  unfold quB
  split
  · rw [bytesE_len]; exact Nat.le_refl _
  · simp
set_option maxHeartbeats 1000000 in
theorem impl_QueueBytes_any {A A2 A3 : Option Addr} {n c n2 c2 n3 c3 : Nat} {xs : List Tr} {sh db : List Int} (t : Int) (w : World) (h : TS w A n c xs) (h2 : IS w A2 n2 c2 sh) (h3 : IS w A3 n3 c3 db) :
    Calls Try.prog 9 #[.agg #[.slice A n c, .slice A2 n2 c2, .slice A3 n3 c3, .int .i64 t]] w (GaveInts 3 w (quB xs sh db t)) := by
  have H := Lib.hid (h.alloc (.cells #[.slice A n c, .slice A2 n2 c2, .slice A3 n3 c3, .int .i64 t] 26))
  have H2 := Lib.hid (h2.alloc (.cells #[.slice A n c, .slice A2 n2 c2, .slice A3 n3 c3, .int .i64 t] 26))
  have H3 := Lib.hid (h3.alloc (.cells #[.slice A n c, .slice A2 n2 c2, .slice A3 n3 c3, .int .i64 t] 26))
  have B0 := Lib.hid (below_new w (.cells #[.slice A n c, .slice A2 n2 c2, .slice A3 n3 c3, .int .i64 t] 26))
  have X0 := Lib.hid (Blk.new w 26 #[.slice A n c, .slice A2 n2 c2, .slice A3 n3 c3, .int .i64 t])
  clear h h2 h3
  rcases hv : validQ xs sh db t with _ | _
  · have HK : Hid (quB xs sh db t = []) := Lib.hid (by simp [quB, hv])
    go_enter Try.func9, Try.ntmps9
    go_wp2_with (fail)
    refine (call_b (impl_ValidQueue_any t _ H.out H2.out H3.out) hv).mono ?_
    rintro e w1 ⟨rfl, hb⟩
    have B1 := Lib.hid (B0.out.trans (hb.mono B0.out.size))
    clear hb hv
    go_wp2_with (fail)
    go_ret
    exact ⟨none, 0, 0, rfl, by rw [HK.out]; exact OW.nil _ _ _, B1.out⟩
  · have HK : Hid (quB xs sh db t = bytesE xs) := Lib.hid (by simp [quB, hv])
    have HV := Lib.hid hv
    clear hv
    go_enter Try.func9, Try.ntmps9
    go_wp2_with (fail)
    refine (call_b (impl_ValidQueue_any t _ H.out H2.out H3.out) HV.out).mono ?_
    rintro e w1 ⟨rfl, hb⟩
    have B1 := Lib.hid (B0.out.trans (hb.mono B0.out.size))
    have X1 := Lib.hid (X0.out.on hb)
    have T1 := Lib.hid (H.out.below hb (Nat.le_refl _))
    clear hb
    obtain ⟨x0, x1, x2, x3⟩ := X1.out.c4
    have xl := X1.out.lt
    go_wp2_with (fail)
    refine (impl_bytesByClass_any _ T1.out (validE_iff.1 (validQ_iff.1 HV.out).1)).mono ?_
    rintro e w2 ⟨E1, m1, d1, rfl, ho, hb⟩
    have O2 := Lib.hid ho
    have B2 := Lib.hid (B1.out.trans (hb.mono B1.out.size))
    have hz := B1.out.size
    clear hb ho x0 x1 x2 x3 xl
    go_wp2_with (fail)
    go_ret
    exact ⟨E1, m1, d1, rfl, by rw [HK.out]; exact O2.out.base_le hz, B2.out⟩
set_option maxHeartbeats 1000000 in
theorem spec_QueueBytes_any {A A2 A3 : Option Addr} {n c n2 c2 n3 c3 : Nat} {xs : List Tr} {sh db : List Int} (t : Int) (w : World) (h : TS w A n c xs) (h2 : IS w A2 n2 c2 sh) (h3 : IS w A3 n3 c3 db) :
    Calls Try.prog 13 #[.agg #[.slice A n c, .slice A2 n2 c2, .slice A3 n3 c3, .int .i64 t]] w (GaveInts 3 w (quB xs sh db t)) := by
  have H := Lib.hid (h.alloc (.cells #[.slice A n c, .slice A2 n2 c2, .slice A3 n3 c3, .int .i64 t] 26))
  have H2 := Lib.hid (h2.alloc (.cells #[.slice A n c, .slice A2 n2 c2, .slice A3 n3 c3, .int .i64 t] 26))
  have H3 := Lib.hid (h3.alloc (.cells #[.slice A n c, .slice A2 n2 c2, .slice A3 n3 c3, .int .i64 t] 26))
  have B0 := Lib.hid (below_new w (.cells #[.slice A n c, .slice A2 n2 c2, .slice A3 n3 c3, .int .i64 t] 26))
  have X0 := Lib.hid (Blk.new w 26 #[.slice A n c, .slice A2 n2 c2, .slice A3 n3 c3, .int .i64 t])
  clear h h2 h3
  rcases hv : validQ xs sh db t with _ | _
  · have HK : Hid (quB xs sh db t = []) := Lib.hid (by simp [quB, hv])
    go_enter Try.func13, Try.ntmps13
    go_wp2_with (fail)
    refine (call_b (spec_validQueue_any t _ H.out H2.out H3.out) hv).mono ?_
    rintro e w1 ⟨rfl, hb⟩
    have B1 := Lib.hid (B0.out.trans (hb.mono B0.out.size))
    clear hb hv
    go_wp2_with (fail)
    go_ret
    exact ⟨none, 0, 0, rfl, by rw [HK.out]; exact OW.nil _ _ _, B1.out⟩
  · have HK : Hid (quB xs sh db t = bytesE xs) := Lib.hid (by simp [quB, hv])
    have HV := Lib.hid hv
    clear hv
    go_enter Try.func13, Try.ntmps13
    go_wp2_with (fail)
    refine (call_b (spec_validQueue_any t _ H.out H2.out H3.out) HV.out).mono ?_
    rintro e w1 ⟨rfl, hb⟩
    have B1 := Lib.hid (B0.out.trans (hb.mono B0.out.size))
    have X1 := Lib.hid (X0.out.on hb)
    have T1 := Lib.hid (H.out.below hb (Nat.le_refl _))
    clear hb
    obtain ⟨x0, x1, x2, x3⟩ := X1.out.c4
    have xl := X1.out.lt
    go_wp2_with (fail)
    refine (spec_bytesOf_any _ T1.out (validE_iff.1 (validQ_iff.1 HV.out).1)).mono ?_
    rintro e w2 ⟨E1, m1, d1, rfl, ho, hb⟩
    have O2 := Lib.hid ho
    have B2 := Lib.hid (B1.out.trans (hb.mono B1.out.size))
    have hz := B1.out.size
    clear hb ho x0 x1 x2 x3 xl
    go_wp2_with (fail)
    go_ret
    exact ⟨E1, m1, d1, rfl, by rw [HK.out]; exact O2.out.base_le hz, B2.out⟩
end Go.Proofs.Ytmlnaijpbfddaaa
