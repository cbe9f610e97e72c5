/-
  ArrivedOver, SendsOver and DeliveredOver of both sides.
-/
import Derived.Test.YthbdcindhkjboaaLiS
import Derived.Test.YthbdcindhkjboaaLiP
namespace Go.Proofs.Ythbdcindhkjboaa
open Go.RowKit

theorem run_field (Q A : Option Addr) (nq cq na ca : Nat) (s : Int) (W : World) :
    Sem.run Try.prog (Instr.field 39 (.agg #[.slice Q nq cq, .slice A na ca, .int .i64 s]) 1) W = .ok (.slice A na ca) W ∧ Sem.run Try.prog (Instr.field 39 (.agg #[.slice Q nq cq, .slice A na ca, .int .i64 s]) 2) W = .ok (.int .i64 s) W := by
  constructor <;> simp [Instr.field, go_sem, part, asAgg]
theorem relay_field (A B : Option Addr) (n c m d : Nat) (s b x : Int) (W : World) :
    Sem.run Try.prog (Instr.field 36 (.agg #[.slice A n c, .int .i64 s, .int .i64 b, .int .i64 x, .slice B m d]) 0) W = .ok (.slice A n c) W ∧ Sem.run Try.prog (Instr.field 36 (.agg #[.slice A n c, .int .i64 s, .int .i64 b, .int .i64 x, .slice B m d]) 1) W = .ok (.int .i64 s) W := by
  constructor <;> simp [Instr.field, go_sem, part, asAgg]
theorem impl_ArrivedOver_any {A : Option Addr} {n c : Nat} {xs : List Int} (m : Int) (w : World) (h : IS w A n c xs) :
    Calls Try.prog 18 #[.slice A n c, .int .i64 m] w (GaveInts 3 w (arrV xs m)) := by
  have HL := Lib.hid h.len
  have H := Lib.hid h
  clear h
  rcases hk : okK xs m with _ | _
  · have HK := Lib.hid hk
    go_enter Try.func18, Try.ntmps18
    go_wp2_with (go_at_call 28; refine (call_b (impl_validLink_any m _ H.out) hk).mono ?_; rintro e w' ⟨rfl, rfl⟩)
    go_ret
    exact ⟨none, 0, 0, rfl, by simp only [arrV, HK.out]; exact ⟨rfl, .inl ⟨rfl, rfl⟩⟩, Below.refl _ _⟩
  · have HK := Lib.hid hk
    obtain ⟨h20, har, hm0, hm8⟩ := okK_facts hk
    obtain ⟨M, rfl⟩ := Int.eq_ofNat_of_zero_le hm0
    have hM : M ≤ 8 := by omega
    have hn : n ≤ 20 := by have := HL.out; omega
    have HF := fun (Q A : Option Addr) (nq cq na ca : Nat) (s : Int) (W : World) => (run_field Q A nq cq na ca s W).1
    have HAR := Lib.hid har
    clear h20 hm0 hm8 har
    go_enter Try.func18, Try.ntmps18
    go_wp2_with (first | (go_at_call 28; refine (call_b (impl_validLink_any (M : Int) _ H.out) hk).mono ?_; rintro e w' ⟨rfl, rfl⟩) | (go_at_call 29; go_must (refine (impl_runLink_any M _ H.out hn HAR.out hM).mono ?_; rintro e w1 ⟨Q, nq, cq, A1, na, ca, rfl, hq, ho, hd, hb⟩; have O1 := Lib.hid ho; have B1 := Lib.hid hb; clear hq ho hd hb)))
    go_ret
    exact ⟨A1, na, ca, rfl, by simp only [arrV, HK.out, if_true]; exact O1.out, B1.out⟩
theorem impl_SendsOver_any {A : Option Addr} {n c : Nat} {xs : List Int} (m : Int) (w : World) (h : IS w A n c xs) :
    Calls Try.prog 17 #[.slice A n c, .int .i64 m] w fun e w' => e = .returned (.int .i64 (sndV xs m)) ∧ Below w.heap.size w w' := by
  have HL := Lib.hid h.len
  have H := Lib.hid h
  clear h
  rcases hk : okK xs m with _ | _
  · have HK := Lib.hid hk
    go_enter Try.func17, Try.ntmps17
    go_wp2_with (go_at_call 28; refine (call_b (impl_validLink_any m _ H.out) hk).mono ?_; rintro e w' ⟨rfl, rfl⟩)
    go_ret
    exact ⟨ret_int (by simp [sndV, HK.out]), Below.refl _ _⟩
  · have HK := Lib.hid hk
    obtain ⟨h20, har, hm0, hm8⟩ := okK_facts hk
    obtain ⟨M, rfl⟩ := Int.eq_ofNat_of_zero_le hm0
    have hM : M ≤ 8 := by omega
    have hn : n ≤ 20 := by have := HL.out; omega
    have HF := fun (Q A : Option Addr) (nq cq na ca : Nat) (s : Int) (W : World) => (run_field Q A nq cq na ca s W).2
    have HAR := Lib.hid har
    clear h20 hm0 hm8 har
    go_enter Try.func17, Try.ntmps17
    go_wp2_with (first | (go_at_call 28; refine (call_b (impl_validLink_any (M : Int) _ H.out) hk).mono ?_; rintro e w' ⟨rfl, rfl⟩) | (go_at_call 29; go_must (refine (impl_runLink_any M _ H.out hn HAR.out hM).mono ?_; rintro e w1 ⟨Q, nq, cq, A1, na, ca, rfl, hq, ho, hd, hb⟩; have B1 := Lib.hid hb; clear hq ho hd hb)))
    go_ret
    exact ⟨ret_int (by simp [sndV, HK.out, linkR]), B1.out⟩
theorem spec_SendsOver_any {A : Option Addr} {n c : Nat} {xs : List Int} (m : Int) (w : World) (h : IS w A n c xs) :
    Calls Try.prog 24 #[.slice A n c, .int .i64 m] w fun e w' => e = .returned (.int .i64 (sndV xs m)) ∧ Below w.heap.size w w' := by
  have HL := Lib.hid h.len
  have H := Lib.hid h
  clear h
  rcases hk : okK xs m with _ | _
  · have HK := Lib.hid hk
    go_enter Try.func24, Try.ntmps24
    go_wp2_with (go_at_call 25; refine (call_b (spec_validFates_any m _ H.out) hk).mono ?_; rintro e w' ⟨rfl, rfl⟩)
    go_ret
    exact ⟨ret_int (by simp [sndV, HK.out]), Below.refl _ _⟩
  · have HK := Lib.hid hk
    obtain ⟨h20, har, hm0, hm8⟩ := okK_facts hk
    obtain ⟨M, rfl⟩ := Int.eq_ofNat_of_zero_le hm0
    have hM : M ≤ 8 := by omega
    have hn : n ≤ 20 := by have := HL.out; omega
    have HF := fun (A B : Option Addr) (n c m d : Nat) (s b x : Int) (W : World) => (relay_field A B n c m d s b x W).2
    have HAR := Lib.hid har
    clear h20 hm0 hm8 har
    go_enter Try.func24, Try.ntmps24
    go_wp2_with (first | (go_at_call 25; refine (call_b (spec_validFates_any (M : Int) _ H.out) hk).mono ?_; rintro e w' ⟨rfl, rfl⟩) | (go_at_call 27; go_must (refine (spec_play_any M _ H.out hn HAR.out hM).mono ?_; rintro e w1 ⟨A1, na, ca, b, B, p, d, k, rfl, ho, hv, hi, hop, hb⟩; have B1 := Lib.hid hb; clear ho hv hi hop hb)))
    go_ret
    exact ⟨ret_int (by simp [sndV, HK.out, linkR]), B1.out⟩
theorem spec_DeliveredOver_any {A : Option Addr} {n c : Nat} {xs : List Int} (m : Int) (w : World) (h : IS w A n c xs) :
    Calls Try.prog 22 #[.slice A n c, .int .i64 m] w (GaveInts 3 w (dlvV xs m)) := by
  have HL := Lib.hid h.len
  have H := Lib.hid h
  clear h
  rcases hk : okK xs m with _ | _
  · have HK := Lib.hid hk
    go_enter Try.func22, Try.ntmps22
    go_wp2_with (go_at_call 25; refine (call_b (spec_validFates_any m _ H.out) hk).mono ?_; rintro e w' ⟨rfl, rfl⟩)
    go_ret
    exact ⟨none, 0, 0, rfl, by simp only [dlvV, arrV, HK.out]; exact ⟨rfl, .inl ⟨rfl, rfl⟩⟩, Below.refl _ _⟩
  · have HK := Lib.hid hk
    have hle := arrV_le xs m
    obtain ⟨h20, har, hm0, hm8⟩ := okK_facts hk
    obtain ⟨M, rfl⟩ := Int.eq_ofNat_of_zero_le hm0
    have hM : M ≤ 8 := by omega
    have hn : n ≤ 20 := by have := HL.out; omega
    have HF := fun (A B : Option Addr) (n c m d : Nat) (s b x : Int) (W : World) => (relay_field A B n c m d s b x W).1
    have HAR := Lib.hid har
    have HLE := Lib.hid hle
    clear h20 hm0 hm8 har hle
    go_enter Try.func22, Try.ntmps22
    go_wp2_with (first | (go_at_call 25; refine (call_b (spec_validFates_any (M : Int) _ H.out) hk).mono ?_; rintro e w' ⟨rfl, rfl⟩) | (go_at_call 27; go_must (refine (spec_play_any M _ H.out hn HAR.out hM).mono ?_; rintro e w1 ⟨A1, na, ca, b, B, p, d, k, rfl, ho, hv, hi, hop, hb⟩; have O1 : Hid (OW w1 3 w.heap.size A1 na ca (arrV xs (M : Int))) := Lib.hid (by simp only [arrV, HK.out, if_true]; exact ho); have B1 := Lib.hid hb; have hna : na ≤ 40 := (by have h1 := O1.out.len; have h2 := HLE.out; omega); clear ho hv hi hop hb)) | (go_at_call 33; go_must (refine (spec_once_any _ O1.out.is (by omega)).mono ?_; rintro e w2 ⟨A2, n2, c2, rfl, ho, hb⟩; have O2 := Lib.hid ho; have B2 := Lib.hid (B1.out.trans (hb.mono B1.out.size)); have hz := B1.out.size; clear ho hb)))
    go_ret
    exact ⟨A2, n2, c2, rfl, O2.out.base_le hz, B2.out⟩
end Go.Proofs.Ythbdcindhkjboaa
