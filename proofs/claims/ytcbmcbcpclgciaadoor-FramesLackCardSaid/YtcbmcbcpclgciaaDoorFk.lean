/- The law FramesBack: what is encoded is decoded, what is decoded is encoded. -/
import Derived.Test.YtcbmcbcpclgciaaDoorFj
import Derived.Deep.DeepCutAuto
import Derived.Deep.QuietTactic
namespace Go.Proofs.YtcbmcbcpclgciaaDoor
open Go.RowKit

theorem TS.alloc {w : World} {B : Nat} {k e i : Int} {D : ByteArray} {w1 : World} (h : TS w B k e i D w1) (o : Obj) : TS w B k e i D (w1.alloc o) := h.next ((Below.refl _ _).alloc (Nat.le_refl _) _)
theorem TS.again {w : World} {B : Nat} {k e i : Int} {D : ByteArray} {w1 : World} (h : TS w B k e i D w1) (k' e' i' : Int) (D' : ByteArray) (t : TypeId) : TS w w1.heap.size k' e' i' D' (w1.alloc (.cells #[.int .u8 k', .int .i64 e', .int .i64 i', .string D'] t)) := TS.start2 h.tab h.tab4 h.below
set_option maxRecDepth 100000 in
set_option maxHeartbeats 4000000 in
theorem back_any (f : Fr) (b : List UInt8) (w : World) (hT : Tab w) (hT4 : Tab4 w) :
    Calls Tryd.prog 5 #[frV f, .string (S b)] w fun e w' => e = .returned (.bool true) ∧ Below w.heap.size w w' := by
  have HDo : Hid (∀ w : World, Tab w → Tab4 w → Calls Tryd.prog 11 #[] w fun e w' => e = .returned (.bool true) ∧ Below w.heap.size w w') := fun w h h4 => fdoes_any w h h4
  have HEn : Hid (∀ w : World, Tab w → Tab4 w → Calls Tryd.prog 9 #[frV f] w fun e w' => e = .returned (.tuple #[.string (S (encL f)), .int .i64 (encE f)]) ∧ Below w.heap.size w w') := fun w h h4 => encode_any f w h h4
  have HD2 : Hid (∀ w : World, Tab w → Tab4 w → Calls Tryd.prog 12 #[.string (S b)] w fun e w' => e = .returned (.tuple #[frV (decF b), .int .i64 (decE b)]) ∧ Below w.heap.size w w') := fun w h h4 => decode_any b w h h4
  have hC2 : Hid ((decE b = 10 ∧ frV (decF b) = .agg #[.int .u8 0, .int .i64 0, .int .i64 0, .string ⟨#[]⟩]) ∨ (decE b = 0 ∧ ∃ k2 e2 i2 D2, frV (decF b) = .agg #[.int .u8 k2, .int .i64 e2, .int .i64 i2, .string D2] ∧ Hid (∀ w : World, Tab w → Tab4 w → Calls Tryd.prog 9 #[.agg #[.int .u8 k2, .int .i64 e2, .int .i64 i2, .string D2]] w fun e w' => e = .returned (.tuple #[.string (S b), .int .i64 0]) ∧ Below w.heap.size w w'))) := by
    show _ ∨ _
    cases hd : decB b with
    | false => exact .inl ⟨(dec_no hd).2, (dec_no hd).1⟩
    | true =>
      refine .inr ⟨decE_ok.2 hd, (decF b).k, (decF b).e, (decF b).i, S (decF b).d, rfl, fun w h h4 => ?_⟩
      have := encode_any (decF b) w h h4
      rw [(enc_dec hd).1, (enc_dec hd).2] at this
      exact this
  have hC1 : (encE f = 0 ∧ (S (encL f)).size = 128 ∧ Hid (∀ w : World, Tab w → Tab4 w → Calls Tryd.prog 12 #[.string (S (encL f))] w fun e w' => e = .returned (.tuple #[frV f, .int .i64 0]) ∧ Below w.heap.size w w') ∧ Hid (∀ w : World, Calls Tryd.prog 14 #[.string (S (encL f))] w fun e w' => e = .returned (.bool false) ∧ Below w.heap.size w w')) ∨ (encE f == 0) = false := by
    by_cases h : encE f = 0
    · refine .inl ⟨h, by rw [S_size, encL_length h], fun w a a4 => ?_, fun w => ?_⟩
      · have := decode_any (encL f) w a a4
        rw [(dec_enc h).2, decE_ok.2 (dec_enc h).1] at this
        exact this
      · have := lack_any (encL f) w
        rwa [enc_whole h] at this
    · exact .inr (by simpa using h)
  obtain ⟨k, ep, i, d⟩ := f
  have HX := TS.start (k := k) (e := ep) (i := i) (D := S d) (t := 23) hT hT4
  generalize frV (decF b) = V at *
  generalize decE b = N at *
  generalize S b = A at *
  generalize encE ⟨k, ep, i, d⟩ = M at *
  generalize S (encL ⟨k, ep, i, d⟩) = X at *
  rw [show frV ⟨k, ep, i, d⟩ = .agg #[.int .u8 k, .int .i64 ep, .int .i64 i, .string (S d)] from rfl] at *
  generalize S d = D at *
  have HC1 : Hid _ := hC1
  clear hC1 hT hT4
  go_enter Tryd.func5, Tryd.ntmps5
  go_wp2_with fail
  refine (HEn.out _ HX.tab HX.tab4).mono ?_
  rintro e' w1 ⟨rfl, b1⟩
  have HX := HX.next b1
  clear b1
  rcases HC1.out with ⟨hM, hXs, HD1, HT1⟩ | hM
  · subst hM
    clear HC1
    go_wp2_with fail
    refine (HD1.out _ HX.tab HX.tab4).mono ?_
    rintro e' w2 ⟨rfl, b2⟩
    have HX := HX.next b2
    have HY := HX.again k ep i D 23
    have HX := HX.alloc (.cells #[.int .u8 k, .int .i64 ep, .int .i64 i, .string D] 23)
    clear b2
    go_upto_region 4 with fail
    generalize w2.heap.size = B2 at *
    generalize w2.alloc _ = W2 at *
    have a0 := HX.c0
    have a1 := HX.c1
    have a2 := HX.c2
    have a3 := HX.c3
    have c0 := HY.c0
    have c1 := HY.c1
    have c2 := HY.c2
    have c3 := HY.c3
    go_wp2_with fail
    refine (HT1.out _).mono ?_
    rintro e' w3 ⟨rfl, b3⟩
    have HX := HX.next b3
    clear b3 HY a0 a1 a2 a3 c0 c1 c2 c3
    go_wp2_with fail
    refine (HD2.out _ HX.tab HX.tab4).mono ?_
    rintro e' w5 ⟨rfl, b5⟩
    have HX := HX.next b5
    rcases hC2.out with ⟨hN, hV⟩ | ⟨hN, k2, e2, i2, D2, hV, HEn2⟩
    · subst hN hV
      have HY := HX.again 0 0 0 ⟨#[]⟩ 23
      clear HX b5
      go_upto_region 7 with fail
      generalize w5.heap.size = B5 at *
      generalize w5.alloc _ = W5 at *
      have c0 := HY.c0
      have c1 := HY.c1
      have c2 := HY.c2
      have c3 := HY.c3
      go_wp2_with fail
      refine (HDo.out _ HY.tab HY.tab4).mono ?_
      rintro e' w6 ⟨rfl, b6⟩
      have HB := (HY.next b6).below
      clear b6 HY c0 c1 c2 c3
      go_wp2
      go_ret
      exact ⟨rfl, HB⟩
    · subst hN hV
      have HY := HX.again k2 e2 i2 D2 23
      clear HX b5
      go_upto_region 7 with fail
      generalize w5.heap.size = B5 at *
      generalize w5.alloc _ = W5 at *
      have c0 := HY.c0
      have c1 := HY.c1
      have c2 := HY.c2
      have c3 := HY.c3
      go_wp2_with fail
      refine (HEn2.out _ HY.tab HY.tab4).mono ?_
      rintro e' w6 ⟨rfl, b6⟩
      have HY := HY.next b6
      clear b6 c0 c1 c2 c3
      go_wp2_with fail
      refine (HDo.out _ HY.tab HY.tab4).mono ?_
      rintro e' w7 ⟨rfl, b7⟩
      have HB := (HY.next b7).below
      clear b7 HY
      go_wp2
      go_ret
      exact ⟨rfl, HB⟩
  · clear HC1
    go_wp2_with fail
    refine (HD2.out _ HX.tab HX.tab4).mono ?_
    rintro e' w5 ⟨rfl, b5⟩
    have HX := HX.next b5
    rcases hC2.out with ⟨hN, hV⟩ | ⟨hN, k2, e2, i2, D2, hV, HEn2⟩
    · subst hN hV
      have HY := HX.again 0 0 0 ⟨#[]⟩ 23
      clear HX b5
      go_upto_region 7 with fail
      generalize w5.heap.size = B5 at *
      generalize w5.alloc _ = W5 at *
      have c0 := HY.c0
      have c1 := HY.c1
      have c2 := HY.c2
      have c3 := HY.c3
      go_wp2_with fail
      refine (HDo.out _ HY.tab HY.tab4).mono ?_
      rintro e' w6 ⟨rfl, b6⟩
      have HB := (HY.next b6).below
      clear b6 HY c0 c1 c2 c3
      go_wp2
      go_ret
      exact ⟨rfl, HB⟩
    · subst hN hV
      have HY := HX.again k2 e2 i2 D2 23
      clear HX b5
      go_upto_region 7 with fail
      generalize w5.heap.size = B5 at *
      generalize w5.alloc _ = W5 at *
      have c0 := HY.c0
      have c1 := HY.c1
      have c2 := HY.c2
      have c3 := HY.c3
      go_wp2_with fail
      refine (HEn2.out _ HY.tab HY.tab4).mono ?_
      rintro e' w6 ⟨rfl, b6⟩
      have HY := HY.next b6
      clear b6 c0 c1 c2 c3
      go_wp2_with fail
      refine (HDo.out _ HY.tab HY.tab4).mono ?_
      rintro e' w7 ⟨rfl, b7⟩
      have HB := (HY.next b7).below
      clear b7 HY
      go_wp2
      go_ret
      exact ⟨rfl, HB⟩
end Go.Proofs.YtcbmcbcpclgciaaDoor
