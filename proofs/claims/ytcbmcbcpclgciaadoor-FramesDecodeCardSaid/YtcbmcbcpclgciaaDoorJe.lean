/- The law FramesDecode: the frame of any bytes, and whether they are torn, is the document's, or there is none. -/
import Derived.Test.YtcbmcbcpclgciaaDoorJd
namespace Go.Proofs.YtcbmcbcpclgciaaDoor
open Go.RowKit

theorem TS.alloc' {w : World} {B : Nat} {k e i : Int} {D : ByteArray} {w1 : World} (h : TS w B k e i D w1) (o : Obj) : TS w B k e i D (w1.alloc o) := h.next ((Below.refl _ _).alloc (Nat.le_refl _) _)
set_option maxRecDepth 100000 in
set_option maxHeartbeats 2000000 in
theorem decodeL_any (b : List UInt8) (w : World) (hT : Tab w) (hT4 : Tab4 w) :
    Calls Tryd.prog 4 #[.string (S b)] w fun e w' => e = .returned (.bool true) ∧ Below w.heap.size w w' := by
  have HDo : Hid (∀ w : World, Tab w → Tab4 w → Calls Tryd.prog 11 #[] w fun e w' => e = .returned (.bool true) ∧ Below w.heap.size w w') := fun w h h4 => fdoes_any w h h4
  obtain ⟨k, ep, i, D, hV⟩ : ∃ k ep i D, frV (decF b) = .agg #[.int .u8 k, .int .i64 ep, .int .i64 i, .string D] := ⟨_, _, _, _, rfl⟩
  have HD1 : Hid (∀ w : World, Tab w → Tab4 w → Calls Tryd.prog 12 #[.string (S b)] w fun e w' => e = .returned (.tuple #[.agg #[.int .u8 k, .int .i64 ep, .int .i64 i, .string D], .int .i64 (decE b)]) ∧ Below w.heap.size w w') := fun w h h4 => by rw [← hV]; exact decode_any b w h h4
  have HD2 : Hid (∀ w : World, Tab w → Tab4 w → Calls Tryd.prog 13 #[.string (S b)] w fun e w' => e = .returned (.tuple #[.agg #[.int .u8 k, .int .i64 ep, .int .i64 i, .string D], .int .i64 (decE b)]) ∧ Below w.heap.size w w') := fun w h h4 => by rw [← hV]; exact rdecode_any b w h h4
  have HL1 : Hid (∀ w : World, Calls Tryd.prog 14 #[.string (S b)] w fun e w' => e = .returned (.bool (lackB b)) ∧ Below w.heap.size w w') := fun w => lack_any b w
  have HL2 : Hid (∀ w : World, Calls Tryd.prog 15 #[.string (S b)] w fun e w' => e = .returned (.bool (lackB b)) ∧ w' = w) := fun w => rlack_any b w
  clear hV
  generalize decE b = N at *
  generalize lackB b = L at *
  generalize S b = A at *
  go_enter Tryd.func4, Tryd.ntmps4
  go_wp2_with fail
  refine (HD1.out _ hT hT4).mono ?_
  rintro e' w1 ⟨rfl, b1⟩
  have HX := TS.start2 (k := k) (e := ep) (i := i) (D := D) (t := 23) (hT.below b1) (hT4.below b1 hT4.lt) b1
  clear b1 hT hT4
  go_upto_region 2 with fail
  generalize w1.heap.size = B1 at *
  generalize w1.alloc _ = W1 at *
  go_wp2_with fail
  refine (HD2.out _ HX.tab HX.tab4).mono ?_
  rintro e' w2 ⟨rfl, b2⟩
  have HX := HX.next b2
  have HY := TS.start2 (k := k) (e := ep) (i := i) (D := D) (t := 23) HX.tab HX.tab4 HX.below
  have HX := HX.alloc' (.cells #[.int .u8 k, .int .i64 ep, .int .i64 i, .string D] 23)
  clear b2
  go_upto_region 3 with fail
  generalize w2.heap.size = B2 at *
  generalize w2.alloc _ = W2 at *
  have a0 := HX.c0
  have a1 := HX.c1
  have a2 := HX.c2
  have a3 := HX.c3
  have c0 := HY.c0
  have c1 := HY.c1
  have c2 := HY.c2
  have c3 := HY.c3
  go_wp2_with fail
  refine (HL1.out _).mono ?_
  rintro e' w3 ⟨rfl, b3⟩
  have HX := HX.next b3
  clear b3 HY a0 a1 a2 a3 c0 c1 c2 c3
  go_wp2_with fail
  refine (HL2.out _).mono ?_
  rintro e' w4 ⟨rfl, rfl⟩
  go_wp2_with fail
  refine (HDo.out _ HX.tab HX.tab4).mono ?_
  rintro e' w5 ⟨rfl, b5⟩
  have HB := (HX.next b5).below
  clear b5 HX
  go_wp2
  go_ret
  exact ⟨rfl, HB⟩
end Go.Proofs.YtcbmcbcpclgciaaDoor
