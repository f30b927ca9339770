/- The law FramesEncode: the block of any frame is the document's, or it is refused. -/
import Derived.Test.YtcbmcbcpclgciaaDoorJb
namespace Go.Proofs.YtcbmcbcpclgciaaDoor
open Go.RowKit

set_option maxRecDepth 100000 in
set_option maxHeartbeats 2000000 in
theorem encodeL_any (f : Fr) (w : World) (hT : Tab w) (hT4 : Tab4 w) :
    Calls Tryd.prog 3 #[frV f] w fun e w' => e = .returned (.bool true) ∧ Below w.heap.size w w' := by
  have HDo : Hid (∀ w : World, Tab w → Tab4 w → Calls Tryd.prog 11 #[] w fun e w' => e = .returned (.bool true) ∧ Below w.heap.size w w') := fun w h h4 => fdoes_any w h h4
  have HE1 : Hid (∀ w : World, Tab w → Tab4 w → Calls Tryd.prog 9 #[frV f] w fun e w' => e = .returned (.tuple #[.string (S (encL f)), .int .i64 (encE f)]) ∧ Below w.heap.size w w') := fun w h h4 => encode_any f w h h4
  have HE2 : Hid (∀ w : World, Tab w → Tab4 w → Calls Tryd.prog 10 #[frV f] w fun e w' => e = .returned (.tuple #[.string (S (encL f)), .int .i64 (encE f)]) ∧ Below w.heap.size w w') := fun w h h4 => rencode_any f w h h4
  obtain ⟨k, ep, i, d⟩ := f
  have HX := TS.start (k := k) (e := ep) (i := i) (D := S d) (t := 23) hT hT4
  rw [show frV ⟨k, ep, i, d⟩ = .agg #[.int .u8 k, .int .i64 ep, .int .i64 i, .string (S d)] from rfl] at *
  generalize encE ⟨k, ep, i, d⟩ = M at *
  generalize S (encL ⟨k, ep, i, d⟩) = X at *
  generalize S d = D at *
  clear hT hT4
  go_enter Tryd.func3, Tryd.ntmps3
  go_wp2_with fail
  refine (HE1.out _ HX.tab HX.tab4).mono ?_
  rintro e' w1 ⟨rfl, b1⟩
  have HX := HX.next b1
  clear b1
  have c0 := HX.c0
  have c1 := HX.c1
  have c2 := HX.c2
  have c3 := HX.c3
  go_wp2_with fail
  refine (HE2.out _ HX.tab HX.tab4).mono ?_
  rintro e' w2 ⟨rfl, b2⟩
  have HX := HX.next b2
  clear b2 c0 c1 c2 c3
  go_wp2_with fail
  refine (HDo.out _ HX.tab HX.tab4).mono ?_
  rintro e' w3 ⟨rfl, b3⟩
  have HB := (HX.next b3).below
  clear b3 HX
  go_wp2
  go_ret
  exact ⟨rfl, HB⟩
end Go.Proofs.YtcbmcbcpclgciaaDoor
