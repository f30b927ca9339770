/- The chapter's examples, as the law's does() has them: they come out true. -/
import Derived.Test.YtiajbepbhfojnaaDoorSk
import Derived.Test.YtiajbepbhfojnaaDoorLe
namespace Go.Proofs.YtiajbepbhfojnaaDoor
open Go.RowKit

theorem eqH (w : World) (a b : List UInt8) (ha : a.length = 32) (hb : b.length = 32) : (binOp .eql 22 (.agg (hv a)) (.agg (hv b))).run Tryd.prog w = .ok (.bool (a == b)) w :=
  run_eql_bytes w 22 5 32 Tryd.underlying22 Tryd.underlying5 cells_u8 (by kernel_rfl) a b ha hb
theorem neqH (w : World) (a b : List UInt8) (ha : a.length = 32) (hb : b.length = 32) : (binOp .neq 22 (.agg (hv a)) (.agg (hv b))).run Tryd.prog w = .ok (.bool (!(a == b))) w :=
  run_neq_bytes w 22 5 32 Tryd.underlying22 Tryd.underlying5 cells_u8 (by kernel_rfl) a b ha hb
theorem d_hex0 (w : World) : Calls Tryd.prog 11 #[.agg (hv (shaL []))] w fun e w' => e = .returned (.string ⟨#[101, 51, 98, 48, 99, 52, 52, 50, 57, 56, 102, 99, 49, 99, 49, 52, 57, 97, 102, 98, 102, 52, 99, 56, 57, 57, 54, 102, 98, 57, 50, 52, 50, 55, 97, 101, 52, 49, 101, 52, 54, 52, 57, 98, 57, 51, 52, 99, 97, 52, 57, 53, 57, 57, 49, 98, 55, 56, 53, 50, 98, 56, 53, 53]⟩) ∧ Below w.heap.size w w' := by
  have := hex_any (shaL []) w (shaL_length _)
  rwa [hex_empty] at this
theorem d_hex1 (w : World) : Calls Tryd.prog 11 #[.agg (hv (shaL [97, 98, 99]))] w fun e w' => e = .returned (.string ⟨#[98, 97, 55, 56, 49, 54, 98, 102, 56, 102, 48, 49, 99, 102, 101, 97, 52, 49, 52, 49, 52, 48, 100, 101, 53, 100, 97, 101, 50, 50, 50, 51, 98, 48, 48, 51, 54, 49, 97, 51, 57, 54, 49, 55, 55, 97, 57, 99, 98, 52, 49, 48, 102, 102, 54, 49, 102, 50, 48, 48, 49, 53, 97, 100]⟩) ∧ Below w.heap.size w w' := by
  have := hex_any (shaL [97, 98, 99]) w (shaL_length _)
  rwa [hex_abc] at this
set_option maxRecDepth 100000 in
set_option maxHeartbeats 1600000 in
theorem does_any (w : World) (hK : TabK w) : Calls Tryd.prog 13 #[] w fun e w' => e = .returned (.bool true) ∧ Below w.heap.size w w' := by
  have hgk := hK.lt
  have he : ∀ w : World, (binOp .eql 22 (.agg (hv (shaL [97, 98, 99]))) (.agg (hv (shaL [97, 98, 99])))).run Tryd.prog w = .ok (.bool true) w := fun w => by
    have := eqH w (shaL [97, 98, 99]) (shaL [97, 98, 99]) (shaL_length _) (shaL_length _)
    simpa using this
  have HE0 : Hid (∀ w, TabK w → Calls Tryd.prog 9 #[.string ⟨#[]⟩] w fun e w' => e = .returned (.agg (hv (shaL []))) ∧ Below w.heap.size w w') := fun w h => sum_any [] w h (by decide)
  have HE1 : Hid (∀ w, TabK w → Calls Tryd.prog 9 #[.string ⟨#[97, 98, 99]⟩] w fun e w' => e = .returned (.agg (hv (shaL [97, 98, 99]))) ∧ Below w.heap.size w w') := fun w h => sum_any [97, 98, 99] w h (by decide)
  have HH0 : Hid _ := d_hex0
  have HH1 : Hid _ := d_hex1
  have HWS : Hid (∀ w b, TabK w → IsW w b [97, 98, 99] → Calls Tryd.prog 16 #[.pointer (some ⟨b, 0, none⟩)] w fun e w' => e = .returned (.agg (hv (shaL [97, 98, 99]))) ∧ Below w.heap.size w w') := fun w b h k => wsum_any b _ w h k (by decide)
  have sz1 : Hid ((hv (shaL [97, 98, 99])).size = 32) := by show _ = _; rw [hv_size, shaL_length]
  generalize hv (shaL [97, 98, 99]) = C at *
  generalize hv (shaL []) = D at *
  go_enter Tryd.func13, Tryd.ntmps13
  go_wp2_with fail
  refine (new_any _).mono ?_
  rintro e w1 ⟨rfl, W1, b1⟩
  have K1 := hK.below b1 hgk
  have s1 := W1.lt
  have HW1 : Hid _ := W1
  clear W1
  go_wp2_with fail
  refine (write_any w.heap.size [] [97, 98] w1 K1 (by omega) HW1.out (by decide)).mono ?_
  rintro e w2 ⟨rfl, W2, B2⟩
  have b2 : Below w.heap.size w w2 := b1.trans (B2.below (by omega) (by omega))
  have K2 := hK.below b2 hgk
  have s2 := W2.lt
  have HW2 : Hid _ := W2
  clear W2 B2 HW1
  go_wp2_with fail
  refine (write_any w.heap.size [97, 98] [99] w2 K2 (by omega) HW2.out (by decide)).mono ?_
  rintro e w3 ⟨rfl, W3, B3⟩
  have b3 : Below w.heap.size w w3 := b2.trans (B3.below (by omega) (by omega))
  have K3 := hK.below b3 hgk
  have s3 := W3.lt
  have HW3 : Hid (IsW w3 w.heap.size [97, 98, 99]) := W3
  clear W3 B3 HW2
  go_wp2_with fail
  refine (HE0.out _ K3).mono ?_
  rintro e w4 ⟨rfl, c4⟩
  have s4 : w.heap.size < w4.heap.size := by have := c4.size; omega
  have b4 : Below w.heap.size w w4 := b3.trans (c4.mono (by omega))
  have K4 := hK.below b4 hgk
  have HW4 : Hid (IsW w4 w.heap.size [97, 98, 99]) := IsW.below HW3.out c4 s3
  clear c4 HW3
  go_wp2_with fail
  refine (HH0.out _).mono ?_
  rintro e w5 ⟨rfl, c5⟩
  have s5 : w.heap.size < w5.heap.size := by have := c5.size; omega
  have b5 : Below w.heap.size w w5 := b4.trans (c5.mono (by omega))
  have K5 := hK.below b5 hgk
  have HW5 : Hid (IsW w5 w.heap.size [97, 98, 99]) := IsW.below HW4.out c5 s4
  clear c5 HW4
  go_wp2_with fail
  refine (HE1.out _ K5).mono ?_
  rintro e w6 ⟨rfl, c6⟩
  have s6 : w.heap.size < w6.heap.size := by have := c6.size; omega
  have b6 : Below w.heap.size w w6 := b5.trans (c6.mono (by omega))
  have K6 := hK.below b6 hgk
  have HW6 : Hid (IsW w6 w.heap.size [97, 98, 99]) := IsW.below HW5.out c6 s5
  clear c6 HW5
  go_wp2_with fail
  refine (HH1.out _).mono ?_
  rintro e w7 ⟨rfl, c7⟩
  have s7 : w.heap.size < w7.heap.size := by have := c7.size; omega
  have b7 : Below w.heap.size w w7 := b6.trans (c7.mono (by omega))
  have K7 := hK.below b7 hgk
  have HW7 : Hid (IsW w7 w.heap.size [97, 98, 99]) := IsW.below HW6.out c7 s6
  clear c7 HW6
  go_wp2_with fail
  refine (HWS.out _ _ K7 HW7.out).mono ?_
  rintro e w8 ⟨rfl, c8⟩
  have s8 : w.heap.size < w8.heap.size := by have := c8.size; omega
  have b8 : Below w.heap.size w w8 := b7.trans (c8.mono (by omega))
  have K8 := hK.below b8 hgk
  have HW8 : Hid (IsW w8 w.heap.size [97, 98, 99]) := IsW.below HW7.out c8 s7
  clear c8 HW7
  go_wp2_with fail
  refine (HE1.out _ K8).mono ?_
  rintro e w9 ⟨rfl, c9⟩
  have s9 : w.heap.size < w9.heap.size := by have := c9.size; omega
  have b9 : Below w.heap.size w w9 := b8.trans (c9.mono (by omega))
  have K9 := hK.below b9 hgk
  have HW9 : Hid (IsW w9 w.heap.size [97, 98, 99]) := IsW.below HW8.out c9 s8
  clear c9 HW8
  go_wp2
  go_ret
  exact ⟨rfl, b9⟩
end Go.Proofs.YtiajbepbhfojnaaDoor
