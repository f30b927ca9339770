/- The law's does: the chapter's examples (layer 8). -/
import Derived.Test.YtooclacopkdmlaaDoorUe
import Derived.Test.YtooclacopkdmlaaDoorSh0
namespace Go.Proofs.YtooclacopkdmlaaDoor
open Go.RowKit

theorem hex_leaf : hexL (leafL []) = [54, 101, 51, 52, 48, 98, 57, 99, 102, 102, 98, 51, 55, 97, 57, 56, 57, 99, 97, 53, 52, 52, 101, 54, 98, 98, 55, 56, 48, 97, 50, 99, 55, 56, 57, 48, 49, 100, 51, 102, 98, 51, 51, 55, 51, 56, 55, 54, 56, 53, 49, 49, 97, 51, 48, 54, 49, 55, 97, 102, 97, 48, 49, 100] := by
  unfold leafL
  rw [shaL_one [0] (by rfl)]
  kernel_rfl
theorem d_hexL (w : World) : Calls Tryd.prog 18 #[.agg (hv (leafL []))] w fun e w' => e = .returned (.string ⟨#[54, 101, 51, 52, 48, 98, 57, 99, 102, 102, 98, 51, 55, 97, 57, 56, 57, 99, 97, 53, 52, 52, 101, 54, 98, 98, 55, 56, 48, 97, 50, 99, 55, 56, 57, 48, 49, 100, 51, 102, 98, 51, 51, 55, 51, 56, 55, 54, 56, 53, 49, 49, 97, 51, 48, 54, 49, 55, 97, 102, 97, 48, 49, 100]⟩) ∧ Below w.heap.size w w' := by
  have := hex_any (leafL []) w (shaL_length _)
  rwa [hex_leaf] at this
set_option maxRecDepth 100000 in
set_option maxHeartbeats 1600000 in
theorem does_any (w : World) (hK : TabL w) : Calls Tryd.prog 11 #[] w fun e w' => e = .returned (.bool true) ∧ Below w.heap.size w w' := by
  have HKb : Hid (∀ w', Below w.heap.size w w' → TabL w') := fun w' h => hK.below h hK.lt
  have HE : Hid (∀ w, TabL w → Calls Tryd.prog 9 #[] w fun e w' => e = .returned (.agg (hv (shaL []))) ∧ Below w.heap.size w w') := fun w h => empty_any w h
  have HLf : Hid (∀ w, TabL w → Calls Tryd.prog 5 #[.string ⟨#[]⟩] w fun e w' => e = .returned (.agg (hv (leafL []))) ∧ Below w.heap.size w w') := fun w h => leaf_any [] w h (by decide)
  have HH0 : Hid (∀ w : World, Calls Tryd.prog 18 #[.agg (hv (shaL []))] w fun e w' => e = .returned (.string ⟨#[101, 51, 98, 48, 99, 52, 52, 50, 57, 56, 102, 99, 49, 99, 49, 52, 57, 97, 102, 98, 102, 52, 99, 56, 57, 57, 54, 102, 98, 57, 50, 52, 50, 55, 97, 101, 52, 49, 101, 52, 54, 52, 57, 98, 57, 51, 52, 99, 97, 52, 57, 53, 57, 57, 49, 98, 55, 56, 53, 50, 98, 56, 53, 53]⟩) ∧ Below w.heap.size w w') := d_hex0
  have HH1 : Hid (∀ w : World, Calls Tryd.prog 18 #[.agg (hv (leafL []))] w fun e w' => e = .returned (.string ⟨#[54, 101, 51, 52, 48, 98, 57, 99, 102, 102, 98, 51, 55, 97, 57, 56, 57, 99, 97, 53, 52, 52, 101, 54, 98, 98, 55, 56, 48, 97, 50, 99, 55, 56, 57, 48, 49, 100, 51, 102, 98, 51, 51, 55, 51, 56, 55, 54, 56, 53, 49, 49, 97, 51, 48, 54, 49, 55, 97, 102, 97, 48, 49, 100]⟩) ∧ Below w.heap.size w w') := d_hexL
  generalize hv (shaL []) = C at *
  generalize hv (leafL []) = D at *
  clear hK
  go_enter Tryd.func11, Tryd.ntmps11
  go_wp2_with fail
  refine (HE.out w (HKb.out w (Below.refl _ _))).mono ?_
  rintro e w1 ⟨rfl, b1⟩
  have B1 : Hid (Below w.heap.size w w1) := b1
  clear b1
  go_wp2_with fail
  refine (HH0.out w1).mono ?_
  rintro e w2 ⟨rfl, b2⟩
  have B2 : Hid (Below w.heap.size w w2) := B1.out.trans (b2.mono B1.out.size)
  clear b2
  go_wp2_with fail
  refine (HLf.out w2 (HKb.out w2 B2.out)).mono ?_
  rintro e w3 ⟨rfl, b3⟩
  have B3 : Hid (Below w.heap.size w w3) := B2.out.trans (b3.mono B2.out.size)
  clear b3
  go_wp2_with fail
  refine (HH1.out w3).mono ?_
  rintro e w4 ⟨rfl, b4⟩
  have B4 : Hid (Below w.heap.size w w4) := B3.out.trans (b4.mono B3.out.size)
  clear b4
  go_wp2
  go_ret
  exact ⟨rfl, B4.out⟩
end Go.Proofs.YtooclacopkdmlaaDoor
