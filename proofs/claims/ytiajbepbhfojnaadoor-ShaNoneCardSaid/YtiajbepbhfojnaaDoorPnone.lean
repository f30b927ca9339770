/- The walk of the law ShaNone: a writer that is none takes nothing, and has the zero hash. -/
import Derived.Test.YtiajbepbhfojnaaDoorSh
namespace Go.Proofs.YtiajbepbhfojnaaDoor
open Go.RowKit

set_option maxRecDepth 100000 in
set_option maxHeartbeats 1600000 in
theorem none_walk (s : ByteArray) (w : World) (hK : TabK w) :
    Calls Tryd.prog 6 #[.string s] w fun e w' => e = .returned (.bool true) ∧ Below w.heap.size w w' := by
  have hgk := hK.lt
  have hz := (zero_of_info zeroW_info).1
  have hz0 : Hid (zeroW[0]? = some (.bool false)) := by show _ = _; kernel_rfl
  have hn : ∀ w : World, (binOp .neq 22 (.agg #[.int .u8 0, .int .u8 0, .int .u8 0, .int .u8 0, .int .u8 0, .int .u8 0, .int .u8 0, .int .u8 0, .int .u8 0, .int .u8 0, .int .u8 0, .int .u8 0, .int .u8 0, .int .u8 0, .int .u8 0, .int .u8 0, .int .u8 0, .int .u8 0, .int .u8 0, .int .u8 0, .int .u8 0, .int .u8 0, .int .u8 0, .int .u8 0, .int .u8 0, .int .u8 0, .int .u8 0, .int .u8 0, .int .u8 0, .int .u8 0, .int .u8 0, .int .u8 0]) (.agg #[.int .u8 0, .int .u8 0, .int .u8 0, .int .u8 0, .int .u8 0, .int .u8 0, .int .u8 0, .int .u8 0, .int .u8 0, .int .u8 0, .int .u8 0, .int .u8 0, .int .u8 0, .int .u8 0, .int .u8 0, .int .u8 0, .int .u8 0, .int .u8 0, .int .u8 0, .int .u8 0, .int .u8 0, .int .u8 0, .int .u8 0, .int .u8 0, .int .u8 0, .int .u8 0, .int .u8 0, .int .u8 0, .int .u8 0, .int .u8 0, .int .u8 0, .int .u8 0])).run Tryd.prog w = .ok (.bool false) w := fun w => by
    have := neqH w (padTo 32 []) (padTo 32 []) (padTo_length (by decide)) (padTo_length (by decide))
    rw [zero_h32] at this
    simpa using this
  have HS1 : Hid (∀ w : World, Calls Tryd.prog 16 #[.pointer none] w fun e w' => e = .returned (.agg #[.int .u8 0, .int .u8 0, .int .u8 0, .int .u8 0, .int .u8 0, .int .u8 0, .int .u8 0, .int .u8 0, .int .u8 0, .int .u8 0, .int .u8 0, .int .u8 0, .int .u8 0, .int .u8 0, .int .u8 0, .int .u8 0, .int .u8 0, .int .u8 0, .int .u8 0, .int .u8 0, .int .u8 0, .int .u8 0, .int .u8 0, .int .u8 0, .int .u8 0, .int .u8 0, .int .u8 0, .int .u8 0, .int .u8 0, .int .u8 0, .int .u8 0, .int .u8 0]) ∧ Below w.heap.size w w') := by
    have := wsum_nil
    rw [zero_h32] at this
    exact this
  have HS2 : Hid (∀ (b : Nat) (w : World), w.cell? ⟨b, 0, none⟩ = some (.bool false) → Calls Tryd.prog 16 #[.pointer (some ⟨b, 0, none⟩)] w fun e w' => e = .returned (.agg #[.int .u8 0, .int .u8 0, .int .u8 0, .int .u8 0, .int .u8 0, .int .u8 0, .int .u8 0, .int .u8 0, .int .u8 0, .int .u8 0, .int .u8 0, .int .u8 0, .int .u8 0, .int .u8 0, .int .u8 0, .int .u8 0, .int .u8 0, .int .u8 0, .int .u8 0, .int .u8 0, .int .u8 0, .int .u8 0, .int .u8 0, .int .u8 0, .int .u8 0, .int .u8 0, .int .u8 0, .int .u8 0, .int .u8 0, .int .u8 0, .int .u8 0, .int .u8 0]) ∧ Below w.heap.size w w') := by
    have := wsum_none
    rw [zero_h32] at this
    exact this
  have he : ∀ w : World, (binOp .eql 22 (.agg (hv (shaL []))) (.agg (hv (shaL [])))).run Tryd.prog w = .ok (.bool true) w := fun w => by
    have := eqH w (shaL []) (shaL []) (shaL_length _) (shaL_length _)
    simpa using this
  have HE0 : Hid (∀ w, TabK w → Calls Tryd.prog 9 #[.string ⟨#[]⟩] w fun e w' => e = .returned (.agg (hv (shaL []))) ∧ Below w.heap.size w w') := fun w h => sum_any [] w h (by decide)
  have HWS : Hid (∀ w b, TabK w → IsW w b [] → Calls Tryd.prog 16 #[.pointer (some ⟨b, 0, none⟩)] w fun e w' => e = .returned (.agg (hv (shaL []))) ∧ Below w.heap.size w w') := fun w b h k => wsum_any b _ w h k (by decide)
  generalize hv (shaL []) = D at *
  generalize zeroW = Z at *
  go_enter Tryd.func6, Tryd.ntmps6
  go_wp2
  refine wp_loop_rounds 3 ?_
  rw [rounds_succ]
  go_wp2_with (go_at_call 15; refine (write_nil _ _).mono ?_; rintro e w' ⟨rfl, rfl⟩)
  refine (HS1.out _).mono ?_
  rintro e w1 ⟨rfl, b1⟩
  go_wp2
  rw [rounds_succ]
  have c1 : Hid ((w1.alloc (.cells Z 43)).cell? ⟨w1.heap.size, 0, none⟩ = some (.bool false)) := by
    show _ = _; rw [cell_of_row _ _ _ _ _ _ (heap_alloc_last w1 _)]; exact hz0.out
  go_wp2_with (go_at_call 15; refine (write_none w1.heap.size _ _ c1.out).mono ?_; rintro e wx ⟨rfl, hx⟩)
  obtain rfl := hx
  refine (HS2.out _ _ c1.out).mono ?_
  rintro e w2 ⟨rfl, b2⟩
  go_wp2
  rw [rounds_succ]
  have s1 := b1.size
  have s2 := b2.size
  simp at s2
  have B2 : Below w'.heap.size w' w2 := (b1.alloc s1 _).trans (b2.mono (by simp; omega))
  have K2 := hK.below B2 hgk
  have S2 := B2.size
  go_wp2_with fail
  refine (new_any _).mono ?_
  rintro e w3 ⟨rfl, W3, b3⟩
  have hz3 : (w2.alloc (.cells Z 43)).heap.size = w2.heap.size + 1 := by simp
  rw [hz3] at W3 b3
  have B3 : Below w'.heap.size w' w3 := (B2.alloc S2 _).trans (b3.mono (by omega))
  have K3 := hK.below B3 hgk
  have S3 := B3.size
  have HW3 : Hid _ := W3
  clear W3
  go_wp2_with fail
  refine (HWS.out _ _ K3 HW3.out).mono ?_
  rintro e w4 ⟨rfl, b4⟩
  have B4 : Below w'.heap.size w' w4 := B3.trans (b4.mono S3)
  have K4 := hK.below B4 hgk
  have S4 := B4.size
  go_wp2_with fail
  refine (HE0.out _ K4).mono ?_
  rintro e w5 ⟨rfl, b5⟩
  have B5 : Below w'.heap.size w' w5 := B4.trans (b5.mono S4)
  have K5 := hK.below B5 hgk
  have S5 := B5.size
  go_wp2_with fail
  refine (does_any _ K5).mono ?_
  rintro e w6 ⟨rfl, b6⟩
  have B6 : Below w'.heap.size w' w6 := B5.trans (b6.mono S5)
  go_wp2
  go_ret
  exact ⟨rfl, B6⟩
end Go.Proofs.YtiajbepbhfojnaaDoor
