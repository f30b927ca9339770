/- The law FrontierNone (layer 10). -/
import Derived.Test.YtgnlfgamdohadaaDoor10k
namespace Go.Proofs.YtgnlfgamdohadaaDoor
open Go.RowKit

set_option maxRecDepth 100000 in
set_option maxHeartbeats 4000000 in
set_option linter.unusedSimpArgs false in
theorem none_law (h : List UInt8) (w : World) (hT : TabF w) (hh : h.length = 32) : Calls Tryd.prog 4 #[.agg (hv h)] w fun e w' => e = .returned (.bool true) ∧ Below w.heap.size w w' := by
  obtain ⟨w1, hw1⟩ : ∃ w1, w.alloc (.cells (hv h) 30) = w1 := ⟨_, rfl⟩
  have b1 : Below w.heap.size w w1 := by rw [← hw1]; exact (Below.refl _ _).alloc (Nat.le_refl _) _
  have g1 : w1.heap[w.heap.size]? = some (.cells (hv h) 30 (0, 0)) := by rw [← hw1]; exact heap_alloc_last w _
  have hhs : (hv h).size = 32 := by rw [hv_size, hh]
  have ic : Hid ((Tryd.prog.info? 30).map (·.size) = some (hv h).toList.length) := by show _ = _; rw [info_h32, Array.length_toList, hhs]
  have HA : Hid (∀ W, Calls Tryd.prog 10 #[.pointer none, .agg (hv h)] W fun e w' => e = .returned (.int .i64 1) ∧ Below W.heap.size W w') := fun W => fappend_nil h W
  have HR : Hid (∀ W, Calls Tryd.prog 14 #[.pointer none] W fun e w' => e = .returned (.agg (hv (padTo 32 []))) ∧ Below W.heap.size W w') := froot_nil
  have HRz : Hid (∀ (W : World) (B b : Nat), Fr W B b 0 [] → TabF W → Calls Tryd.prog 14 #[.pointer (some ⟨b, 0, none⟩)] W fun e w' => e = .returned (.agg (hv (shaL []))) ∧ Below W.heap.size W w') := fun W B b h1 h2 => froot_any h1 h2.l
  have HEm : Hid (∀ W, TabF W → Calls Tryd.prog 20 #[] W fun e w' => e = .returned (.agg (hv (shaL []))) ∧ Below W.heap.size W w') := fun W hW => empty_any W hW.l
  have HD : Hid (∀ W, TabF W → Calls Tryd.prog 18 #[] W fun e w' => e = .returned (.bool true) ∧ Below W.heap.size W w') := does10_any
  have H1 : Hid (∀ W, Below w1.heap.size w1 W → TabF W ∧ Below w.heap.size w W ∧ W.rangeAt w.heap.size 0 (hv h).toList) := fun W hW =>
    have hB := b1.trans (hW.mono b1.size)
    ⟨hT.below hB hT.lt, hB, range_row ((hW.block _ (Array.getElem?_eq_some_iff.1 g1).1).trans g1)⟩
  have hne0 : ∀ w9 : World, (binOp .eql 30 (.agg (hv (padTo 32 []))) (.agg (hv (padTo 32 [])))).run Tryd.prog w9 = .ok (.bool true) w9 := fun w9 => by
    have := eqH w9 (padTo 32 []) (padTo 32 []) (padTo_length (by decide)) (padTo_length (by decide))
    rwa [beq_self_eq_true] at this
  have hne2 : ∀ w9 : World, (binOp .eql 30 (.agg (hv (shaL []))) (.agg (hv (shaL [])))).run Tryd.prog w9 = .ok (.bool true) w9 := fun w9 => by
    have := eqH w9 (shaL []) (shaL []) (shaL_length _) (shaL_length _)
    rwa [beq_self_eq_true] at this
  have HX1 : Hid (Below w1.heap.size w1 w1) := Below.refl _ _
  rw [zero_h32] at hne0 HR
  clear hT b1 g1 hh
  generalize hv h = X at *
  generalize hv (shaL []) = EE at *
  have hr := (H1.out _ HX1.out).2.2
  go_enter Tryd.func4, Tryd.ntmps4
  go_wp2_with (first | (refine wpList_load_mid rfl 30 _ rfl w.heap.size 0 rfl X.toList _ hr Tryd.underlying30 rfl ic.out ?_) | fail)
  refine (HA.out w1).mono ?_
  rintro e x1 ⟨rfl, bc⟩
  have HX2 : Hid (Below w1.heap.size w1 x1) := HX1.out.trans (bc.mono HX1.out.size)
  clear bc HX1
  go_wp2_with fail
  refine (flen_nil x1).mono ?_
  rintro e x1 ⟨rfl, rfl⟩
  go_wp2_with fail
  refine (HR.out x1).mono ?_
  rintro e x2 ⟨rfl, bc⟩
  have HX3 : Hid (Below w1.heap.size w1 x2) := HX2.out.trans (bc.mono HX2.out.size)
  clear bc HX2
  go_wp2_with fail
  refine (fhashes_nil x2).mono ?_
  rintro e x2 ⟨rfl, rfl⟩
  go_wp2_with fail
  refine (fnew_any x2).mono ?_
  rintro e x3 ⟨rfl, hF, bc⟩
  have HX4 : Hid (Below w1.heap.size w1 x3) := HX3.out.trans (bc.mono HX3.out.size)
  obtain ⟨b, hb⟩ : ∃ b, x2.heap.size = b := ⟨_, rfl⟩
  rw [hb] at hF ⊢
  have HFb : Hid (Fr x3 b b 0 []) := hF
  clear bc hb hF HX3
  go_wp2_with fail
  refine (HRz.out x3 _ _ HFb.out (H1.out _ HX4.out).1).mono ?_
  rintro e x4 ⟨rfl, bc⟩
  have HX5 : Hid (Below w1.heap.size w1 x4) := HX4.out.trans (bc.mono HX4.out.size)
  clear bc HX4
  go_wp2_with fail
  refine (HEm.out x4 (H1.out _ HX5.out).1).mono ?_
  rintro e x5 ⟨rfl, bc⟩
  have HX6 : Hid (Below w1.heap.size w1 x5) := HX5.out.trans (bc.mono HX5.out.size)
  clear bc HX5
  go_wp2_with fail
  refine (HD.out x5 (H1.out _ HX6.out).1).mono ?_
  rintro e x9 ⟨rfl, bc⟩
  have HF : Hid (Below w.heap.size w x9) := (H1.out _ (HX6.out.trans (bc.mono HX6.out.size))).2.1
  clear bc
  go_wp2
  go_ret
  exact ⟨rfl, HF.out⟩
end Go.Proofs.YtgnlfgamdohadaaDoor
