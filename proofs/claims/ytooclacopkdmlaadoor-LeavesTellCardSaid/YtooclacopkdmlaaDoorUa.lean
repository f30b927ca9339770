/- The document's own Leaf (layer 8). -/
import Derived.Test.YtooclacopkdmlaaDoorUa0
namespace Go.Proofs.YtooclacopkdmlaaDoor
open Go.RowKit

set_option maxRecDepth 100000 in
theorem rleaf_any (d : List UInt8) (w : World) (hR : TabR w) (hd : d.length ≤ 100000) : Calls Tryd.prog 6 #[.string (S d)] w fun e w' => e = .returned (.agg (hv (leafL d))) ∧ Below w.heap.size w w' := by
  obtain ⟨w1, hw1, b1, hg1⟩ := hash_box w
  have HC : Hid (Calls Tryd.prog 15 #[.string ((⟨#[0]⟩ : ByteArray) ++ S d)] w1 fun e w' => e = .returned (.agg (hv (leafL d))) ∧ Below w1.heap.size w1 w') := by rw [S_lead]; exact rsum_any (0 :: d) w1 (hR.below b1 hR.lt) (by simp; omega)
  have HG : Hid (∀ w', Below w1.heap.size w1 w' → w'.heap[w.heap.size]? = some (.cells (hv (padTo 32 [])) 22 (0, 0))) := fun w' hb => (hb.block _ (Array.getElem?_eq_some_iff.1 hg1).1).trans hg1
  have HB : Hid (∀ w', Below w1.heap.size w1 w' → Below w.heap.size w w') := fun w' hb => b1.trans (hb.mono b1.size)
  have e4 : (hv (leafL d)).size = 32 := by rw [hv_size]; exact shaL_length _
  have e5 := hv_one (leafL d)
  have hsz : (S d).size = d.length := S_size d
  generalize hv (leafL d) = R at *
  generalize S d = D at *
  have z1 : Hid ((hv (padTo 32 [])).size = 32) := hz_size
  rw [zero_h32] at hw1 HG z1
  clear hg1 b1
  go_enter Tryd.func6, Tryd.ntmps6
  go_wp2_with fail
  refine HC.out.mono ?_
  rintro e w2 ⟨rfl, b2⟩
  have g2 := HG.out w2 b2
  have HB2 : Hid _ := HB.out w2 b2
  clear b2 hw1
  go_wp2_with (refine wpList_store_row rfl 22 _ _ rfl w.heap.size R rfl rfl _ _ g2 (by rw [info_h32, e4]) (by rw [z1.out, e4]) e5 ?_)
  refine bodyPost_ret (v := .agg R) (results_cell1 (p := 2) Tryd.results6 _ _ w.heap.size 32 22 5 R (0, 0) rfl (heap_setRow_same g2) Tryd.underlying22 info_h32 e4) rfl ⟨rfl, below_setRow HB2.out (Nat.le_refl _) _⟩
end Go.Proofs.YtooclacopkdmlaaDoor
