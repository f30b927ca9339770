/- Contract of sha.Sum. -/
import Derived.Test.YtooclacopkdmlaaDoorSf0
namespace Go.Proofs.YtooclacopkdmlaaDoor
open Go.RowKit

set_option maxRecDepth 100000 in
/-- sha.Sum: the hash of a text. -/
theorem sum_any (l : List UInt8) (w : World) (hK : TabK w) (hlen : l.length ≤ 549755813888) :
    Calls Tryd.prog 12 #[.string (S l)] w fun e w' => e = .returned (.agg (hv (shaL l))) ∧ Below w.heap.size w w' := by
  have z1 : Hid ((hv (padTo 32 [])).size = 32) := by show _ = _; rw [hv_size, padTo_length (by decide)]
  rw [zero_h32] at z1
  have e4 : (hv (shaL l)).size = 32 := by rw [hv_size, shaL_length]
  have e5 := hv_one (shaL l)
  have hgk := hK.lt
  have HLe : Hid (l.length ≤ 549755813888) := hlen
  clear hlen
  generalize hR : hv (shaL l) = R at *
  have HR : Hid (hv (shaL l) = R) := hR
  clear hR
  go_enter Tryd.func12, Tryd.ntmps12
  go_wp2_with fail
  refine (new_any _).mono ?_
  rintro e w2 ⟨rfl, W2, b2⟩
  have hs2 : w.heap.size + 1 ≤ w2.heap.size := by have := b2.size; simp at this; omega
  have g2 : Hid (w2.heap[w.heap.size]? = some (.cells #[.int .u8 0, .int .u8 0, .int .u8 0, .int .u8 0, .int .u8 0, .int .u8 0, .int .u8 0, .int .u8 0, .int .u8 0, .int .u8 0, .int .u8 0, .int .u8 0, .int .u8 0, .int .u8 0, .int .u8 0, .int .u8 0, .int .u8 0, .int .u8 0, .int .u8 0, .int .u8 0, .int .u8 0, .int .u8 0, .int .u8 0, .int .u8 0, .int .u8 0, .int .u8 0, .int .u8 0, .int .u8 0, .int .u8 0, .int .u8 0, .int .u8 0, .int .u8 0] 22 (0, 0))) := by show _ = _; rw [b2.block _ (by simp)]; exact heap_alloc_last _ _
  have hz : (w.alloc (.cells #[.int .u8 0, .int .u8 0, .int .u8 0, .int .u8 0, .int .u8 0, .int .u8 0, .int .u8 0, .int .u8 0, .int .u8 0, .int .u8 0, .int .u8 0, .int .u8 0, .int .u8 0, .int .u8 0, .int .u8 0, .int .u8 0, .int .u8 0, .int .u8 0, .int .u8 0, .int .u8 0, .int .u8 0, .int .u8 0, .int .u8 0, .int .u8 0, .int .u8 0, .int .u8 0, .int .u8 0, .int .u8 0, .int .u8 0, .int .u8 0, .int .u8 0, .int .u8 0] 22)).heap.size = w.heap.size + 1 := by simp
  rw [hz] at W2 b2
  have HB2 : Hid (Below w.heap.size w w2) := ((Below.refl w.heap.size w).alloc (Nat.le_refl _) _).trans (b2.mono (by omega))
  have K2 := hK.below HB2.out hgk
  have HW2 : Hid _ := W2
  clear W2 b2 hz
  go_wp2_with fail
  refine (write_any (w.heap.size + 1) [] l w2 K2 (by omega) HW2.out (by have := HLe.out; simp; omega)).mono ?_
  rintro e w3 ⟨rfl, W3, B3⟩
  have g3 : Hid (w3.heap[w.heap.size]? = some (.cells #[.int .u8 0, .int .u8 0, .int .u8 0, .int .u8 0, .int .u8 0, .int .u8 0, .int .u8 0, .int .u8 0, .int .u8 0, .int .u8 0, .int .u8 0, .int .u8 0, .int .u8 0, .int .u8 0, .int .u8 0, .int .u8 0, .int .u8 0, .int .u8 0, .int .u8 0, .int .u8 0, .int .u8 0, .int .u8 0, .int .u8 0, .int .u8 0, .int .u8 0, .int .u8 0, .int .u8 0, .int .u8 0, .int .u8 0, .int .u8 0, .int .u8 0, .int .u8 0] 22 (0, 0))) := by show _ = _; rw [B3.block _ (by omega) (by omega)]; exact g2.out
  have HB3 : Hid (Below w.heap.size w w3) := HB2.out.trans (B3.below (by omega) (by omega))
  have K3 := hK.below HB3.out hgk
  have s3 : w.heap.size + 1 ≤ w3.heap.size := by have := B3.size; omega
  have HW3 : Hid (IsW w3 (w.heap.size + 1) l) := by show IsW _ _ _; simpa using W3
  clear W3 B3 HW2 g2 HB2
  go_wp2_with fail
  refine (wsum_any (w.heap.size + 1) l w3 K3 HW3.out HLe.out).mono ?_
  rw [HR.out]
  rintro e w4 ⟨rfl, b4⟩
  have g4 : Hid (w4.heap[w.heap.size]? = some (.cells #[.int .u8 0, .int .u8 0, .int .u8 0, .int .u8 0, .int .u8 0, .int .u8 0, .int .u8 0, .int .u8 0, .int .u8 0, .int .u8 0, .int .u8 0, .int .u8 0, .int .u8 0, .int .u8 0, .int .u8 0, .int .u8 0, .int .u8 0, .int .u8 0, .int .u8 0, .int .u8 0, .int .u8 0, .int .u8 0, .int .u8 0, .int .u8 0, .int .u8 0, .int .u8 0, .int .u8 0, .int .u8 0, .int .u8 0, .int .u8 0, .int .u8 0, .int .u8 0] 22 (0, 0))) := by show _ = _; rw [b4.block _ (by omega)]; exact g3.out
  have HB4 : Hid (Below w.heap.size w w4) := HB3.out.trans (b4.mono (by omega))
  clear b4
  go_wp2_with (refine wpList_store_row rfl 22 _ _ rfl w.heap.size R rfl rfl _ _ g4.out (by rw [info_h32, e4]) (by rw [z1.out, e4]) e5 ?_)
  refine bodyPost_ret (v := .agg R) (results_cell1 (p := 2) Tryd.results12 _ _ w.heap.size 32 22 5 R (0, 0) rfl (heap_setRow_same g4.out) Tryd.underlying22 info_h32 e4) rfl ⟨rfl, below_setRow HB4.out (Nat.le_refl _) _⟩

end Go.Proofs.YtooclacopkdmlaaDoor
