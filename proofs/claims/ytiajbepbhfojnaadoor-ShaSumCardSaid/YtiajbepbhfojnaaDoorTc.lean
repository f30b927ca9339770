/- Contract of the document's own Hex. -/
import Derived.Test.YtiajbepbhfojnaaDoorSg
import Derived.Test.YtiajbepbhfojnaaDoorTa
namespace Go.Proofs.YtiajbepbhfojnaaDoor
open Go.RowKit

theorem dg_0 : (⟨#[48, 49, 50, 51, 52, 53, 54, 55, 56, 57, 97, 98, 99, 100, 101, 102]⟩ : ByteArray).extract 0 1 = S [dig 0] := by kernel_rfl
theorem dg_1 : (⟨#[48, 49, 50, 51, 52, 53, 54, 55, 56, 57, 97, 98, 99, 100, 101, 102]⟩ : ByteArray).extract 1 2 = S [dig 1] := by kernel_rfl
theorem dg_2 : (⟨#[48, 49, 50, 51, 52, 53, 54, 55, 56, 57, 97, 98, 99, 100, 101, 102]⟩ : ByteArray).extract 2 3 = S [dig 2] := by kernel_rfl
theorem dg_3 : (⟨#[48, 49, 50, 51, 52, 53, 54, 55, 56, 57, 97, 98, 99, 100, 101, 102]⟩ : ByteArray).extract 3 4 = S [dig 3] := by kernel_rfl
theorem dg_4 : (⟨#[48, 49, 50, 51, 52, 53, 54, 55, 56, 57, 97, 98, 99, 100, 101, 102]⟩ : ByteArray).extract 4 5 = S [dig 4] := by kernel_rfl
theorem dg_5 : (⟨#[48, 49, 50, 51, 52, 53, 54, 55, 56, 57, 97, 98, 99, 100, 101, 102]⟩ : ByteArray).extract 5 6 = S [dig 5] := by kernel_rfl
theorem dg_6 : (⟨#[48, 49, 50, 51, 52, 53, 54, 55, 56, 57, 97, 98, 99, 100, 101, 102]⟩ : ByteArray).extract 6 7 = S [dig 6] := by kernel_rfl
theorem dg_7 : (⟨#[48, 49, 50, 51, 52, 53, 54, 55, 56, 57, 97, 98, 99, 100, 101, 102]⟩ : ByteArray).extract 7 8 = S [dig 7] := by kernel_rfl
theorem dg_8 : (⟨#[48, 49, 50, 51, 52, 53, 54, 55, 56, 57, 97, 98, 99, 100, 101, 102]⟩ : ByteArray).extract 8 9 = S [dig 8] := by kernel_rfl
theorem dg_9 : (⟨#[48, 49, 50, 51, 52, 53, 54, 55, 56, 57, 97, 98, 99, 100, 101, 102]⟩ : ByteArray).extract 9 10 = S [dig 9] := by kernel_rfl
theorem dg_10 : (⟨#[48, 49, 50, 51, 52, 53, 54, 55, 56, 57, 97, 98, 99, 100, 101, 102]⟩ : ByteArray).extract 10 11 = S [dig 10] := by kernel_rfl
theorem dg_11 : (⟨#[48, 49, 50, 51, 52, 53, 54, 55, 56, 57, 97, 98, 99, 100, 101, 102]⟩ : ByteArray).extract 11 12 = S [dig 11] := by kernel_rfl
theorem dg_12 : (⟨#[48, 49, 50, 51, 52, 53, 54, 55, 56, 57, 97, 98, 99, 100, 101, 102]⟩ : ByteArray).extract 12 13 = S [dig 12] := by kernel_rfl
theorem dg_13 : (⟨#[48, 49, 50, 51, 52, 53, 54, 55, 56, 57, 97, 98, 99, 100, 101, 102]⟩ : ByteArray).extract 13 14 = S [dig 13] := by kernel_rfl
theorem dg_14 : (⟨#[48, 49, 50, 51, 52, 53, 54, 55, 56, 57, 97, 98, 99, 100, 101, 102]⟩ : ByteArray).extract 14 15 = S [dig 14] := by kernel_rfl
theorem dg_15 : (⟨#[48, 49, 50, 51, 52, 53, 54, 55, 56, 57, 97, 98, 99, 100, 101, 102]⟩ : ByteArray).extract 15 16 = S [dig 15] := by kernel_rfl
theorem dg_at (p : Nat) (hp : p < 16) : (⟨#[48, 49, 50, 51, 52, 53, 54, 55, 56, 57, 97, 98, 99, 100, 101, 102]⟩ : ByteArray).extract p (p + 1) = S [dig p] := by
  have : p = 0 ∨ p = 1 ∨ p = 2 ∨ p = 3 ∨ p = 4 ∨ p = 5 ∨ p = 6 ∨ p = 7 ∨ p = 8 ∨ p = 9 ∨ p = 10 ∨ p = 11 ∨ p = 12 ∨ p = 13 ∨ p = 14 ∨ p = 15 := by omega
  rcases this with rfl | rfl | rfl | rfl | rfl | rfl | rfl | rfl | rfl | rfl | rfl | rfl | rfl | rfl | rfl | rfl
  · exact dg_0
  · exact dg_1
  · exact dg_2
  · exact dg_3
  · exact dg_4
  · exact dg_5
  · exact dg_6
  · exact dg_7
  · exact dg_8
  · exact dg_9
  · exact dg_10
  · exact dg_11
  · exact dg_12
  · exact dg_13
  · exact dg_14
  · exact dg_15
set_option maxRecDepth 100000 in
set_option maxHeartbeats 1600000 in
theorem rhex_any (h : List UInt8) (w : World) (hl : h.length = 32) :
    Calls Tryd.prog 12 #[.agg (hv h)] w fun e w' => e = .returned (.string (S (hexL h))) ∧ Below w.heap.size w w' := by
  have hcell : Hid (∀ k (hk : k < 32) wr, Below (w.heap.size + 1) (w.alloc (.cells (hv h) 22)) wr → wr.cell? ⟨w.heap.size, k, none⟩ = some (.int .u8 ((h[k]'(by omega)).toNat : Int))) := fun k hk wr hb => by
    rw [hb.cell (p := ⟨w.heap.size, k, none⟩) (by show w.heap.size < w.heap.size + 1; omega), cell_of_row _ _ _ _ _ _ (heap_alloc_last w _)]
    exact hv_at (by omega)
  generalize hv h = C at *
  go_enter Tryd.func12, Tryd.ntmps12
  go_wp2
  go_loopw [4, 5] (fun s i wr => ∃ k : Nat, k ≤ 32 ∧ i = .int .i64 k ∧ s = .string (S (hexL (h.take k))) ∧ Below (w.heap.size + 1) (w.alloc (.cells C 22)) wr) (fun _ i _ => 32 - (intOf i).toNat)
  case atStart => exact ⟨0, Nat.zero_le _, rfl, rfl, Below.refl _ _⟩
  case round =>
    obtain ⟨k, hk, rfl, rfl, hb⟩ := hrel
    by_cases hlt : k < 32
    · have c0 := hcell.out k hlt wr hb
      have hx : h.take (k + 1) = h.take k ++ [h[k]] := by rw [List.take_succ_eq_append_getElem (by omega)]
      have hb8 := UInt8.toNat_lt h[k]
      obtain ⟨p, hp⟩ : ∃ p : Nat, p = h[k].toNat / 16 := ⟨_, rfl⟩
      obtain ⟨q, hq⟩ : ∃ q : Nat, q = h[k].toNat % 16 := ⟨_, rfl⟩
      have hn : Hid (S (hexL (h.take k)) ++ S [dig p] ++ S [dig q] = S (hexL (h.take (k + 1)))) := by
        show _ = _
        rw [S_append, S_append, hx, hexL_snoc, hp, hq]; simp
      have d1 := dg_at p (by omega)
      have d2 := dg_at q (by omega)
      have p1 : (h[k].toNat : Int) / 16 = (p : Int) := by omega
      have q1 : (h[k].toNat : Int) % 16 = (q : Int) := by omega
      have p2 : (p : Int) < 16 := by omega
      have q2 : (q : Int) < 16 := by omega
      have x0 : 0 ≤ (h[k].toNat : Int) := by omega
      have x1 : (h[k].toNat : Int) < 256 := by omega
      have hlk : (S (hexL (h.take k))).size ≤ 64 := by rw [S_size, hexL_length]; simp; omega
      have l1 : (S [dig p]).size = 1 := by rw [S_size]; rfl
      have l2 : (S [dig q]).size = 1 := by rw [S_size]; rfl
      have wp : IntKind.u8.wrap ((p : Int) + 1) = (p : Int) + 1 := by rw [IntKind.wrap_u8']; omega
      have wq : IntKind.u8.wrap ((q : Int) + 1) = (q : Int) + 1 := by rw [IntKind.wrap_u8']; omega
      have k1 : (k : Int) < 32 := by omega
      have k0 : (0 : Int) ≤ (k : Int) := by omega
      have HB : Hid _ := hb
      clear hx hb8 hp hq hb
      generalize (h[k].toNat : Int) = X at *
      generalize S [dig p] = D1 at *
      generalize S [dig q] = D2 at *
      generalize hP : S (hexL (h.take k)) = P at *
      clear hP
      have hs1 : ¬ 9223372036854775807 < P.size + 1 := by omega
      have hs2 : ¬ 9223372036854775807 < (P ++ D1).size + 1 := by rw [ByteArray.size_append, l1]; omega
      have hsz2 : (P ++ D1).size = P.size + 1 := by rw [ByteArray.size_append, l1]
      go_wp2
      go_quiet (fail)
      go_wp2
      go_roundw
      case rel =>
        first
        | exact ⟨k + 1, by omega, by go_num, by rw [hn.out], below_drewN HB.out nq⟩
        | ((repeat apply Exists.intro); exact ⟨⟨k + 1, by omega, by go_num, by rw [hn.out], below_drewN HB.out nq⟩, rfl⟩)
      case measure => simp [intOf]; omega
    · obtain rfl : k = 32 := by omega
      have HR : Hid (S (hexL (h.take 32)) = S (hexL h)) := by show _ = _; rw [List.take_of_length_le (by omega)]
      have HB : Hid (Below w.heap.size w wr) := ((Below.refl w.heap.size w).alloc (Nat.le_refl _) _).trans (hb.mono (by omega))
      clear hb
      generalize S (hexL (h.take 32)) = P at *
      go_wp2
      go_ret
      exact ⟨ret_str HR.out, HB.out⟩
end Go.Proofs.YtiajbepbhfojnaaDoor
