/- Contract of sha.Hex: a hash's digits. -/
import Derived.Test.YtooclacopkdmlaaDoorB
import Derived.Test.YtooclacopkdmlaaDoorSb
import Derived.Test.YtooclacopkdmlaaDoorLx
import Derived.Deep.RegionLaw
namespace Go.Proofs.YtooclacopkdmlaaDoor
open Go.RowKit

/-- A digit to the base 16. -/
def dig (n : Nat) : UInt8 := UInt8.ofNat (if n < 10 then 48 + n else 87 + n)
/-- Bytes' digits, two each. -/
def hexL (l : List UInt8) : List UInt8 := l.flatMap fun b => [dig (b.toNat / 16), dig (b.toNat % 16)]
theorem hexL_length (l : List UInt8) : (hexL l).length = 2 * l.length := by
  induction l with
  | nil => rfl
  | cons a l ih => simp [hexL] at ih ⊢; omega
theorem hexL_snoc (l : List UInt8) (b : UInt8) : hexL (l ++ [b]) = hexL l ++ [dig (b.toNat / 16), dig (b.toNat % 16)] := by simp [hexL]
def digits : ByteArray := ⟨#[48, 49, 50, 51, 52, 53, 54, 55, 56, 57, 97, 98, 99, 100, 101, 102]⟩
theorem info_u8s : (Tryd.prog.info? 5).map (·.size) = some 1 := by kernel_rfl
theorem mk64 (w : World) : (Instr.makeSlice 28 (.int .i64 0) (.int .i64 64)).run Tryd.prog w = .ok (.slice (some ⟨w.heap.size, 0, none⟩) 0 64) (w.alloc (.cells (hv (padTo 64 [])) 5)) := by kernel_rfl
theorem dig_0 (w : World) : (Instr.index 9 (.string ⟨#[48, 49, 50, 51, 52, 53, 54, 55, 56, 57, 97, 98, 99, 100, 101, 102]⟩) (.int .u8 0)).run Tryd.prog w = .ok (.int .u8 ((dig 0).toNat : Int)) w := by kernel_rfl
theorem dig_1 (w : World) : (Instr.index 9 (.string ⟨#[48, 49, 50, 51, 52, 53, 54, 55, 56, 57, 97, 98, 99, 100, 101, 102]⟩) (.int .u8 1)).run Tryd.prog w = .ok (.int .u8 ((dig 1).toNat : Int)) w := by kernel_rfl
theorem dig_2 (w : World) : (Instr.index 9 (.string ⟨#[48, 49, 50, 51, 52, 53, 54, 55, 56, 57, 97, 98, 99, 100, 101, 102]⟩) (.int .u8 2)).run Tryd.prog w = .ok (.int .u8 ((dig 2).toNat : Int)) w := by kernel_rfl
theorem dig_3 (w : World) : (Instr.index 9 (.string ⟨#[48, 49, 50, 51, 52, 53, 54, 55, 56, 57, 97, 98, 99, 100, 101, 102]⟩) (.int .u8 3)).run Tryd.prog w = .ok (.int .u8 ((dig 3).toNat : Int)) w := by kernel_rfl
theorem dig_4 (w : World) : (Instr.index 9 (.string ⟨#[48, 49, 50, 51, 52, 53, 54, 55, 56, 57, 97, 98, 99, 100, 101, 102]⟩) (.int .u8 4)).run Tryd.prog w = .ok (.int .u8 ((dig 4).toNat : Int)) w := by kernel_rfl
theorem dig_5 (w : World) : (Instr.index 9 (.string ⟨#[48, 49, 50, 51, 52, 53, 54, 55, 56, 57, 97, 98, 99, 100, 101, 102]⟩) (.int .u8 5)).run Tryd.prog w = .ok (.int .u8 ((dig 5).toNat : Int)) w := by kernel_rfl
theorem dig_6 (w : World) : (Instr.index 9 (.string ⟨#[48, 49, 50, 51, 52, 53, 54, 55, 56, 57, 97, 98, 99, 100, 101, 102]⟩) (.int .u8 6)).run Tryd.prog w = .ok (.int .u8 ((dig 6).toNat : Int)) w := by kernel_rfl
theorem dig_7 (w : World) : (Instr.index 9 (.string ⟨#[48, 49, 50, 51, 52, 53, 54, 55, 56, 57, 97, 98, 99, 100, 101, 102]⟩) (.int .u8 7)).run Tryd.prog w = .ok (.int .u8 ((dig 7).toNat : Int)) w := by kernel_rfl
theorem dig_8 (w : World) : (Instr.index 9 (.string ⟨#[48, 49, 50, 51, 52, 53, 54, 55, 56, 57, 97, 98, 99, 100, 101, 102]⟩) (.int .u8 8)).run Tryd.prog w = .ok (.int .u8 ((dig 8).toNat : Int)) w := by kernel_rfl
theorem dig_9 (w : World) : (Instr.index 9 (.string ⟨#[48, 49, 50, 51, 52, 53, 54, 55, 56, 57, 97, 98, 99, 100, 101, 102]⟩) (.int .u8 9)).run Tryd.prog w = .ok (.int .u8 ((dig 9).toNat : Int)) w := by kernel_rfl
theorem dig_10 (w : World) : (Instr.index 9 (.string ⟨#[48, 49, 50, 51, 52, 53, 54, 55, 56, 57, 97, 98, 99, 100, 101, 102]⟩) (.int .u8 10)).run Tryd.prog w = .ok (.int .u8 ((dig 10).toNat : Int)) w := by kernel_rfl
theorem dig_11 (w : World) : (Instr.index 9 (.string ⟨#[48, 49, 50, 51, 52, 53, 54, 55, 56, 57, 97, 98, 99, 100, 101, 102]⟩) (.int .u8 11)).run Tryd.prog w = .ok (.int .u8 ((dig 11).toNat : Int)) w := by kernel_rfl
theorem dig_12 (w : World) : (Instr.index 9 (.string ⟨#[48, 49, 50, 51, 52, 53, 54, 55, 56, 57, 97, 98, 99, 100, 101, 102]⟩) (.int .u8 12)).run Tryd.prog w = .ok (.int .u8 ((dig 12).toNat : Int)) w := by kernel_rfl
theorem dig_13 (w : World) : (Instr.index 9 (.string ⟨#[48, 49, 50, 51, 52, 53, 54, 55, 56, 57, 97, 98, 99, 100, 101, 102]⟩) (.int .u8 13)).run Tryd.prog w = .ok (.int .u8 ((dig 13).toNat : Int)) w := by kernel_rfl
theorem dig_14 (w : World) : (Instr.index 9 (.string ⟨#[48, 49, 50, 51, 52, 53, 54, 55, 56, 57, 97, 98, 99, 100, 101, 102]⟩) (.int .u8 14)).run Tryd.prog w = .ok (.int .u8 ((dig 14).toNat : Int)) w := by kernel_rfl
theorem dig_15 (w : World) : (Instr.index 9 (.string ⟨#[48, 49, 50, 51, 52, 53, 54, 55, 56, 57, 97, 98, 99, 100, 101, 102]⟩) (.int .u8 15)).run Tryd.prog w = .ok (.int .u8 ((dig 15).toNat : Int)) w := by kernel_rfl
theorem dig_at (p : Nat) (hp : p < 16) (w : World) : (Instr.index 9 (.string ⟨#[48, 49, 50, 51, 52, 53, 54, 55, 56, 57, 97, 98, 99, 100, 101, 102]⟩) (.int .u8 (p : Int))).run Tryd.prog w = .ok (.int .u8 ((dig p).toNat : Int)) w := by
  have : p = 0 ∨ p = 1 ∨ p = 2 ∨ p = 3 ∨ p = 4 ∨ p = 5 ∨ p = 6 ∨ p = 7 ∨ p = 8 ∨ p = 9 ∨ p = 10 ∨ p = 11 ∨ p = 12 ∨ p = 13 ∨ p = 14 ∨ p = 15 := by omega
  rcases this with rfl | rfl | rfl | rfl | rfl | rfl | rfl | rfl | rfl | rfl | rfl | rfl | rfl | rfl | rfl | rfl
  · exact dig_0 w
  · exact dig_1 w
  · exact dig_2 w
  · exact dig_3 w
  · exact dig_4 w
  · exact dig_5 w
  · exact dig_6 w
  · exact dig_7 w
  · exact dig_8 w
  · exact dig_9 w
  · exact dig_10 w
  · exact dig_11 w
  · exact dig_12 w
  · exact dig_13 w
  · exact dig_14 w
  · exact dig_15 w
theorem pad_two (n : Nat) (l : List UInt8) (x y : UInt8) (h : l.length + 2 ≤ n) :
    ((hv (padTo n l)).toList.take l.length ++ [Value.int .u8 (x.toNat : Int), .int .u8 (y.toNat : Int)] ++ (hv (padTo n l)).toList.drop (l.length + 2)).toArray = hv (padTo n (l ++ [x, y])) := by
  obtain ⟨m, hm⟩ : ∃ m, n - l.length = m + 2 := ⟨n - l.length - 2, by omega⟩
  have hm2 : n - (l ++ [x, y]).length = m := by simp; omega
  unfold padTo
  rw [hm, hm2]
  apply Array.toList_inj.1
  simp only [hv, List.map_append]
  rw [List.take_append_of_le_length (by simp), List.take_of_length_le (by simp), List.drop_append, List.drop_of_length_le (by simp)]
  simp
theorem h_index (C : List UInt8) (k : Nat) (w : World) (hl : C.length = 32) (hk : k < 32) : (Instr.index 22 (.agg (hv C)) (.int .i64 (k : Int))).run Tryd.prog w = .ok (.int .u8 ((C[k]'(by omega)).toNat : Int)) w := by
  have hk' : Tryd.prog.plainKey 5 = true := by kernel_rfl
  have p1 := run_part_plain (P := Tryd.prog) w hk' (hv_at (l := C) (i := k) (by omega))
  have hs : (sizeOf 5).run Tryd.prog w = .ok 1 w := by kernel_rfl
  have h1 : (0 : Int) ≤ (k : Int) ∧ (k : Int) < ((32 : Nat) : Int) := by omega
  simp only [Instr.index, Sem.run_bind, run_underlying Tryd.underlying22, asIntOf, Sem.run_pure, Result.andThen_ok, if_pos h1, hs, Nat.mul_one, Int.toNat_natCast, p1]
set_option maxRecDepth 100000 in
set_option maxHeartbeats 1600000 in
theorem hex_any (h : List UInt8) (w : World) (hl : h.length = 32) :
    Calls Tryd.prog 18 #[.agg (hv h)] w fun e w' => e = .returned (.string (S (hexL h))) ∧ Below w.heap.size w w' := by
  have hmk := mk64
  have hz : (hv h).size = 32 := by rw [hv_size, hl]
  have hix : Hid (∀ (k : Nat) (hk : k < 32) (w : World), (Instr.index 22 (.agg (hv h)) (.int .i64 (k : Int))).run Tryd.prog w = .ok (.int .u8 ((h[k]'(by omega)).toNat : Int)) w) := fun k hk w => h_index h k w hl hk
  have hst : Hid (hv (padTo 64 (hexL (h.take 0))) = hv (padTo 64 [])) := rfl
  generalize hv h = C at *
  generalize hv (padTo 64 []) = Z at *
  go_enter Tryd.func18, Tryd.ntmps18
  go_wp2_with (refine wpList_load_row rfl 22 _ rfl w.heap.size rfl _ C (0, 0) _ (by rw [Below.heap_alloc _ _ _ (by simp)]; exact heap_alloc_last _ _) Tryd.underlying22 rfl (by rw [info_h32, hz]) ?_)
  go_loopw [3, 8] (fun v i wr => ∃ k : Nat, k ≤ 32 ∧ i = .int .i64 k ∧ v = .slice (some ⟨w.heap.size + 1, 0, none⟩) (2 * k) 64 ∧ Below w.heap.size w wr ∧ wr.heap[w.heap.size + 1]? = some (.cells (hv (padTo 64 (hexL (h.take k)))) 5 (0, 0))) (fun _ i _ => 32 - (intOf i).toNat)
  case atStart =>
    refine ⟨0, Nat.zero_le _, rfl, rfl, ((Below.refl _ _).alloc (Nat.le_refl _) _).alloc (by simp) _, ?_⟩
    rw [hst.out]
    have := heap_alloc_last (w.alloc (.cells C 22)) (.cells Z 5)
    simpa using this
  case round =>
    obtain ⟨k, hk, rfl, rfl, hbe, hg⟩ := hrel
    clear hst
    by_cases hlt : k < 32
    · have hi := hix.out k hlt
      have hlt' : w.heap.size + 1 < wr.heap.size := (Array.getElem?_eq_some_iff.1 hg).1
      have hx : h.take (k + 1) = h.take k ++ [h[k]] := by rw [List.take_succ_eq_append_getElem (by omega)]
      have hlk : (hexL (h.take k)).length = 2 * k := by rw [hexL_length]; simp; omega
      have hn : Hid (((hv (padTo 64 (hexL (h.take k)))).toList.take (2 * k) ++ [Value.int .u8 ((dig (h[k].toNat / 16)).toNat : Int), .int .u8 ((dig (h[k].toNat % 16)).toNat : Int)] ++ (hv (padTo 64 (hexL (h.take k)))).toList.drop (2 * k + 2)).toArray = hv (padTo 64 (hexL (h.take (k + 1))))) := by
        show _ = _
        have := pad_two 64 (hexL (h.take k)) (dig (h[k].toNat / 16)) (dig (h[k].toNat % 16)) (by rw [hlk]; omega)
        rw [hlk] at this
        rw [this, hx, hexL_snoc]
      have hsz : (hv (padTo 64 (hexL (h.take k)))).size = 64 := by rw [hv_size, padTo_length (by rw [hlk]; omega)]
      have hb8 := UInt8.toNat_lt h[k]
      have d1 : ∀ w, (Instr.index 9 (.string ⟨#[48, 49, 50, 51, 52, 53, 54, 55, 56, 57, 97, 98, 99, 100, 101, 102]⟩) (.int .u8 ((h[k].toNat : Int) / 16))).run Tryd.prog w = .ok (.int .u8 ((dig (h[k].toNat / 16)).toNat : Int)) w := fun w => by
        have := dig_at (h[k].toNat / 16) (by omega) w
        rwa [show ((h[k].toNat / 16 : Nat) : Int) = (h[k].toNat : Int) / 16 by omega] at this
      have d2 : ∀ w, (Instr.index 9 (.string ⟨#[48, 49, 50, 51, 52, 53, 54, 55, 56, 57, 97, 98, 99, 100, 101, 102]⟩) (.int .u8 ((h[k].toNat : Int) % 16))).run Tryd.prog w = .ok (.int .u8 ((dig (h[k].toNat % 16)).toNat : Int)) w := fun w => by
        have := dig_at (h[k].toNat % 16) (by omega) w
        rwa [show ((h[k].toNat % 16 : Nat) : Int) = (h[k].toNat : Int) % 16 by omega] at this
      have hand : bits .and .u8 (h[k].toNat : Int) 15 = (h[k].toNat : Int) % 16 := by
        rw [show (15 : Int) = ((15 : Nat) : Int) from rfl, u8_and_nat _ _ (by omega) (by decide), nat_mask4]; omega
      have HG : Hid (∀ ob, (wr.alloc ob).heap[w.heap.size + 1]? = some (.cells (hv (padTo 64 (hexL (h.take k)))) 5 (0, 0))) := fun ob => by rw [Below.heap_alloc _ _ _ hlt']; exact hg
      have HB : Hid (∀ ob D, Below w.heap.size w ((wr.alloc ob).drew.setRow (w.heap.size + 1) D)) := fun ob D => below_setRow (hbe.alloc (by omega) _).drew (by omega) _
      have x0 : 0 ≤ (h[k].toNat : Int) := by omega
      have x1 : (h[k].toNat : Int) < 256 := by omega
      clear hx hlk hg hbe hb8
      generalize ((dig (h[k].toNat / 16)).toNat : Int) = p at *
      generalize ((dig (h[k].toNat % 16)).toNat : Int) = q at *
      generalize (h[k].toNat : Int) = X at *
      generalize hv (padTo 64 (hexL (h.take k))) = D at *
      have HN2 : Hid (∀ j u, [Value.int .u8 p, .int .u8 q][j]? = some u → (wr.alloc (.cells #[.int .u8 p, .int .u8 q] 5)).drew.cell? ((⟨wr.heap.size, 0, none⟩ : Addr).add j) = some u) := by
        intro j u hj
        rw [show (⟨wr.heap.size, 0, none⟩ : Addr).add j = ⟨wr.heap.size, j, none⟩ by unfold Addr.add; split <;> simp_all]
        rw [cell_of_row (wr.alloc (.cells #[.int .u8 p, .int .u8 q] 5)).drew wr.heap.size j #[.int .u8 p, .int .u8 q] 5 (0, 0) (heap_alloc_last wr _)]
        simpa using hj
      have HN3 : Hid (∀ u ∈ [Value.int .u8 p, .int .u8 q], u.oneCell' = true) := by
        intro u hu
        simp at hu
        rcases hu with rfl | rfl <;> rfl
      have HN4 : Hid (2 * k + 2 ≤ 64) := by show _ ≤ _; omega
      have HN5 : Hid (2 * k + 2 ≤ D.size) := by show _ ≤ _; omega
      go_wp2
      go_region_law (refine step_append_row rfl (.tmp 11) (.tmp 18) 28 rfl 5 Tryd.underlying28 info_u8s (w.heap.size + 1) (2 * k) 64 rfl D _ (HG.out _) ⟨wr.heap.size, 0, none⟩ 2 2 [.int .u8 p, .int .u8 q] rfl rfl HN2.out HN3.out HN4.out HN5.out hn.out ?_)
      all_goals
        go_wp2
        go_roundw
        case rel =>
          first
          | exact ⟨k + 1, by omega, by go_num, rfl, HB.out _ _, heap_setRow_same (HG.out _)⟩
          | ((repeat apply Exists.intro); exact ⟨⟨k + 1, by omega, by go_num, rfl, HB.out _ _, heap_setRow_same (HG.out _)⟩, rfl⟩)
        case measure => simp [intOf]; omega
    · obtain rfl : k = 32 := by omega
      have hcv : (convert 28 9 (.slice (some ⟨w.heap.size + 1, 0, none⟩) (2 * 32) 64)).run Tryd.prog wr = .ok (.string (S (hexL h))) wr := by
        have e : padTo 64 (hexL (h.take 32)) = hexL h := by rw [List.take_of_length_le (by omega), padTo_full (by rw [hexL_length]; omega)]
        rw [e] at hg
        have := conv_row (hexL h) wr (w.heap.size + 1) 64 _ _ hg
        rwa [hexL_length, hl] at this
      have HBe : Hid (Below w.heap.size w wr) := hbe
      clear hbe hg
      generalize hR : S (hexL h) = R at *
      have HR : Hid (S (hexL h) = R) := hR
      clear hR
      go_wp2
      go_ret
      exact ⟨ret_str HR.out.symm, HBe.out⟩
end Go.Proofs.YtooclacopkdmlaaDoor
