/- The law's Block: a text over and over. -/
import Derived.Test.YtalofhnjlmgloaaDoorBt
import Derived.Test.YtalofhnjlmgloaaDoorLx
import Derived.Test.YtalofhnjlmgloaaDoorLh
namespace Go.Proofs.YtalofhnjlmgloaaDoor
open Go.RowKit

def blockT (s : List UInt8) : List UInt8 := (List.range 128).map fun i => if s = [] then 0 else s.getD (i % s.length) 0
theorem blockT_len (s : List UInt8) : (blockT s).length = 128 := by simp [blockT]
theorem blockT_nil : blockT [] = List.replicate 128 0 := by kernel_rfl
theorem mk_by (w : World) : (Instr.makeSlice 44 (.int .i64 128) (.int .i64 128)).run Tryd.prog w = .ok (.slice (some ⟨w.heap.size, 0, none⟩) 128 128) (w.alloc (.cells (hv (List.replicate 128 0)) 5)) := by
  have h := run_make_row' (P := Tryd.prog) 44 5 (.int .u8 0) 1 Tryd.underlying44 (by kernel_rfl) rfl .i64 .i64 128 (by omega) (by omega) w
  have e : madeCells #[Value.int .u8 0] 128 = hv (List.replicate 128 0) := by kernel_rfl
  rw [e] at h
  exact h
theorem pad_putB (T : List UInt8) (k : Nat) (b : UInt8) (h : T[k]? = some b) (hk : T.length = 128) : (hv (padTo 128 (T.take k))).setIfInBounds k (.int .u8 (b.toNat : Int)) = hv (padTo 128 (T.take (k + 1))) := by
  have hl : k < T.length := (List.getElem?_eq_some_iff.1 h).1
  have := padTo_set 128 (T.take k) b (by simp; omega)
  rw [List.length_take, Nat.min_eq_left (Nat.le_of_lt hl)] at this
  rw [this, List.take_add_one, h]
  rfl
set_option maxRecDepth 100000 in
theorem block_any (s : List UInt8) (w : World) : Calls Tryd.prog 23 #[.string (S s)] w fun e w' => e = .returned (.string (S (blockT s))) ∧ Below w.heap.size w w' := by
  have hmk := mk_by w
  have HST : Hid (Below w.heap.size w (w.alloc (.cells (hv (List.replicate 128 0)) 5)) ∧ (w.alloc (.cells (hv (List.replicate 128 0)) 5)).heap[w.heap.size]? = some (.cells (hv (padTo 128 ((blockT s).take 0))) 5 (0, 0))) := ⟨(Below.refl _ _).alloc (Nat.le_refl _) _, by simpa [padTo] using heap_alloc_last w _⟩
  obtain ⟨T, hT⟩ : ∃ T, blockT s = T := ⟨_, rfl⟩
  have hTl : T.length = 128 := by rw [← hT, blockT_len]
  rw [hT] at HST ⊢
  have HC : Hid (∀ (wr : World), wr.heap[w.heap.size]? = some (.cells (hv T) 5 (0, 0)) → (convert 44 9 (.slice (some ⟨w.heap.size, 0, none⟩) 128 128)).run Tryd.prog wr = .ok (.string (S T)) wr) := fun wr h => by
    have := conv_row T wr w.heap.size 128 _ _ h
    rwa [hTl] at this
  by_cases hs : s = []
  · subst hs
    have HZ : Hid (hv (List.replicate 128 0) = hv T) := by show _ = _; rw [← hT, blockT_nil]
    have hb : ((w.alloc (.cells (hv T) 5))).heap[w.heap.size]? = some (.cells (hv T) 5 (0, 0)) := heap_alloc_last _ _
    have hcv := HC.out _ hb
    have HB : Hid (Below w.heap.size w (w.alloc (.cells (hv T) 5))) := (Below.refl _ _).alloc (Nat.le_refl _) _
    rw [HZ.out] at hmk
    have he : S ([] : List UInt8) = ⟨#[]⟩ := rfl
    clear hb HC HST HZ hT
    generalize hv T = G at *
    rw [he]
    go_enter Tryd.func23, Tryd.ntmps23
    go_wp2
    go_loopw [4] (fun i wr => i = .int .i64 0 ∧ wr = w.alloc (.cells G 5)) (fun i _ => 0)
    case atStart => exact ⟨rfl, rfl⟩
    case round =>
      obtain ⟨rfl, rfl⟩ := hrel
      go_wp2
      go_ret
      exact ⟨rfl, HB.out⟩
  · have hpos : 0 < s.length := List.length_pos_iff.2 hs
    have HTk : Hid (∀ k, k < 128 → ∃ h : k % (S s).size < (S s).size, T[k]? = some ((S s)[k % (S s).size]'h)) := fun k hk => by
      refine ⟨by rw [S_size]; exact Nat.mod_lt _ hpos, ?_⟩
      rw [← hT]
      unfold blockT
      rw [List.getElem?_map, List.getElem?_range hk]
      simp only [Option.map_some, if_neg hs, S_size]
      congr 1
      rw [List.getD_eq_getElem?_getD, List.getElem?_eq_getElem (Nat.mod_lt _ hpos)]
      rfl
    have hsz : 0 < (S s).size := by rw [S_size]; exact hpos
    have hne : (S s).toList.isEmpty = false := by rw [toList_S]; cases s with | nil => exact absurd rfl hs | cons a l => rfl
    clear hT hs hpos
    generalize S s = A at *
    generalize hv (List.replicate 128 0) = Z at *
    go_enter Tryd.func23, Tryd.ntmps23
    go_wp2
    go_loopw [4] (fun i wr => ∃ k : Nat, k ≤ 128 ∧ i = .int .i64 k ∧ Below w.heap.size w wr ∧ wr.heap[w.heap.size]? = some (.cells (hv (padTo 128 (T.take k))) 5 (0, 0))) (fun i _ => 128 - (intOf i).toNat)
    case atStart => exact ⟨0, by omega, rfl, HST.out⟩
    case round =>
      obtain ⟨k, hk, rfl, hB, hG⟩ := hrel
      clear HST hmk
      by_cases hlt : k < 128
      · obtain ⟨hq, hTk⟩ := HTk.out k hlt
        obtain ⟨v0, c1⟩ : ∃ v, wr.cell? ⟨w.heap.size, k, none⟩ = some v := by
          rw [cell_of_row _ _ _ _ _ _ hG]; exact ⟨_, Array.getElem?_eq_getElem (by rw [hv_size, padTo_length (by simp; omega)]; omega)⟩
        have f1 : wr.frozen? ⟨w.heap.size, k, none⟩ = false := frozen_of_row _ _ _ _ _ hG
        have HN : Hid (Below w.heap.size w (wr.setCell ⟨w.heap.size, k, none⟩ (.int .u8 ((A[k % A.size]'hq).toNat : Int))) ∧ (wr.setCell ⟨w.heap.size, k, none⟩ (.int .u8 ((A[k % A.size]'hq).toNat : Int))).heap[w.heap.size]? = some (.cells (hv (padTo 128 (T.take (k + 1)))) 5 (0, 0))) :=
          ⟨hB.setCell (Nat.le_refl _) _, by rw [heap_set_same hG, pad_putB T k _ hTk hTl]⟩
        clear hB hG hTk
        go_wp2
        go_roundw
        case rel => exact ⟨k + 1, by omega, by go_num, HN.out⟩
        case measure => simp [intOf]; omega
      · obtain rfl : k = 128 := by omega
        rw [List.take_of_length_le (by omega), padTo_full hTl] at hG
        have hcv := HC.out wr hG
        have HB : Hid _ := hB
        clear hG hB HC HTk
        go_wp2
        go_ret
        exact ⟨rfl, HB.out⟩
end Go.Proofs.YtalofhnjlmgloaaDoor
