/- The laws' helpers: lists that are compared, a text of 128 bytes. -/
import Derived.Test.YthlaackalmgfnaaDq
import Derived.Deep.QuietTactic
namespace Go.Proofs.Ythlaackalmgfnaa
open Go.RowKit

theorem IntsAt.cellOf {w : World} {a : Option Addr} {n c : Nat} {l : List Int} (h : IntsAt w (.slice a n c) l) : n = l.length ∧ ∀ i x, l[i]? = some x → ∃ b o, a = some ⟨b, o, none⟩ ∧ ∀ w', Below w.heap.size w w' → w'.cell? ⟨b, o + i, none⟩ = some (.int .i64 x) := by
  obtain ⟨a', c', e, h⟩ := h
  simp at e
  obtain ⟨rfl, rfl, rfl⟩ := e
  refine ⟨rfl, fun i x hi => ?_⟩
  obtain ⟨b, o, rfl, hc⟩ := h i x hi
  refine ⟨b, o, rfl, fun w' hb => ?_⟩
  have hlt := World.block_lt_of_cell? w _ hc
  rw [World.cell?_of_block (hb.block b hlt)]
  exact hc
set_option maxRecDepth 100000 in
theorem ints_cmp {w : World} {v1 v2 : Value} {l1 l2 : List Int} (h1 : IntsAt w v1 l1) (h2 : IntsAt w v2 l2) (hl : l1.length ≤ 1000000) : Calls Try.prog 14 #[v1, v2] w fun e w' => e = .returned (.bool (decide (l1 = l2))) ∧ Below w.heap.size w w' := by
  obtain ⟨a1, q1, rfl, -⟩ := id h1
  obtain ⟨a2, q2, rfl, -⟩ := id h2
  have H1 : Hid _ := h1.cellOf.2
  have H2 : Hid _ := h2.cellOf.2
  clear h1 h2
  by_cases hlen : l1.length = l2.length
  · obtain ⟨r, hr⟩ : ∃ r, decide (l1 = l2) = r := ⟨_, rfl⟩
    rw [hr]
    have HR : Hid (decide (l1 = l2) = r) := hr
    clear hr
    have HL : Hid (l1.length = l2.length) := hlen
    rw [← hlen]
    have hne : ((l1.length : Int) != (l1.length : Int)) = false := by simp
    clear hlen
    go_enter Try.func14, Try.ntmps14
    go_wp2
    go_loopw [5] (fun i wr => ∃ k : Nat, k ≤ l1.length ∧ i = .int .i64 k ∧ l1.take k = l2.take k ∧ Below w.heap.size w wr) (fun i _ => l1.length - (intOf i).toNat)
    case atStart => exact ⟨0, Nat.zero_le _, rfl, rfl, Below.refl _ _⟩
    case round =>
      obtain ⟨k, hk, rfl, ht, hB⟩ := hrel
      by_cases hlt : k < l1.length
      · have hlt' : k < l2.length := by have := HL.out; omega
        obtain ⟨x, hx⟩ : ∃ x, l1[k]? = some x := ⟨_, List.getElem?_eq_getElem hlt⟩
        obtain ⟨y, hy⟩ : ∃ y, l2[k]? = some y := ⟨_, List.getElem?_eq_getElem hlt'⟩
        obtain ⟨b1, o1, rfl, k1⟩ := H1.out k x hx
        obtain ⟨b2, o2, rfl, k2⟩ := H2.out k y hy
        have c1 := k1 wr hB
        have c2 := k2 wr hB
        have hlt2 : (k : Int) < (l1.length : Int) := by omega
        have HN : Hid (x = y → l1.take (k + 1) = l2.take (k + 1)) := fun e => by
          rw [List.take_add_one, List.take_add_one, hx, hy, ht, e]
        have HF : Hid (¬ x = y → r = false) := fun hne => by
          show _ = _
          rw [← HR.out]
          refine decide_eq_false fun e => hne ?_
          rw [e, hy] at hx
          simpa using hx.symm
        have HB : Hid (Below w.heap.size w wr) := hB
        clear hx hy ht hB k1 k2 HR
        by_cases hxy : x = y
        · subst hxy
          have HN2 : Hid (l1.take (k + 1) = l2.take (k + 1)) := HN.out rfl
          clear HN
          have e1 : (x != x) = false := by simp
          go_wp2
          go_quiet (fail)
          have HBq : Hid (Below w.heap.size w (wr.drewN nq)) := below_drewN HB.out _
          generalize wr.drewN nq = wx at *
          go_wp2
          go_roundw
          case rel => exact ⟨k + 1, by omega, by go_num, HN2.out, HBq.out⟩
          case measure => simp [intOf]; omega
        · have e1 : (x != y) = true := by simpa using hxy
          have HFF : Hid (r = false) := HF.out hxy
          clear HF
          go_wp2
          go_quiet (fail)
          have HBq : Hid (Below w.heap.size w (wr.drewN nq)) := below_drewN HB.out _
          generalize wr.drewN nq = wx at *
          go_wp2
          go_ret
          exact ⟨by rw [HFF.out]; rfl, HBq.out⟩
      · obtain rfl : k = l1.length := by omega
        have HT : Hid (r = true) := by
          show _ = _
          rw [← HR.out]
          refine decide_eq_true ?_
          have := ht
          rwa [List.take_of_length_le (Nat.le_refl _), HL.out, List.take_of_length_le (Nat.le_refl _)] at this
        have HB : Hid _ := hB
        clear ht hB HR
        go_wp2
        go_ret
        exact ⟨by rw [HT.out]; rfl, HB.out⟩
  · rw [decide_eq_false (fun e => hlen (by rw [e]))]
    have hne : ¬ (l1.length : Int) = (l2.length : Int) := by omega
    clear hlen
    go_enter Try.func14, Try.ntmps14
    go_wp2
    go_ret
    exact ⟨rfl, Below.refl _ _⟩
/-- A text over and over, 128 bytes of it. -/
def blockT (s : List UInt8) : List UInt8 := (List.range 128).map fun i => if s = [] then 0 else s.getD (i % s.length) 0
theorem blockT_len (s : List UInt8) : (blockT s).length = 128 := by simp [blockT]
theorem blockT_nil : blockT [] = List.replicate 128 0 := by kernel_rfl
theorem mk_by (w : World) : (Instr.makeSlice 71 (.int .i64 128) (.int .i64 128)).run Try.prog w = .ok (.slice (some ⟨w.heap.size, 0, none⟩) 128 128) (w.alloc (.cells (hv (List.replicate 128 0)) 5)) := by
  have h := run_make_row' (P := Try.prog) 71 5 (.int .u8 0) 1 Try.underlying71 (by kernel_rfl) rfl .i64 .i64 128 (by omega) (by omega) w
  have e : madeCells #[Value.int .u8 0] 128 = hv (List.replicate 128 0) := by kernel_rfl
  rw [e] at h
  exact h
set_option maxRecDepth 100000 in
theorem block_any (s : List UInt8) (w : World) : Calls Try.prog 20 #[.string (S s)] w fun e w' => e = .returned (.string (S (blockT s))) ∧ Below w.heap.size w w' := by
  have hmk := mk_by w
  have HST : Hid (Below w.heap.size w (w.alloc (.cells (hv (List.replicate 128 0)) 5)) ∧ (w.alloc (.cells (hv (List.replicate 128 0)) 5)).heap[w.heap.size]? = some (.cells (hv (padTo 128 ((blockT s).take 0))) 5 (0, 0))) := ⟨(Below.refl _ _).alloc (Nat.le_refl _) _, by simpa [padTo] using heap_alloc_last w _⟩
  obtain ⟨T, hT⟩ : ∃ T, blockT s = T := ⟨_, rfl⟩
  have hTl : T.length = 128 := by rw [← hT, blockT_len]
  rw [hT] at HST ⊢
  have HC : Hid (∀ (wr : World), wr.heap[w.heap.size]? = some (.cells (hv T) 5 (0, 0)) → (convert 71 9 (.slice (some ⟨w.heap.size, 0, none⟩) 128 128)).run Try.prog wr = .ok (.string (S T)) wr) := fun wr h => by
    have := conv_row T wr w.heap.size 128 _ _ h
    rwa [hTl] at this
  by_cases hs : s = []
  · subst hs
    have HZ : Hid (hv (List.replicate 128 0) = hv T) := by show _ = _; rw [← hT, blockT_nil]
    have hb : ((w.alloc (.cells (hv T) 5))).heap[w.heap.size]? = some (.cells (hv T) 5 (0, 0)) := heap_alloc_last _ _
    have hcv := HC.out _ hb
    have HB : Hid (Below w.heap.size w (w.alloc (.cells (hv T) 5))) := (Below.refl _ _).alloc (Nat.le_refl _) _
    rw [HZ.out] at hmk
    have he : S ([] : List UInt8) = ⟨#[]⟩ := rfl
    clear hb HC HST HZ hT
    generalize hv T = G at *
    rw [he]
    go_enter Try.func20, Try.ntmps20
    go_wp2
    go_loopw [4] (fun i wr => i = .int .i64 0 ∧ wr = w.alloc (.cells G 5)) (fun i _ => 0)
    case atStart => exact ⟨rfl, rfl⟩
    case round =>
      obtain ⟨rfl, rfl⟩ := hrel
      go_wp2
      go_ret
      exact ⟨rfl, HB.out⟩
  · have hpos : 0 < s.length := List.length_pos_iff.2 hs
    have HTk : Hid (∀ k, k < 128 → ∃ h : k % (S s).size < (S s).size, T[k]? = some ((S s)[k % (S s).size]'h)) := fun k hk => by
      refine ⟨by rw [S_size]; exact Nat.mod_lt _ hpos, ?_⟩
      rw [← hT]
      unfold blockT
      rw [List.getElem?_map, List.getElem?_range hk]
      simp only [Option.map_some, if_neg hs, S_size]
      congr 1
      rw [List.getD_eq_getElem?_getD, List.getElem?_eq_getElem (Nat.mod_lt _ hpos)]
      rfl
    have hsz : 0 < (S s).size := by rw [S_size]; exact hpos
    have hne : (S s).toList.isEmpty = false := by rw [toList_S]; cases s with | nil => exact absurd rfl hs | cons a l => rfl
    clear hT hs hpos
    generalize S s = A at *
    generalize hv (List.replicate 128 0) = Z at *
    go_enter Try.func20, Try.ntmps20
    go_wp2
    go_loopw [4] (fun i wr => ∃ k : Nat, k ≤ 128 ∧ i = .int .i64 k ∧ Below w.heap.size w wr ∧ wr.heap[w.heap.size]? = some (.cells (hv (padTo 128 (T.take k))) 5 (0, 0))) (fun i _ => 128 - (intOf i).toNat)
    case atStart => exact ⟨0, by omega, rfl, HST.out⟩
    case round =>
      obtain ⟨k, hk, rfl, hB, hG⟩ := hrel
      clear HST hmk
      by_cases hlt : k < 128
      · obtain ⟨hq, hTk⟩ := HTk.out k hlt
        obtain ⟨v0, c1⟩ : ∃ v, wr.cell? ⟨w.heap.size, k, none⟩ = some v := by
          rw [cell_of_row _ _ _ _ _ _ hG]; exact ⟨_, Array.getElem?_eq_getElem (by rw [hv_size, padTo_length (by simp; omega)]; omega)⟩
        have f1 : wr.frozen? ⟨w.heap.size, k, none⟩ = false := frozen_of_row _ _ _ _ _ hG
        have HN : Hid (Below w.heap.size w (wr.setCell ⟨w.heap.size, k, none⟩ (.int .u8 ((A[k % A.size]'hq).toNat : Int))) ∧ (wr.setCell ⟨w.heap.size, k, none⟩ (.int .u8 ((A[k % A.size]'hq).toNat : Int))).heap[w.heap.size]? = some (.cells (hv (padTo 128 (T.take (k + 1)))) 5 (0, 0))) :=
          ⟨hB.setCell (Nat.le_refl _) _, by rw [heap_set_same hG, pad_put T k _ hTk hTl]⟩
        clear hB hG hTk
        go_wp2
        go_roundw
        case rel => exact ⟨k + 1, by omega, by go_num, HN.out⟩
        case measure => simp [intOf]; omega
      · obtain rfl : k = 128 := by omega
        rw [List.take_of_length_le (by omega), padTo_full hTl] at hG
        have hcv := HC.out wr hG
        have HB : Hid _ := hB
        clear hG hB HC HTk
        go_wp2
        go_ret
        exact ⟨rfl, HB.out⟩
end Go.Proofs.Ythlaackalmgfnaa
