/- Contracts of blocks that are torn, written, kept. -/
import Derived.Test.YtdjjhiamiaialaaDoorKb
namespace Go.Proofs.YtdjjhiamiaialaaDoor
open Go.RowKit

theorem mask1 (x : Int) : bits .and .i64 x 1 = x % 2 := by
  show IntKind.i64.wrap ((BitVec.ofInt 64 x &&& BitVec.ofInt 64 1).toNat : Nat) = _
  rw [BitVec.toNat_and, BitVec.toNat_ofInt, show (BitVec.ofInt 64 1).toNat = 2 ^ 1 - 1 by decide, Nat.and_two_pow_sub_one_eq_mod, IntKind.wrap_i64]
  omega
theorem mask15 (x : Int) : bits .and .i64 x 15 = x % 16 := by
  show IntKind.i64.wrap ((BitVec.ofInt 64 x &&& BitVec.ofInt 64 15).toNat : Nat) = _
  rw [BitVec.toNat_and, BitVec.toNat_ofInt, show (BitVec.ofInt 64 15).toNat = 2 ^ 4 - 1 by decide, Nat.and_two_pow_sub_one_eq_mod, IntKind.wrap_i64]
  omega
theorem zero_by : (Tryd.prog.info? 48).map (fun i => (i.zero, i.size)) = some (some (.agg (hv (List.replicate 128 0))), 128) := by kernel_rfl
theorem info_by : (Tryd.prog.info? 48).map (·.size) = some 128 := by kernel_rfl
/-- While a block is torn. -/
structure InT (w : World) (g : Fin 128 → UInt8) (T : List UInt8) (k : Nat) (wr : World) : Prop where
  below : Below w.heap.size w wr
  b0 : wr.heap[w.heap.size]? = some (.cells (hv (txt g)) 48 (0, 0))
  b1 : wr.heap[w.heap.size + 1]? = some (.cells (hv (List.replicate 128 0)) 48 (0, 0))
  b2 : wr.heap[w.heap.size + 1 + 1]? = some (.cells (hv (padTo 128 (T.take k))) 48 (0, 0))
theorem pad_zero (T : List UInt8) (k : Nat) (h : T[k]? = some 0) (hk : T.length = 128) : padTo 128 (T.take (k + 1)) = padTo 128 (T.take k) := by
  have hl : k < T.length := (List.getElem?_eq_some_iff.1 h).1
  rw [List.take_add_one, h]
  unfold padTo
  simp only [Option.toList, List.length_append, List.length_take, Nat.min_eq_left (Nat.le_of_lt hl), List.length_cons, List.length_nil, List.append_assoc]
  congr 1
  rw [show 128 - k = (128 - (k + (0 + 1))) + 1 by omega, List.replicate_succ]
  rfl
theorem pad_put (T : List UInt8) (k : Nat) (b : UInt8) (h : T[k]? = some b) (hk : T.length = 128) : (hv (padTo 128 (T.take k))).setIfInBounds k (.int .u8 (b.toNat : Int)) = hv (padTo 128 (T.take (k + 1))) := by
  have hl : k < T.length := (List.getElem?_eq_some_iff.1 h).1
  have := padTo_set 128 (T.take k) b (by simp; omega)
  rw [List.length_take, Nat.min_eq_left (Nat.le_of_lt hl)] at this
  rw [this, List.take_add_one, h]
  rfl
set_option maxRecDepth 100000 in
theorem torn_any (g : Fin 128 → UInt8) (n : Int) (w : World) : Calls Tryd.prog 49 #[.agg (hv (txt g)), .int .i64 n] w fun e w' => e = .returned (.agg (hv (txt (tornB g n)))) ∧ Below w.heap.size w w' := by
  have hz := (zero_of_info zero_by).1
  obtain ⟨T, hT⟩ : ∃ T, T = txt (tornB g n) := ⟨_, rfl⟩
  have hTl : T.length = 128 := by rw [hT, txt_length]
  have HT : Hid (∀ k : Nat, ∀ h : k < 128, T[k]? = some (if n / 2 ^ (k / 32) % 2 = 1 then g ⟨k, h⟩ else 0)) := fun k h => by rw [hT, txt_getElem _ _ h]; rfl
  have HG : Hid (∀ k : Nat, ∀ h : k < 128, (hv (txt g))[k]? = some (.int .u8 ((g ⟨k, h⟩).toNat : Int))) := fun k h => by
    unfold hv
    rw [List.getElem?_toArray, List.getElem?_map, txt_getElem _ _ h]; rfl
  have z1 : (hv (List.replicate 128 0)).size = 128 := by rw [hv_size, List.length_replicate]
  have z2 : (hv (txt g)).size = 128 := by rw [hv_size, txt_length]
  have HST : Hid (InT w g T 0 (((w.alloc (.cells (hv (txt g)) 48)).alloc (.cells (hv (List.replicate 128 0)) 48)).alloc (.cells (hv (List.replicate 128 0)) 48))) := by
    refine ⟨(((Below.refl _ _).alloc (Nat.le_refl _) _).alloc (by simp) _).alloc (by simp; omega) _, ?_, ?_, ?_⟩
    · rw [Below.heap_alloc _ _ _ (by simp; omega), Below.heap_alloc _ _ _ (by simp)]; exact heap_alloc_last _ _
    · rw [Below.heap_alloc _ _ _ (by simp)]
      have := heap_alloc_last (w.alloc (.cells (hv (txt g)) 48)) (.cells (hv (List.replicate 128 0)) 48)
      simpa using this
    · have := heap_alloc_last ((w.alloc (.cells (hv (txt g)) 48)).alloc (.cells (hv (List.replicate 128 0)) 48)) (.cells (hv (List.replicate 128 0)) 48)
      simpa [padTo] using this
  rw [← hT]
  have n1 : ¬ hv (List.replicate 128 0) = #[] := fun h => by rw [h] at z1; cases z1
  have HZ : Hid ((hv (List.replicate 128 0)).size = 128) := z1
  have HR : Hid (∀ w g k wr, InT w g T k wr → wr.heap[w.heap.size + 1]? = some (.cells (hv (List.replicate 128 0)) 48 (0, 0))) := fun _ _ _ _ h => h.b1
  clear hT
  generalize hv (List.replicate 128 0) = Z at *
  generalize hG : hv (txt g) = G at *
  have HG2 : Hid (∀ w k wr, InT w g T k wr → wr.heap[w.heap.size]? = some (.cells G 48 (0, 0))) := fun _ _ _ h => by rw [← hG]; exact h.b0
  clear hG
  go_enter Tryd.func49, Tryd.ntmps49
  go_wp2
  go_loopw [7] (fun i wr => ∃ k : Nat, k ≤ 128 ∧ i = .int .i64 k ∧ InT w g T k wr) (fun i _ => 128 - (intOf i).toNat)
  case atStart => exact ⟨0, by omega, rfl, HST.out⟩
  case round =>
    obtain ⟨k, hk, rfl, hI⟩ := hrel
    clear HST
    by_cases hlt : k < 128
    · have c0 : wr.cell? ⟨w.heap.size, k, none⟩ = some (.int .u8 ((g ⟨k, hlt⟩).toNat : Int)) := by
        rw [cell_of_row _ _ _ _ _ _ (HG2.out _ _ _ hI)]; exact HG.out k hlt
      obtain ⟨v0, c1⟩ : ∃ v, wr.cell? ⟨w.heap.size + 1 + 1, k, none⟩ = some v := by
        rw [cell_of_row _ _ _ _ _ _ hI.b2]; exact ⟨_, Array.getElem?_eq_getElem (by rw [hv_size, padTo_length (by simp; omega)]; omega)⟩
      have f1 : wr.frozen? ⟨w.heap.size + 1 + 1, k, none⟩ = false := frozen_of_row _ _ _ _ _ hI.b2
      have HI : Hid (InT w g T k wr) := hI
      have HTk := HT.out k hlt
      by_cases hb : n / 2 ^ (k / 32) % 2 = 1
      · rw [if_pos hb] at HTk
        have e : (bits BinOp.and IntKind.i64 (n / 2 ^ (k / 32)) 1 == 1) = true := by rw [mask1, hb]; rfl
        have HB : Hid (T[k]? = some (g ⟨k, hlt⟩)) := HTk
        clear hb HTk hI
        go_wp2
        go_roundw
        case rel =>
          have hI := HI.out
          refine ⟨k + 1, by omega, by go_num, ⟨hI.below.setCell (by show w.heap.size ≤ w.heap.size + 1 + 1; omega) _, ?_, ?_, ?_⟩⟩
          · rw [Below.heap_setCell _ _ _ _ (by show _ ≠ w.heap.size + 1 + 1; omega)]; exact hI.b0
          · rw [Below.heap_setCell _ _ _ _ (by show _ ≠ w.heap.size + 1 + 1; omega)]; exact hI.b1
          · rw [heap_set_same hI.b2, pad_put T k _ HB.out hTl]
        case measure => simp [intOf]; omega
      · rw [if_neg hb] at HTk
        have e : (bits BinOp.and IntKind.i64 (n / 2 ^ (k / 32)) 1 == 1) = false := by rw [mask1, beq_eq_false_iff_ne]; exact hb
        have HB : Hid (T[k]? = some 0) := HTk
        clear hb HTk hI
        go_wp2
        go_roundw
        case rel =>
          have hI := HI.out
          exact ⟨k + 1, by omega, by go_num, ⟨hI.below, hI.b0, hI.b1, by rw [pad_zero T k HB.out hTl]; exact hI.b2⟩⟩
        case measure => simp [intOf]; omega
    · obtain rfl : k = 128 := by omega
      have b2 : Hid (wr.heap[w.heap.size + 1 + 1]? = some (.cells (hv T) 48 (0, 0))) := by
        have := hI.b2
        rw [List.take_of_length_le (by omega), padTo_full hTl] at this; exact this
      have b1 : Hid (wr.heap[w.heap.size + 1]? = some (.cells Z 48 (0, 0))) := HR.out _ _ _ _ hI
      have hbe : Hid (Below w.heap.size w wr) := hI.below
      have e1 : (hv T).size = 128 := by rw [hv_size, hTl]
      have e2 := hv_one T
      clear hI HT
      generalize hE : hv T = E at *
      have HE : Hid (hv T = E) := hE
      clear hE
      go_wp2_with (first | (refine wpList_load_row rfl 48 _ rfl (w.heap.size + 1 + 1) rfl _ E (0, 0) _ b2.out Tryd.underlying48 rfl (by rw [info_by, e1]) ?_) | (refine wpList_store_row rfl 48 _ _ rfl (w.heap.size + 1) E rfl rfl _ Z b1.out (by rw [info_by, e1]) (by rw [HZ.out, e1]) e2 ?_))
      refine bodyPost_ret (v := .agg E) (results_cell1 (p := 4) Tryd.results49 _ _ (w.heap.size + 1) 128 48 5 E (0, 0) rfl (heap_setRow_same b1.out) Tryd.underlying48 info_by e1) rfl ⟨by rw [HE.out], below_setRow hbe.out (by omega) _⟩
theorem zero_bk : (Tryd.prog.info? 50).map (fun i => (i.zero, i.size)) = some (some (.agg (bc blank).toArray), 129) := by kernel_rfl
theorem info_bk : (Tryd.prog.info? 50).map (·.size) = some 129 := by kernel_rfl
theorem zero_wr : (Tryd.prog.info? 63).map (fun i => (i.zero, i.size)) = some (some (.agg (bc blank).toArray), 129) := by kernel_rfl
theorem info_wr : (Tryd.prog.info? 63).map (·.size) = some 129 := by kernel_rfl
theorem bcA_size (b : Blk) : (bc b).toArray.size = 129 := by rw [List.size_toArray, bc_length]
theorem bcA_one (b : Blk) : (bc b).toArray.all (·.oneCell') = true := by
  rw [Array.all_eq_true_iff_forall_mem]
  intro v hv
  exact bc_one b v (by simpa using hv)
theorem blank_one : ((bc blank).toArray.setIfInBounds 0 (.int .i64 1)) = (bc ⟨1, fun _ => 0⟩).toArray := by kernel_rfl
theorem copy_cells (s : Nat) (g : Fin 128 → UInt8) (l : List UInt8) (h : l.length = 128) : ((bc ⟨s, g⟩).toArray.toList.take 1 ++ (hv (l.take 128)).toList ++ (bc ⟨s, g⟩).toArray.toList.drop (1 + 128)).toArray = (bc ⟨s, ofT l⟩).toArray := by
  rw [List.drop_of_length_le (by show (bc ⟨s, g⟩).length ≤ _; rw [bc_length]; omega), List.append_nil, List.take_of_length_le (l := l) (by omega)]
  show ([Value.int .i64 (s : Int)] ++ (hv l).toList).toArray = _
  unfold bc
  rw [txt_ofT l h]
  rfl
/-- A store into the block made last, one being made ahead of it. -/
theorem store_new {P : Program} (w : World) (o : Obj) (Z Y : Array Value) (t : TypeId) (hs : Y.size = Z.size) (h1 : Y.all (·.oneCell') = true) : (storeCells ⟨w.heap.size + 1, 0, none⟩ Y.toList).run P ((w.alloc o).alloc (.cells Z t)) = .ok () ((w.alloc o).alloc (.cells Y t)) := by
  have e := heap_alloc_last (w.alloc o) (.cells Z t)
  have h := storeTo (P := P) ((w.alloc o).alloc (.cells Z t)) (w.alloc o).heap.size 0 Y Z Y t e (by omega) h1 (by rw [List.drop_of_length_le (by rw [Array.length_toList]; omega)]; simp)
  rw [World.setRow_alloc_new] at h
  simpa using h
set_option maxRecDepth 100000 in
theorem written_any (l : List UInt8) (hl : l.length = 128) (w : World) : Calls Tryd.prog 23 #[.string (S l)] w fun e w' => e = .returned (.agg (bc ⟨1, ofT l⟩).toArray) ∧ Below w.heap.size w w' := by
  have hz := (zero_of_info zero_bk).1
  have z1 : (bc blank).toArray.size = 129 := bcA_size _
  have hne : ¬ (bc blank).toArray = #[] := fun h => by rw [h] at z1; cases z1
  have e1 := blank_one
  have HC : Hid _ := copy_cells 1 (fun _ => 0) l hl
  have s1 : (bc ⟨1, fun _ => 0⟩).toArray.size = 129 := bcA_size _
  have s2 : (bc ⟨1, ofT l⟩).toArray.size = 129 := bcA_size _
  have o1 : (bc ⟨1, fun _ => 0⟩).toArray.all (·.oneCell') = true := bcA_one _
  have o2 : (bc ⟨1, ofT l⟩).toArray.all (·.oneCell') = true := bcA_one _
  generalize (bc blank).toArray = Z at *
  generalize (bc ⟨1, fun _ => 0⟩).toArray = Y at *
  generalize (bc ⟨1, ofT l⟩).toArray = X at *
  have hS := store_new (P := Tryd.prog) w (.cells Z 50) Z Y 50 (by omega) o1
  have g1 : ((w.alloc (.cells Z 50)).alloc (.cells Y 50)).heap[w.heap.size + 1]? = some (.cells Y 50 (0, 0)) := by
    have := heap_alloc_last (w.alloc (.cells Z 50)) (.cells Y 50)
    simpa using this
  have g2 : ((w.alloc (.cells Z 50)).alloc (.cells X 50)).heap[w.heap.size + 1]? = some (.cells X 50 (0, 0)) := by
    have := heap_alloc_last (w.alloc (.cells Z 50)) (.cells X 50)
    simpa using this
  have g3 : ((w.alloc (.cells Z 50)).alloc (.cells X 50)).heap[w.heap.size]? = some (.cells Z 50 (0, 0)) := by
    rw [Below.heap_alloc _ _ _ (by simp)]; exact heap_alloc_last _ _
  have hcp := run_copy_string_min (P := Tryd.prog) _ 45 9 3 5 (w.heap.size + 1) 1 128 128 l Y X _ Tryd.underlying45 (by kernel_rfl) g1 128 (by rw [hl]; rfl) (by omega) HC.out
  have hsr : ((w.alloc (.cells Z 50)).alloc (.cells Y 50)).setRow (w.heap.size + 1) X = (w.alloc (.cells Z 50)).alloc (.cells X 50) := by
    have := World.setRow_alloc_new (w.alloc (.cells Z 50)) Y X 50
    simpa using this
  rw [hsr] at hcp
  have hgo : goInt ((128 : Nat) : Int) = .int .i64 128 := rfl
  rw [hgo] at hcp
  have G2 : Hid _ := g2
  have G3 : Hid _ := g3
  have HB : Hid (Below w.heap.size w ((w.alloc (.cells Z 50)).alloc (.cells X 50))) := ((Below.refl _ _).alloc (Nat.le_refl _) _).alloc (by simp) _
  have HS : Hid (Z.size = 129) := z1
  clear g1 g2 g3 hsr hgo HC o1
  go_enter Tryd.func23, Tryd.ntmps23
  go_wp2_with (first | (refine wpList_load_row rfl 50 _ rfl (w.heap.size + 1) rfl _ X (0, 0) _ G2.out Tryd.underlying50 rfl (by rw [info_bk, s2]) ?_) | (refine wpList_store_row rfl 50 _ _ rfl w.heap.size X rfl rfl _ Z G3.out (by rw [info_bk, s2]) (by rw [HS.out, s2]) o2 ?_))
  refine bodyPost_ret (v := .agg X) (results_cell_row Tryd.results23 _ _ w.heap.size _ X (0, 0) _ rfl (heap_setRow_same G3.out) Tryd.underlying50 rfl (by rw [info_bk, s2])) rfl ⟨rfl, below_setRow HB.out (Nat.le_refl _) _⟩
end Go.Proofs.YtdjjhiamiaialaaDoor
