/- Contracts of the law's own some() and does() (layer 5): the chapter's examples. -/
import Derived.Test.YtcbmcbcpclgciaaDoorFi
import Derived.Deep.RegionHeld3
namespace Go.Proofs.YtcbmcbcpclgciaaDoor
open Go.RowKit

/-- The chapter's frame, its block. -/
def exF : Fr := ⟨80, 1, 2, [97, 98]⟩
def exB : List UInt8 := encL exF
theorem exF_ok : encE exF = 0 := by decide
theorem exB_len : exB.length = 128 := encL_length exF_ok
set_option maxRecDepth 100000 in
theorem exB_head : cut exB 0 8 = [80, 0, 0, 0, 1, 0, 2, 2] := by kernel_rfl
set_option maxRecDepth 100000 in
theorem exB_data : cut exB 12 2 = [97, 98] := by kernel_rfl
theorem exB_mark (j : Nat) (hj : j < 4) : exB[32 * j + 31]? = some 165 := by
  have := enc_marks exF_ok j hj
  unfold markB at this
  simpa [exB] using this
theorem exB_dec : decF exB = exF ∧ decE exB = 0 ∧ lackB exB = false := ⟨(dec_enc exF_ok).2, decE_ok.2 (dec_enc exF_ok).1, enc_whole exF_ok⟩
/-- It with zeros in its second part. -/
def exT : List UInt8 := cut exB 0 32 ++ List.replicate 32 0 ++ cut exB 64 64
theorem exT_len : exT.length = 128 := by simp [exT, cut_length exB 0 32 (by rw [exB_len]; omega), cut_length exB 64 64 (by rw [exB_len]; omega)]
theorem exT_lack : lackB exT = true := by
  refine torn_of exT_len (j := 1) (by omega) ?_
  unfold markB exT
  rw [List.append_assoc, List.getElem?_append_right (by rw [cut_length exB 0 32 (by rw [exB_len]; omega)]; omega), cut_length exB 0 32 (by rw [exB_len]; omega), List.getElem?_append_left (by simp)]
  rfl
theorem exT_dec : decE exT = 10 := by unfold decE; rw [torn_none exT_lack]; rfl
theorem exS_len : (cut exB 0 127).length = 127 := cut_length _ _ _ (by rw [exB_len]; omega)
theorem exS_dec : decE (cut exB 0 127) = 10 ∧ lackB (cut exB 0 127) = false := by
  have h : ¬ (cut exB 0 127).length = 128 := by rw [exS_len]; omega
  refine ⟨?_, by simp [lackB, h]⟩
  unfold decE
  rw [show decB (cut exB 0 127) = false by simp [decB, h]]; rfl
theorem exZ_lack : lackB (List.replicate 128 0) = true := by
  refine torn_of (by simp) (j := 0) (by omega) ?_
  unfold markB
  rw [List.getElem?_replicate, if_pos (by omega)]; rfl
theorem TS.start2 {w w2 : World} {k e i : Int} {D : ByteArray} {t : TypeId} (hT : Tab w2) (hT4 : Tab4 w2) (hb : Below w.heap.size w w2) : TS w w2.heap.size k e i D (w2.alloc (.cells #[.int .u8 k, .int .i64 e, .int .i64 i, .string D] t)) :=
  have h := TS.start (k := k) (e := e) (i := i) (D := D) (t := t) hT hT4
  ⟨h.c0, h.c1, h.c2, h.c3, h.tab, h.tab4, hb.trans (h.below.mono hb.size), h.lt, Nat.le_trans hb.size h.size⟩
theorem some_any (w : World) : Calls Tryd.prog 23 #[] w fun e w' => e = .returned (.agg #[.int .u8 80, .int .i64 1, .int .i64 2, .string ⟨#[97, 98]⟩]) ∧ Below w.heap.size w w' := by
  go_enter Tryd.func23, Tryd.ntmps23
  go_wp2
  exact bodyPost_ret (v := .agg #[.int .u8 80, .int .i64 1, .int .i64 2, .string ⟨#[97, 98]⟩]) (results_cell_row Tryd.results23 _ _ w.heap.size _ _ (0, 0) _ rfl (heap_alloc_last w _) Tryd.underlying23 rfl info_fr) rfl ⟨rfl, (Below.refl _ _).alloc (Nat.le_refl _) _⟩
theorem made_hv (n : Nat) : madeCells #[Value.int .u8 0] n = hv (List.replicate n 0) := by
  rw [zero_cells]
  apply Array.ext
  · simp [madeCells]
  · intro i h1 h2
    simp [madeCells, Nat.mod_one]
theorem mkZ (n : Nat) (hn : n ≤ 1000) (W : World) : (Instr.makeSlice 33 (.int .i64 (n : Int)) (.int .i64 (n : Int))).run Tryd.prog W = .ok (.slice (some ⟨W.heap.size, 0, none⟩) n n) (W.alloc (.cells (hv (List.replicate n 0)) 5)) := by
  have := mkN n (by omega) W
  rwa [made_hv] at this
theorem cvZ (n : Nat) (w : World) (g : Nat) (h : w.heap[g]? = some (.cells (hv (List.replicate n 0)) 5 (0, 0))) : (convert 33 9 (.slice (some ⟨g, 0, none⟩) n n)).run Tryd.prog w = .ok (.string (S (List.replicate n 0))) w := by
  have := conv_row (List.replicate n 0) w g n _ _ h
  rwa [List.length_replicate] at this
theorem get_bytes (l : List UInt8) (i : Nat) (b : UInt8) (h : l[i]? = some b) (hi : i < (S l).size) : (((S l)[i]'hi).toNat : Int) = (b.toNat : Int) := by
  have hl : i < l.length := by rw [S_size] at hi; exact hi
  rw [List.getElem?_eq_getElem hl] at h
  have e : ((S l)[i]'hi) = l[i] := rfl
  rw [e, Option.some.inj h]
set_option maxRecDepth 100000 in
set_option maxHeartbeats 4000000 in
set_option linter.unusedSimpArgs false in
theorem fdoes_any (w : World) (hT : Tab w) (hT4 : Tab4 w) : Calls Tryd.prog 11 #[] w fun e w' => e = .returned (.bool true) ∧ Below w.heap.size w w' := by
  have HSo : Hid (∀ w : World, Calls Tryd.prog 23 #[] w fun e w' => e = .returned (.agg #[.int .u8 80, .int .i64 1, .int .i64 2, .string ⟨#[97, 98]⟩]) ∧ Below w.heap.size w w') := some_any
  have HEn : Hid (∀ w : World, Tab w → Tab4 w → Calls Tryd.prog 9 #[.agg #[.int .u8 80, .int .i64 1, .int .i64 2, .string ⟨#[97, 98]⟩]] w fun e w' => e = .returned (.tuple #[.string (S exB), .int .i64 0]) ∧ Below w.heap.size w w') := fun w h h4 => by
    have := encode_any exF w h h4
    rw [exF_ok] at this
    exact this
  have HDe : Hid (∀ w : World, Tab w → Tab4 w → Calls Tryd.prog 12 #[.string (S exB)] w fun e w' => e = .returned (.tuple #[.agg #[.int .u8 80, .int .i64 1, .int .i64 2, .string ⟨#[97, 98]⟩], .int .i64 0]) ∧ Below w.heap.size w w') := fun w h h4 => by
    have := decode_any exB w h h4
    rw [exB_dec.1, exB_dec.2.1] at this
    exact this
  have HL0 : Hid (∀ w : World, Calls Tryd.prog 14 #[.string (S exB)] w fun e w' => e = .returned (.bool false) ∧ Below w.heap.size w w') := fun w => by
    have := lack_any exB w
    rwa [exB_dec.2.2] at this
  obtain ⟨V1, hV1⟩ : ∃ V, frV (decF exT) = V := ⟨_, rfl⟩
  obtain ⟨V2, hV2⟩ : ∃ V, frV (decF (cut exB 0 127)) = V := ⟨_, rfl⟩
  have HD1 : Hid (∀ w : World, Tab w → Tab4 w → Calls Tryd.prog 12 #[.string (S exT)] w fun e w' => e = .returned (.tuple #[.agg #[.int .u8 0, .int .i64 0, .int .i64 0, .string ⟨#[]⟩], .int .i64 10]) ∧ Below w.heap.size w w') := fun w h h4 => by
    have := decode_any exT w h h4
    rw [(dec_no (torn_none exT_lack)).1, exT_dec] at this
    exact this
  have HD2 : Hid (∀ w : World, Tab w → Tab4 w → Calls Tryd.prog 12 #[.string (S (cut exB 0 127))] w fun e w' => e = .returned (.tuple #[.agg #[.int .u8 0, .int .i64 0, .int .i64 0, .string ⟨#[]⟩], .int .i64 10]) ∧ Below w.heap.size w w') := fun w h h4 => by
    have hno : decB (cut exB 0 127) = false := by
      have := exS_dec.1
      unfold decE at this
      cases hd : decB (cut exB 0 127) with
      | false => rfl
      | true => rw [hd] at this; simp at this
    have := decode_any (cut exB 0 127) w h h4
    rw [(dec_no hno).1, exS_dec.1] at this
    exact this
  have HL1 : Hid (∀ w : World, Calls Tryd.prog 14 #[.string (S exT)] w fun e w' => e = .returned (.bool true) ∧ Below w.heap.size w w') := fun w => by
    have := lack_any exT w
    rwa [exT_lack] at this
  have HL2 : Hid (∀ w : World, Calls Tryd.prog 14 #[.string (S (cut exB 0 127))] w fun e w' => e = .returned (.bool false) ∧ Below w.heap.size w w') := fun w => by
    have := lack_any (cut exB 0 127) w
    rwa [exS_dec.2] at this
  have HL3 : Hid (∀ w : World, Calls Tryd.prog 14 #[.string (S (List.replicate 128 0))] w fun e w' => e = .returned (.bool true) ∧ Below w.heap.size w w') := fun w => by
    have := lack_any (List.replicate 128 0) w
    rwa [exZ_lack] at this
  have hsz : (S exB).size = 128 := by rw [S_size, exB_len]
  have h31 : 31 < (S exB).size := by omega
  have h127 : 127 < (S exB).size := by omega
  have q31 : (((S exB)[31]'h31).toNat : Int) = 165 := get_bytes exB 31 165 (exB_mark 0 (by omega)) h31
  have q127 : (((S exB)[127]'h127).toNat : Int) = 165 := get_bytes exB 127 165 (exB_mark 3 (by omega)) h127
  have x8 : (S exB).extract 0 8 = ⟨#[80, 0, 0, 0, 1, 0, 2, 2]⟩ := by rw [S_ext, exB_head]; rfl
  have x12 : (S exB).extract 12 14 = ⟨#[97, 98]⟩ := by rw [S_ext, exB_data]; rfl
  have x32 : (S exB).extract 0 32 = S (cut exB 0 32) := by rw [S_ext]
  have x64 : (S exB).extract 64 128 = S (cut exB 64 64) := by rw [S_ext]
  have x127 : (S exB).extract 0 127 = S (cut exB 0 127) := by rw [S_ext]
  have y32 : (S (cut exB 0 32)).size = 32 := by rw [S_size, cut_length exB 0 32 (by rw [exB_len]; omega)]
  have y64 : (S (cut exB 64 64)).size = 64 := by rw [S_size, cut_length exB 64 64 (by rw [exB_len]; omega)]
  have yz : (S (List.replicate 32 0)).size = 32 := by rw [S_size, List.length_replicate]
  have HTx : Hid (S (cut exB 0 32) ++ S (List.replicate 32 0) ++ S (cut exB 64 64) = S exT) := by show _ = _; rw [S_append, S_append]; rfl
  have hmk : ∀ W : World, (Instr.makeSlice 33 (.int .i64 32) (.int .i64 32)).run Tryd.prog W = .ok (.slice (some ⟨W.heap.size, 0, none⟩) 32 32) (W.alloc (.cells (hv (List.replicate 32 0)) 5)) := fun W => mkZ 32 (by omega) W
  have hmk2 : ∀ W : World, (Instr.makeSlice 33 (.int .i64 128) (.int .i64 128)).run Tryd.prog W = .ok (.slice (some ⟨W.heap.size, 0, none⟩) 128 128) (W.alloc (.cells (hv (List.replicate 128 0)) 5)) := fun W => mkZ 128 (by omega) W
  have hcv : ∀ W : World, (convert 33 9 (.slice (some ⟨W.heap.size, 0, none⟩) 32 32)).run Tryd.prog (W.alloc (.cells (hv (List.replicate 32 0)) 5)) = .ok (.string (S (List.replicate 32 0))) (W.alloc (.cells (hv (List.replicate 32 0)) 5)) := fun W => cvZ 32 _ _ (heap_alloc_last _ _)
  have hcv2 : ∀ W : World, (convert 33 9 (.slice (some ⟨W.heap.size, 0, none⟩) 128 128)).run Tryd.prog (W.alloc (.cells (hv (List.replicate 128 0)) 5)) = .ok (.string (S (List.replicate 128 0))) (W.alloc (.cells (hv (List.replicate 128 0)) 5)) := fun W => cvZ 128 _ _ (heap_alloc_last _ _)
  clear hV1 hV2 V1 V2
  generalize S exB = A at *
  generalize S exT = T at *
  generalize S (cut exB 0 127) = A1 at *
  generalize S (cut exB 0 32) = P1 at *
  generalize S (cut exB 64 64) = P2 at *
  generalize S (List.replicate 32 0) = Z1 at *
  generalize S (List.replicate 128 0) = Z2 at *
  generalize hv (List.replicate 32 0) = C1 at *
  generalize hv (List.replicate 128 0) = C2 at *
  go_enter Tryd.func11, Tryd.ntmps11
  go_wp2_with fail
  refine (HSo.out _).mono ?_
  rintro e w1 ⟨rfl, b1⟩
  go_wp2_with fail
  refine (HEn.out _ (hT.below b1) (hT4.below b1 hT4.lt)).mono ?_
  rintro e w2 ⟨rfl, b2⟩
  have b2 := b1.trans (b2.mono b1.size)
  go_wp2_with fail
  refine (HDe.out _ (hT.below b2) (hT4.below b2 hT4.lt)).mono ?_
  rintro e w3 ⟨rfl, b3⟩
  have b3 := b2.trans (b3.mono b2.size)
  have HX := TS.start2 (k := 80) (e := 1) (i := 2) (D := ⟨#[97, 98]⟩) (t := 23) (hT.below b3) (hT4.below b3 hT4.lt) b3
  clear b1 b2 b3 hT hT4
  go_wp2_with fail
  generalize w3.heap.size = B3 at *
  refine wp_region_held (S := fun w' => TS w B3 80 1 2 ⟨#[97, 98]⟩ w') (by kernel_rfl) ?_
  change wpAnyH _ _ _ _ _ _ _ _ (World.drew _)
  have HX := HX.drew
  generalize World.drew _ = W5 at *
  refine wpAnyH_take (i := 0) (v := .int .i64 0) rfl (by kernel_rfl) (by kernel_rfl) (by kernel_rfl) (fun _ _ _ h => h) (Or.inl ⟨by first | rfl | kernel_rfl, by intro w _; go_simp⟩) HX ?_
  simp only [List.getElem_toArray, List.getElem_cons_succ, List.getElem_cons_zero, Act.put, List.setIfInBounds_toArray, List.set_cons_zero, List.set_cons_succ]
  refine wpAnyH_take (i := 1) (v := .bool false) rfl (by kernel_rfl) (by kernel_rfl) (by kernel_rfl) (fun _ _ _ h => h) (Or.inl ⟨by first | rfl | kernel_rfl, by intro w _; go_simp⟩) HX ?_
  simp only [List.getElem_toArray, List.getElem_cons_succ, List.getElem_cons_zero, Act.put, List.setIfInBounds_toArray, List.set_cons_zero, List.set_cons_succ]
  refine wpAnyH_take (i := 2) (v := .bool false) rfl (by kernel_rfl) (by kernel_rfl) (by kernel_rfl) (fun _ _ _ h => h) (Or.inl ⟨by first | rfl | kernel_rfl, by intro w _; go_simp⟩) HX ?_
  simp only [List.getElem_toArray, List.getElem_cons_succ, List.getElem_cons_zero, Act.put, List.setIfInBounds_toArray, List.set_cons_zero, List.set_cons_succ]
  refine wpAnyH_take (i := 3) (v := .string A) rfl (by kernel_rfl) (by kernel_rfl) (by kernel_rfl) (fun _ _ _ h => h) (Or.inl ⟨by first | rfl | kernel_rfl, by intro w _; go_simp⟩) HX ?_
  simp only [List.getElem_toArray, List.getElem_cons_succ, List.getElem_cons_zero, Act.put, List.setIfInBounds_toArray, List.set_cons_zero, List.set_cons_succ]
  refine wpAnyH_take (i := 4) (v := .int .i64 128) rfl (by kernel_rfl) (by kernel_rfl) (by kernel_rfl) (fun _ _ _ h => h) (Or.inl ⟨by first | rfl | kernel_rfl, by intro w _; go_simp⟩) HX ?_
  simp only [List.getElem_toArray, List.getElem_cons_succ, List.getElem_cons_zero, Act.put, List.setIfInBounds_toArray, List.set_cons_zero, List.set_cons_succ]
  refine wpAnyH_take (i := 5) (v := .bool false) rfl (by kernel_rfl) (by kernel_rfl) (by kernel_rfl) (fun _ _ _ h => h) (Or.inl ⟨by first | rfl | kernel_rfl, by intro w _; go_simp⟩) HX ?_
  simp only [List.getElem_toArray, List.getElem_cons_succ, List.getElem_cons_zero, Act.put, List.setIfInBounds_toArray, List.set_cons_zero, List.set_cons_succ]
  refine wpAnyH_take (i := 6) (v := .bool false) rfl (by kernel_rfl) (by kernel_rfl) (by kernel_rfl) (fun _ _ _ h => h) (Or.inl ⟨by first | rfl | kernel_rfl, by intro w _; go_simp⟩) HX ?_
  simp only [List.getElem_toArray, List.getElem_cons_succ, List.getElem_cons_zero, Act.put, List.setIfInBounds_toArray, List.set_cons_zero, List.set_cons_succ]
  refine wpAnyH_take (i := 7) (v := .bool false) rfl (by kernel_rfl) (by kernel_rfl) (by kernel_rfl) (fun _ _ _ h => h) (Or.inl ⟨by first | rfl | kernel_rfl, by intro w _; go_simp⟩) HX ?_
  simp only [List.getElem_toArray, List.getElem_cons_succ, List.getElem_cons_zero, Act.put, List.setIfInBounds_toArray, List.set_cons_zero, List.set_cons_succ]
  refine wpAnyH_take (i := 8) (v := .string A) rfl (by kernel_rfl) (by kernel_rfl) (by kernel_rfl) (fun _ _ _ h => h) (Or.inl ⟨by first | rfl | kernel_rfl, by intro w _; go_simp⟩) HX ?_
  simp only [List.getElem_toArray, List.getElem_cons_succ, List.getElem_cons_zero, Act.put, List.setIfInBounds_toArray, List.set_cons_zero, List.set_cons_succ]
  refine wpAnyH_take (i := 9) (v := .string ⟨#[80, 0, 0, 0, 1, 0, 2, 2]⟩) rfl (by kernel_rfl) (by kernel_rfl) (by kernel_rfl) (fun _ _ _ h => h) (Or.inl ⟨by first | rfl | kernel_rfl, by intro w _; go_simp⟩) HX ?_
  simp only [List.getElem_toArray, List.getElem_cons_succ, List.getElem_cons_zero, Act.put, List.setIfInBounds_toArray, List.set_cons_zero, List.set_cons_succ]
  refine wpAnyH_take (i := 10) (v := .bool false) rfl (by kernel_rfl) (by kernel_rfl) (by kernel_rfl) (fun _ _ _ h => h) (Or.inl ⟨by first | rfl | kernel_rfl, by intro w _; go_simp⟩) HX ?_
  simp only [List.getElem_toArray, List.getElem_cons_succ, List.getElem_cons_zero, Act.put, List.setIfInBounds_toArray, List.set_cons_zero, List.set_cons_succ]
  refine wpAnyH_take (i := 11) (v := .bool false) rfl (by kernel_rfl) (by kernel_rfl) (by kernel_rfl) (fun _ _ _ h => h) (Or.inl ⟨by first | rfl | kernel_rfl, by intro w _; go_simp⟩) HX ?_
  simp only [List.getElem_toArray, List.getElem_cons_succ, List.getElem_cons_zero, Act.put, List.setIfInBounds_toArray, List.set_cons_zero, List.set_cons_succ]
  refine wpAnyH_take (i := 12) (v := .bool false) rfl (by kernel_rfl) (by kernel_rfl) (by kernel_rfl) (fun _ _ _ h => h) (Or.inl ⟨by first | rfl | kernel_rfl, by intro w _; go_simp⟩) HX ?_
  simp only [List.getElem_toArray, List.getElem_cons_succ, List.getElem_cons_zero, Act.put, List.setIfInBounds_toArray, List.set_cons_zero, List.set_cons_succ]
  refine wpAnyH_take (i := 13) (v := .string A) rfl (by kernel_rfl) (by kernel_rfl) (by kernel_rfl) (fun _ _ _ h => h) (Or.inl ⟨by first | rfl | kernel_rfl, by intro w _; go_simp⟩) HX ?_
  simp only [List.getElem_toArray, List.getElem_cons_succ, List.getElem_cons_zero, Act.put, List.setIfInBounds_toArray, List.set_cons_zero, List.set_cons_succ]
  refine wpAnyH_take (i := 14) (v := .string ⟨#[97, 98]⟩) rfl (by kernel_rfl) (by kernel_rfl) (by kernel_rfl) (fun _ _ _ h => h) (Or.inl ⟨by first | rfl | kernel_rfl, by intro w _; go_simp⟩) HX ?_
  simp only [List.getElem_toArray, List.getElem_cons_succ, List.getElem_cons_zero, Act.put, List.setIfInBounds_toArray, List.set_cons_zero, List.set_cons_succ]
  refine wpAnyH_take (i := 15) (v := .bool false) rfl (by kernel_rfl) (by kernel_rfl) (by kernel_rfl) (fun _ _ _ h => h) (Or.inl ⟨by first | rfl | kernel_rfl, by intro w _; go_simp⟩) HX ?_
  simp only [List.getElem_toArray, List.getElem_cons_succ, List.getElem_cons_zero, Act.put, List.setIfInBounds_toArray, List.set_cons_zero, List.set_cons_succ]
  refine wpAnyH_take (i := 16) (v := .bool false) rfl (by kernel_rfl) (by kernel_rfl) (by kernel_rfl) (fun _ _ _ h => h) (Or.inl ⟨by first | rfl | kernel_rfl, by intro w _; go_simp⟩) HX ?_
  simp only [List.getElem_toArray, List.getElem_cons_succ, List.getElem_cons_zero, Act.put, List.setIfInBounds_toArray, List.set_cons_zero, List.set_cons_succ]
  refine wpAnyH_take (i := 17) (v := .bool false) rfl (by kernel_rfl) (by kernel_rfl) (by kernel_rfl) (fun _ _ _ h => h) (Or.inl ⟨by first | rfl | kernel_rfl, by intro w _; go_simp⟩) HX ?_
  simp only [List.getElem_toArray, List.getElem_cons_succ, List.getElem_cons_zero, Act.put, List.setIfInBounds_toArray, List.set_cons_zero, List.set_cons_succ]
  refine wpAnyH_take (i := 18) (v := .string A) rfl (by kernel_rfl) (by kernel_rfl) (by kernel_rfl) (fun _ _ _ h => h) (Or.inl ⟨by first | rfl | kernel_rfl, by intro w _; go_simp⟩) HX ?_
  simp only [List.getElem_toArray, List.getElem_cons_succ, List.getElem_cons_zero, Act.put, List.setIfInBounds_toArray, List.set_cons_zero, List.set_cons_succ]
  refine wpAnyH_take (i := 19) (v := .int .u8 165) rfl (by kernel_rfl) (by kernel_rfl) (by kernel_rfl) (fun _ _ _ h => h) (Or.inl ⟨by first | rfl | kernel_rfl, by intro w _; go_simp⟩) HX ?_
  simp only [List.getElem_toArray, List.getElem_cons_succ, List.getElem_cons_zero, Act.put, List.setIfInBounds_toArray, List.set_cons_zero, List.set_cons_succ]
  refine wpAnyH_take (i := 20) (v := .bool false) rfl (by kernel_rfl) (by kernel_rfl) (by kernel_rfl) (fun _ _ _ h => h) (Or.inl ⟨by first | rfl | kernel_rfl, by intro w _; go_simp⟩) HX ?_
  simp only [List.getElem_toArray, List.getElem_cons_succ, List.getElem_cons_zero, Act.put, List.setIfInBounds_toArray, List.set_cons_zero, List.set_cons_succ]
  refine wpAnyH_take (i := 21) (v := .bool false) rfl (by kernel_rfl) (by kernel_rfl) (by kernel_rfl) (fun _ _ _ h => h) (Or.inl ⟨by first | rfl | kernel_rfl, by intro w _; go_simp⟩) HX ?_
  simp only [List.getElem_toArray, List.getElem_cons_succ, List.getElem_cons_zero, Act.put, List.setIfInBounds_toArray, List.set_cons_zero, List.set_cons_succ]
  refine wpAnyH_take (i := 22) (v := .bool false) rfl (by kernel_rfl) (by kernel_rfl) (by kernel_rfl) (fun _ _ _ h => h) (Or.inl ⟨by first | rfl | kernel_rfl, by intro w _; go_simp⟩) HX ?_
  simp only [List.getElem_toArray, List.getElem_cons_succ, List.getElem_cons_zero, Act.put, List.setIfInBounds_toArray, List.set_cons_zero, List.set_cons_succ]
  refine wpAnyH_take (i := 23) (v := .string A) rfl (by kernel_rfl) (by kernel_rfl) (by kernel_rfl) (fun _ _ _ h => h) (Or.inl ⟨by first | rfl | kernel_rfl, by intro w _; go_simp⟩) HX ?_
  simp only [List.getElem_toArray, List.getElem_cons_succ, List.getElem_cons_zero, Act.put, List.setIfInBounds_toArray, List.set_cons_zero, List.set_cons_succ]
  refine wpAnyH_take (i := 24) (v := .int .u8 165) rfl (by kernel_rfl) (by kernel_rfl) (by kernel_rfl) (fun _ _ _ h => h) (Or.inl ⟨by first | rfl | kernel_rfl, by intro w _; go_simp⟩) HX ?_
  simp only [List.getElem_toArray, List.getElem_cons_succ, List.getElem_cons_zero, Act.put, List.setIfInBounds_toArray, List.set_cons_zero, List.set_cons_succ]
  refine wpAnyH_take (i := 25) (v := .bool false) rfl (by kernel_rfl) (by kernel_rfl) (by kernel_rfl) (fun _ _ _ h => h) (Or.inl ⟨by first | rfl | kernel_rfl, by intro w _; go_simp⟩) HX ?_
  simp only [List.getElem_toArray, List.getElem_cons_succ, List.getElem_cons_zero, Act.put, List.setIfInBounds_toArray, List.set_cons_zero, List.set_cons_succ]
  refine wpAnyH_take (i := 26) (v := .bool false) rfl (by kernel_rfl) (by kernel_rfl) (by kernel_rfl) (fun _ _ _ h => h) (Or.inl ⟨by first | rfl | kernel_rfl, by intro w _; go_simp⟩) HX ?_
  simp only [List.getElem_toArray, List.getElem_cons_succ, List.getElem_cons_zero, Act.put, List.setIfInBounds_toArray, List.set_cons_zero, List.set_cons_succ]
  refine wpAnyH_take (i := 27) (v := .bool false) rfl (by kernel_rfl) (by kernel_rfl) (by kernel_rfl) (fun _ _ _ h => h) (Or.inl ⟨by first | rfl | kernel_rfl, by intro w _; go_simp⟩) HX ?_
  simp only [List.getElem_toArray, List.getElem_cons_succ, List.getElem_cons_zero, Act.put, List.setIfInBounds_toArray, List.set_cons_zero, List.set_cons_succ]
  refine wpAnyH_take (i := 28) (v := .int .i64 0) rfl (by kernel_rfl) (by kernel_rfl) (by kernel_rfl) (fun _ _ _ h => h) (Or.inl ⟨by first | rfl | kernel_rfl, by intro w _; go_simp⟩) HX ?_
  simp only [List.getElem_toArray, List.getElem_cons_succ, List.getElem_cons_zero, Act.put, List.setIfInBounds_toArray, List.set_cons_zero, List.set_cons_succ]
  refine wpAnyH_take (i := 29) (v := .bool false) rfl (by kernel_rfl) (by kernel_rfl) (by kernel_rfl) (fun _ _ _ h => h) (Or.inl ⟨by first | rfl | kernel_rfl, by intro w _; go_simp⟩) HX ?_
  simp only [List.getElem_toArray, List.getElem_cons_succ, List.getElem_cons_zero, Act.put, List.setIfInBounds_toArray, List.set_cons_zero, List.set_cons_succ]
  refine wpAnyH_take (i := 30) (v := .bool false) rfl (by kernel_rfl) (by kernel_rfl) (by kernel_rfl) (fun _ _ _ h => h) (Or.inl ⟨by first | rfl | kernel_rfl, by intro w _; go_simp⟩) HX ?_
  simp only [List.getElem_toArray, List.getElem_cons_succ, List.getElem_cons_zero, Act.put, List.setIfInBounds_toArray, List.set_cons_zero, List.set_cons_succ]
  refine wpAnyH_take (i := 31) (v := .bool false) rfl (by kernel_rfl) (by kernel_rfl) (by kernel_rfl) (fun _ _ _ h => h) (Or.inl ⟨by first | rfl | kernel_rfl, by intro w _; go_simp⟩) HX ?_
  simp only [List.getElem_toArray, List.getElem_cons_succ, List.getElem_cons_zero, Act.put, List.setIfInBounds_toArray, List.set_cons_zero, List.set_cons_succ]
  refine wpAnyH_take (i := 32) (v := .agg #[.int .u8 80, .int .i64 1, .int .i64 2, .string ⟨#[97, 98]⟩]) rfl (by kernel_rfl) (by kernel_rfl) (by kernel_rfl) (fun _ _ _ h => h) (Or.inl ⟨by first | rfl | kernel_rfl, by intro w hw; have c0 := TS.c0 hw; have c1 := TS.c1 hw; have c2 := TS.c2 hw; have c3 := TS.c3 hw; go_simp⟩) HX ?_
  simp only [List.getElem_toArray, List.getElem_cons_succ, List.getElem_cons_zero, Act.put, List.setIfInBounds_toArray, List.set_cons_zero, List.set_cons_succ]
  refine wpAnyH_ready (rs := [33]) (by kernel_rfl) (by simp) (AllReadyH.cons (by simp only [List.getElem?_toArray, List.getElem?_cons_succ, List.getElem?_cons_zero]; rfl) (fun K hK => ?_) AllReadyH.nil)
  refine step_want (by first | rfl | kernel_rfl) ?_
  go_simp
  refine (HSo.out _).mono ?_
  rintro e w6 ⟨rfl, b6⟩
  have HX := HX.next b6
  clear b6
  refine hK.out _ _ HX (fun _ => ?_)
  clear hK K
  try simp only [List.getElem_toArray, List.getElem_cons_succ, List.getElem_cons_zero, Act.put, List.setIfInBounds_toArray, List.set_cons_zero, List.set_cons_succ]
  refine wpAnyH_take (i := 34) (v := .bool false) rfl (by kernel_rfl) (by kernel_rfl) (by kernel_rfl) (fun _ _ _ h => h) (Or.inl ⟨by first | rfl | kernel_rfl, by intro w _; go_simp⟩) HX ?_
  simp only [List.getElem_toArray, List.getElem_cons_succ, List.getElem_cons_zero, Act.put, List.setIfInBounds_toArray, List.set_cons_zero, List.set_cons_succ]
  refine wpAnyH_take (i := 35) (v := .bool false) rfl (by kernel_rfl) (by kernel_rfl) (by kernel_rfl) (fun _ _ _ h => h) (Or.inl ⟨by first | rfl | kernel_rfl, by intro w _; go_simp⟩) HX ?_
  simp only [List.getElem_toArray, List.getElem_cons_succ, List.getElem_cons_zero, Act.put, List.setIfInBounds_toArray, List.set_cons_zero, List.set_cons_succ]
  refine wpAnyH_take (i := 36) (v := .bool false) rfl (by kernel_rfl) (by kernel_rfl) (by kernel_rfl) (fun _ _ _ h => h) (Or.inl ⟨by first | rfl | kernel_rfl, by intro w _; go_simp⟩) HX ?_
  simp only [List.getElem_toArray, List.getElem_cons_succ, List.getElem_cons_zero, Act.put, List.setIfInBounds_toArray, List.set_cons_zero, List.set_cons_succ]
  refine wpAnyH_take (i := 37) (v := .string A) rfl (by kernel_rfl) (by kernel_rfl) (by kernel_rfl) (fun _ _ _ h => h) (Or.inl ⟨by first | rfl | kernel_rfl, by intro w _; go_simp⟩) HX ?_
  simp only [List.getElem_toArray, List.getElem_cons_succ, List.getElem_cons_zero, Act.put, List.setIfInBounds_toArray, List.set_cons_zero, List.set_cons_succ]
  refine wpAnyH_ready (rs := [38]) (by kernel_rfl) (by simp) (AllReadyH.cons (by simp only [List.getElem?_toArray, List.getElem?_cons_succ, List.getElem?_cons_zero]; rfl) (fun K hK => ?_) AllReadyH.nil)
  refine step_want (by first | rfl | kernel_rfl) ?_
  go_simp
  refine (HL0.out _).mono ?_
  rintro e w7 ⟨rfl, b7⟩
  have HX := HX.next b7
  clear b7
  refine hK.out _ _ HX (fun _ => ?_)
  clear hK K
  try simp only [List.getElem_toArray, List.getElem_cons_succ, List.getElem_cons_zero, Act.put, List.setIfInBounds_toArray, List.set_cons_zero, List.set_cons_succ]
  refine wpAnyH_take (i := 39) (v := .bool false) rfl (by kernel_rfl) (by kernel_rfl) (by kernel_rfl) (fun _ _ _ h => h) (Or.inl ⟨by first | rfl | kernel_rfl, by intro w _; go_simp⟩) HX ?_
  simp only [List.getElem_toArray, List.getElem_cons_succ, List.getElem_cons_zero, Act.put, List.setIfInBounds_toArray, List.set_cons_zero, List.set_cons_succ]
  refine wpAnyH_done (by kernel_rfl) ?_ _
  go_wp2_with fail
  refine wp_region_held (S := fun w' => TS w B3 80 1 2 ⟨#[97, 98]⟩ w') (by kernel_rfl) ?_
  change wpAnyH _ _ _ _ _ _ _ _ (World.drew _)
  have HX := HX.drew
  generalize World.drew _ = W8 at *
  refine wpAnyH_take (i := 0) (v := .string A) rfl (by kernel_rfl) (by kernel_rfl) (by kernel_rfl) (fun _ _ _ h => h) (Or.inl ⟨by first | rfl | kernel_rfl, by intro w _; go_simp⟩) HX ?_
  simp only [List.getElem_toArray, List.getElem_cons_succ, List.getElem_cons_zero, Act.put, List.setIfInBounds_toArray, List.set_cons_zero, List.set_cons_succ]
  refine wpAnyH_take (i := 1) (v := .string P1) rfl (by kernel_rfl) (by kernel_rfl) (by kernel_rfl) (fun _ _ _ h => h) (Or.inl ⟨by first | rfl | kernel_rfl, by intro w _; go_simp⟩) HX ?_
  simp only [List.getElem_toArray, List.getElem_cons_succ, List.getElem_cons_zero, Act.put, List.setIfInBounds_toArray, List.set_cons_zero, List.set_cons_succ]
  refine wpAnyH_take (i := 5) (v := .string A) rfl (by kernel_rfl) (by kernel_rfl) (by kernel_rfl) (fun _ _ _ h => h) (Or.inl ⟨by first | rfl | kernel_rfl, by intro w _; go_simp⟩) HX ?_
  simp only [List.getElem_toArray, List.getElem_cons_succ, List.getElem_cons_zero, Act.put, List.setIfInBounds_toArray, List.set_cons_zero, List.set_cons_succ]
  refine wpAnyH_take (i := 6) (v := .string P2) rfl (by kernel_rfl) (by kernel_rfl) (by kernel_rfl) (fun _ _ _ h => h) (Or.inl ⟨by first | rfl | kernel_rfl, by intro w _; go_simp⟩) HX ?_
  simp only [List.getElem_toArray, List.getElem_cons_succ, List.getElem_cons_zero, Act.put, List.setIfInBounds_toArray, List.set_cons_zero, List.set_cons_succ]
  refine wpAnyH_ready (rs := [2]) (by kernel_rfl) (by simp) (AllReadyH.cons (by simp only [List.getElem?_toArray, List.getElem?_cons_succ, List.getElem?_cons_zero]; rfl) (fun K hK => ?_) AllReadyH.nil)
  refine step_want (by first | rfl | kernel_rfl) ?_
  go_simp
  have HX := HX.next ((Below.refl _ _).alloc (Nat.le_refl _) (.cells C1 5))
  refine hK.out _ _ HX (fun _ => ?_)
  clear hK K
  try simp only [List.getElem_toArray, List.getElem_cons_succ, List.getElem_cons_zero, Act.put, List.setIfInBounds_toArray, List.set_cons_zero, List.set_cons_succ]
  refine wpAnyH_ready (rs := [3]) (by kernel_rfl) (by simp) (AllReadyH.cons (by simp only [List.getElem?_toArray, List.getElem?_cons_succ, List.getElem?_cons_zero]; rfl) (fun K hK => ?_) AllReadyH.nil)
  refine step_want (by first | rfl | kernel_rfl) ?_
  go_simp
  refine hK.out _ _ HX (fun _ => ?_)
  clear hK K
  try simp only [List.getElem_toArray, List.getElem_cons_succ, List.getElem_cons_zero, Act.put, List.setIfInBounds_toArray, List.set_cons_zero, List.set_cons_succ]
  refine wpAnyH_take (i := 4) (v := .string (P1 ++ Z1)) rfl (by kernel_rfl) (by kernel_rfl) (by kernel_rfl) (fun _ _ _ h => h) (Or.inl ⟨by first | rfl | kernel_rfl, by intro w _; go_simp⟩) HX ?_
  simp only [List.getElem_toArray, List.getElem_cons_succ, List.getElem_cons_zero, Act.put, List.setIfInBounds_toArray, List.set_cons_zero, List.set_cons_succ]
  refine wpAnyH_take (i := 7) (v := .string T) rfl (by kernel_rfl) (by kernel_rfl) (by kernel_rfl) (fun _ _ _ h => h) (Or.inl ⟨by first | rfl | kernel_rfl, by intro w _; go_simp; rw [HTx.out]⟩) HX ?_
  simp only [List.getElem_toArray, List.getElem_cons_succ, List.getElem_cons_zero, Act.put, List.setIfInBounds_toArray, List.set_cons_zero, List.set_cons_succ]
  refine wpAnyH_take (i := 8) (v := .string T) rfl (by kernel_rfl) (by kernel_rfl) (by kernel_rfl) (fun _ _ _ h => h) (Or.inl ⟨by first | rfl | kernel_rfl, by intro w _; go_simp⟩) HX ?_
  simp only [List.getElem_toArray, List.getElem_cons_succ, List.getElem_cons_zero, Act.put, List.setIfInBounds_toArray, List.set_cons_zero, List.set_cons_succ]
  refine wpAnyH_done (by kernel_rfl) ?_ _
  go_wp2_with fail
  refine (HD1.out _ HX.tab HX.tab4).mono ?_
  rintro e w9 ⟨rfl, b9⟩
  have HX := (HX.next b9).next ((Below.refl _ _).alloc (Nat.le_refl _) (.cells #[.int .u8 0, .int .i64 0, .int .i64 0, .string ⟨#[]⟩] 23))
  clear b9
  go_wp2_with fail
  refine (HD2.out _ HX.tab HX.tab4).mono ?_
  rintro e w10 ⟨rfl, b10⟩
  have HX := (HX.next b10).next ((Below.refl _ _).alloc (Nat.le_refl _) (.cells #[.int .u8 0, .int .i64 0, .int .i64 0, .string ⟨#[]⟩] 23))
  clear b10
  go_wp2_with fail
  refine (HL1.out _).mono ?_
  rintro e w11 ⟨rfl, b11⟩
  have HX := HX.next b11
  clear b11
  go_wp2_with fail
  refine (HL2.out _).mono ?_
  rintro e w12 ⟨rfl, b12⟩
  have HX := (HX.next b12).next ((Below.refl _ _).alloc (Nat.le_refl _) (.cells C2 5))
  clear b12
  go_wp2_with fail
  refine (HL3.out _).mono ?_
  rintro e w13 ⟨rfl, b13⟩
  have HX := HX.next b13
  have HB := HX.below
  clear b13 HX
  go_wp2
  go_ret
  exact ⟨rfl, HB⟩
end Go.Proofs.YtcbmcbcpclgciaaDoor
