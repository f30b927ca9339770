/- The law FramesEach: a frame of any kind that may be, any epoch and index, and data of any length up to 112 bytes, is encoded; its data stands behind twelve bytes, but for the marks. -/
import Derived.Test.YtcbmcbcpclgciabDoorFj
import Derived.Deep.DeepCutAuto
import Derived.Deep.QuietTactic
namespace Go.Proofs.YtcbmcbcpclgciabDoor
open Go.RowKit

/-- The numbers alone. -/
structure NS (w : World) (B0 : Nat) (n0 n1 n2 : Int) (w' : World) : Prop where
  d0 : w'.cell? ⟨B0, 0, none⟩ = some (.int .u32 n0)
  d1 : w'.cell? ⟨B0, 1, none⟩ = some (.int .u32 n1)
  d2 : w'.cell? ⟨B0, 2, none⟩ = some (.int .u32 n2)
  lt0 : B0 < w'.heap.size
  tab : Tab w'
  tab4 : Tab4 w'
  below : Below w.heap.size w w'
  size : w.heap.size ≤ w'.heap.size
theorem NS.next {w : World} {B0 : Nat} {n0 n1 n2 : Int} {w1 w2 : World} (h : NS w B0 n0 n1 n2 w1) (b : Below w1.heap.size w1 w2) : NS w B0 n0 n1 n2 w2 :=
  ⟨(b.cell (p := ⟨B0, 0, none⟩) h.lt0).trans h.d0, (b.cell (p := ⟨B0, 1, none⟩) h.lt0).trans h.d1, (b.cell (p := ⟨B0, 2, none⟩) h.lt0).trans h.d2, Nat.lt_of_lt_of_le h.lt0 b.size, h.tab.below b, h.tab4.below b h.tab4.lt, h.below.trans (b.mono h.size), Nat.le_trans h.size b.size⟩
theorem NS.drew {w : World} {B0 : Nat} {n0 n1 n2 : Int} {w1 : World} (h : NS w B0 n0 n1 n2 w1) : NS w B0 n0 n1 n2 w1.drew := ⟨h.d0, h.d1, h.d2, h.lt0, h.tab, h.tab4, h.below.drew, h.size⟩
theorem NS.start {w : World} {n0 n1 n2 : Int} {t : TypeId} (hT : Tab w) (hT4 : Tab4 w) : NS w w.heap.size n0 n1 n2 (w.alloc (.cells #[.int .u32 n0, .int .u32 n1, .int .u32 n2] t)) :=
  have hb : Below w.heap.size w (w.alloc (.cells #[.int .u32 n0, .int .u32 n1, .int .u32 n2] t)) := (Below.refl _ _).alloc (Nat.le_refl _) _
  have hg := heap_alloc_last w (.cells #[.int .u32 n0, .int .u32 n1, .int .u32 n2] t)
  ⟨by rw [cell_of_row _ _ _ _ _ _ hg]; rfl, by rw [cell_of_row _ _ _ _ _ _ hg]; rfl, by rw [cell_of_row _ _ _ _ _ _ hg]; rfl, by simp, hT.below hb, hT4.below hb hT4.lt, hb, by simp⟩
/-- The kind that a number says. -/
def kindOf (n : Nat) : UInt8 := if n = 0 then 68 else if n = 1 then 80 else 83
set_option maxRecDepth 100000 in
set_option maxHeartbeats 8000000 in
set_option linter.unusedSimpArgs false in
theorem each_any (n0 n1 n2 : Int) (d : List UInt8) (w : World) (hT : Tab w) (hT4 : Tab4 w) (h0 : 0 ≤ n0 ∧ n0 ≤ 4294967295) (h1 : 0 ≤ n1 ∧ n1 ≤ 4294967295) (h2 : 0 ≤ n2 ∧ n2 ≤ 4294967295) :
    Calls Tryd.prog 4 #[.agg #[.int .u32 n0, .int .u32 n1, .int .u32 n2], .string (S d)] w fun e w' => e = .returned (.bool true) ∧ Below w.heap.size w w' := by
  have HDo : Hid (∀ w : World, Tab w → Tab4 w → Calls Tryd.prog 7 #[] w fun e w' => e = .returned (.bool true) ∧ Below w.heap.size w w') := fun w h h4 => fdoes_any w h h4
  have HN := NS.start (n0 := n0) (n1 := n1) (n2 := n2) (t := 30) hT hT4
  by_cases hl : d.length ≤ 112
  rotate_left
  · have hz : (112 : Int) < ((S d).size : Int) := by rw [S_size]; omega
    generalize S d = D at *
    go_enter Tryd.func4, Tryd.ntmps4
    go_wp2_with fail
    refine (HDo.out _ HN.tab HN.tab4).mono ?_
    rintro e' w1 ⟨rfl, b1⟩
    have HB := (HN.next b1).below
    clear b1 HN
    go_wp2
    go_ret
    exact ⟨rfl, HB⟩
  obtain ⟨m, hm, hm3⟩ : ∃ m : Nat, n0 % 3 = (m : Int) ∧ m < 3 := ⟨(n0 % 3).toNat, by omega, by omega⟩
  obtain ⟨q, hq, hq3⟩ : ∃ q : Nat, n1 / 4 = (q : Int) ∧ q < 1073741824 := ⟨(n1 / 4).toNat, by omega, by omega⟩
  obtain ⟨r, hr, hr3⟩ : ∃ r : Nat, n2 % 65536 = (r : Int) ∧ r < 65536 := ⟨(n2 % 65536).toNat, by omega, by omega⟩
  have hkb : ((kindOf m).toNat : Int) = 68 ∨ ((kindOf m).toNat : Int) = 80 ∨ ((kindOf m).toNat : Int) = 83 := by
    have : m = 0 ∨ m = 1 ∨ m = 2 := by omega
    rcases this with rfl | rfl | rfl
    · exact .inl rfl
    · exact .inr (.inl rfl)
    · exact .inr (.inr rfl)
  have hidx : ∀ h : m < (⟨#[68, 80, 83]⟩ : ByteArray).size, (⟨#[68, 80, 83]⟩ : ByteArray)[m] = kindOf m := by
    have : m = 0 ∨ m = 1 ∨ m = 2 := by omega
    rcases this with rfl | rfl | rfl
    · intro _; rfl
    · intro _; rfl
    · intro _; rfl
  obtain ⟨F, hF⟩ : ∃ F : Fr, F = ⟨((kindOf m).toNat : Int), 1 + (q : Int), (r : Int), d⟩ := ⟨_, rfl⟩
  have hok : encE F = 0 := encE_ok.2 ⟨by
    rw [hF]
    simp only [mayB, kindB, epochB, indexB, Bool.and_eq_true, Bool.or_eq_true, beq_iff_eq, decide_eq_true_eq]
    omega, by rw [hF]; exact hl⟩
  have hbl := encL_length hok
  have htl : (textL F).length = 124 := textL_length (by rw [hF]; exact hl)
  have hun : unmL (encL F) = textL F := by rw [encL_ok hok, unm_mark htl]
  have hcuts := text_cuts F (by rw [hF]; exact hl)
  have HE1 : Hid (∀ w : World, Tab w → Tab4 w → Calls Tryd.prog 8 #[.agg #[.int .u8 ((kindOf m).toNat : Int), .int .i64 (1 + (q : Int)), .int .i64 (r : Int), .string (S d)]] w fun e w' => e = .returned (.tuple #[.string (S (encL F)), .int .i64 0]) ∧ Below w.heap.size w w') := fun w h h4 => by
    have := encode_any F w h h4
    rw [hok, hF] at this
    rw [hF]
    exact this
  have y0 : (S (encL F)).extract 0 31 = S (cut (encL F) 0 31) := by rw [S_ext]
  have y1 : (S (encL F)).extract 32 63 = S (cut (encL F) 32 31) := by rw [S_ext]
  have y2 : (S (encL F)).extract 64 95 = S (cut (encL F) 64 31) := by rw [S_ext]
  have y3 : (S (encL F)).extract 96 127 = S (cut (encL F) 96 31) := by rw [S_ext]
  have HT : Hid (S (cut (encL F) 0 31) ++ S (cut (encL F) 32 31) ++ S (cut (encL F) 64 31) ++ S (cut (encL F) 96 31) = S (textL F)) := by
    show _ = _
    rw [S_append, S_append, S_append, ← hun]; simp [unmL, List.append_assoc]
  have s0 : (S (cut (encL F) 0 31)).size = 31 := by rw [S_size, cut_length _ _ _ (by omega)]
  have s1 : (S (cut (encL F) 32 31)).size = 31 := by rw [S_size, cut_length _ _ _ (by omega)]
  have s2 : (S (cut (encL F) 64 31)).size = 31 := by rw [S_size, cut_length _ _ _ (by omega)]
  have s3 : (S (cut (encL F) 96 31)).size = 31 := by rw [S_size, cut_length _ _ _ (by omega)]
  have hA : (S (encL F)).size = 128 := by rw [S_size, hbl]
  have hTz : (S (textL F)).size = 124 := by rw [S_size, htl]
  have z0 : 0 < (S (textL F)).size := by omega
  have z7 : 7 < (S (textL F)).size := by omega
  have i0 : (((S (textL F))[0]'z0).toNat : Int) = ((kindOf m).toNat : Int) := by
    have := get_bytes (textL F) 0 (by8 F.k) (by
      apply cut_one
      rw [hcuts.1]; rfl) z0
    rw [this, by8_num, hF]
    show ((kindOf m).toNat : Int) % 256 = _
    omega
  have i7 : (((S (textL F))[7]'z7).toNat : Int) = (d.length : Int) := by
    have := get_bytes (textL F) 7 (by8 F.d.length) (text_seven F (by rw [hF]; exact hl)) z7
    rw [this, by8_num, hF]
    show ((d.length : Nat) : Int) % 256 = _
    omega
  have x12 : (S (textL F)).extract 12 (12 + d.length) = S d := by
    have := hcuts.2.2.2.2.2.1
    rw [S_ext, Nat.add_sub_cancel_left]
    rw [hF] at this ⊢
    exact congrArg S this
  have xz : (S (textL F)).extract (12 + d.length) 124 = S (List.replicate (112 - d.length) 0) := by
    have := hcuts.2.2.2.2.2.2.1
    rw [S_ext]
    rw [hF] at this ⊢
    rw [show 124 - (12 + d.length) = 112 - d.length by omega]
    exact congrArg S this
  have hmk : ∀ W : World, (Instr.makeSlice 34 (.int .i64 ((112 - d.length : Nat) : Int)) (.int .i64 ((112 - d.length : Nat) : Int))).run Tryd.prog W = .ok (.slice (some ⟨W.heap.size, 0, none⟩) (112 - d.length) (112 - d.length)) (W.alloc (.cells (hv (List.replicate (112 - d.length) 0)) 5)) := fun W => mkZ _ (by omega) W
  have hcv : ∀ W : World, (convert 34 9 (.slice (some ⟨W.heap.size, 0, none⟩) (112 - d.length) (112 - d.length))).run Tryd.prog (W.alloc (.cells (hv (List.replicate (112 - d.length) 0)) 5)) = .ok (.string (S (List.replicate (112 - d.length) 0))) (W.alloc (.cells (hv (List.replicate (112 - d.length) 0)) 5)) := fun W => cvZ _ _ _ (heap_alloc_last _ _)
  have hDz : (S d).size = d.length := S_size d
  generalize S (encL F) = A at *
  generalize S (textL F) = T at *
  generalize S (cut (encL F) 0 31) = P0 at *
  generalize S (cut (encL F) 32 31) = P1 at *
  generalize S (cut (encL F) 64 31) = P2 at *
  generalize S (cut (encL F) 96 31) = P3 at *
  generalize hv (List.replicate (112 - d.length) 0) = C1 at *
  generalize S (List.replicate (112 - d.length) 0) = Z at *
  generalize S d = D at *
  clear hcuts hun htl hbl hok hF
  generalize d.length = dn at *
  obtain ⟨kk, hkk⟩ : ∃ kk : Int, ((kindOf m).toNat : Int) = kk := ⟨_, rfl⟩
  have hkk2 : ∀ h : m < (⟨#[68, 80, 83]⟩ : ByteArray).size, (((⟨#[68, 80, 83]⟩ : ByteArray)[m]'h).toNat : Int) = kk := fun h => by rw [hidx h, hkk]
  have hm2 : m < (⟨#[68, 80, 83]⟩ : ByteArray).size := by show m < 3; exact hm3
  have hkk3 := hkk2 hm2
  rw [hkk] at hkb i0 HE1
  clear hidx hkk hkk2
  have g0 : ¬ (112 : Int) < (dn : Int) := by omega
  have tm0 : n0.tmod 3 = (m : Int) := by rw [Int.tmod_eq_emod_of_nonneg h0.1]; exact hm
  have tm2 : n2.tmod 65536 = (r : Int) := by rw [Int.tmod_eq_emod_of_nonneg h2.1]; exact hr
  have mi : ¬ (3 : Int) ≤ (m : Int) := by omega
  have g1 : ¬ (1073741824 : Int) < 1 + (q : Int) := by omega
  have w1 : IntKind.i64.wrap (q : Int) = (q : Int) := by rw [IntKind.wrap_i64]; omega
  have w2 : IntKind.i64.wrap (1 + (q : Int)) = 1 + (q : Int) := by rw [IntKind.wrap_i64]; omega
  have w3 : IntKind.i64.wrap (r : Int) = (r : Int) := by rw [IntKind.wrap_i64]; omega
  have w4 : IntKind.i64.wrap (12 + (dn : Int)) = 12 + (dn : Int) := by rw [IntKind.wrap_i64]; omega
  have w5 : IntKind.i64.wrap (112 - (dn : Int)) = ((112 - dn : Nat) : Int) := by rw [IntKind.wrap_i64]; omega
  have w6 : IntKind.i64.wrap (dn : Int) = (dn : Int) := by rw [IntKind.wrap_i64]; omega
  have v1 : (12 : Int) + (dn : Int) ≤ 124 := by omega
  have v2 : (0 : Int) ≤ 12 + (dn : Int) := by omega
  have v3 : (12 : Int) ≤ 12 + (dn : Int) := by omega
  have v4 : (12 + (dn : Int)).toNat = 12 + dn := by omega
  go_enter Tryd.func4, Tryd.ntmps4
  go_wp2_with fail
  refine wp_region_held (S := fun w' => NS w w.heap.size n0 n1 n2 w') (by kernel_rfl) ?_
  change wpAnyH _ _ _ _ _ _ _ _ (World.drew _)
  have HN := HN.drew
  generalize World.drew _ = W5 at *
  refine wpAnyH_take (i := 0) (v := .pointer (some ⟨w.heap.size, 0, none⟩)) rfl (by kernel_rfl) (by kernel_rfl) (by kernel_rfl) (fun _ _ _ h => h) (Or.inl ⟨by first | rfl | kernel_rfl, by intro w _; go_simp⟩) HN ?_
  simp only [List.getElem_toArray, List.getElem_cons_succ, List.getElem_cons_zero, Act.put, List.setIfInBounds_toArray, List.set_cons_zero, List.set_cons_succ]
  refine wpAnyH_take (i := 1) (v := .int .u32 n0) rfl (by kernel_rfl) (by kernel_rfl) (by kernel_rfl) (fun _ _ _ h => h) (Or.inl ⟨by first | rfl | kernel_rfl, by intro w hw; have d0 := NS.d0 hw; have d1 := NS.d1 hw; have d2 := NS.d2 hw; go_simp⟩) HN ?_
  simp only [List.getElem_toArray, List.getElem_cons_succ, List.getElem_cons_zero, Act.put, List.setIfInBounds_toArray, List.set_cons_zero, List.set_cons_succ]
  refine wpAnyH_take (i := 2) (v := .int .u32 (m : Int)) rfl (by kernel_rfl) (by kernel_rfl) (by kernel_rfl) (fun _ _ _ h => h) (Or.inl ⟨by first | rfl | kernel_rfl, by intro w _; go_simp⟩) HN ?_
  simp only [List.getElem_toArray, List.getElem_cons_succ, List.getElem_cons_zero, Act.put, List.setIfInBounds_toArray, List.set_cons_zero, List.set_cons_succ]
  refine wpAnyH_take (i := 3) (v := .int .u8 kk) rfl (by kernel_rfl) (by kernel_rfl) (by kernel_rfl) (fun _ _ _ h => h) (Or.inl ⟨by first | rfl | kernel_rfl, by intro w _; go_simp⟩) HN ?_
  simp only [List.getElem_toArray, List.getElem_cons_succ, List.getElem_cons_zero, Act.put, List.setIfInBounds_toArray, List.set_cons_zero, List.set_cons_succ]
  refine wpAnyH_take (i := 4) (v := .pointer (some ⟨w.heap.size, 1, none⟩)) rfl (by kernel_rfl) (by kernel_rfl) (by kernel_rfl) (fun _ _ _ h => h) (Or.inl ⟨by first | rfl | kernel_rfl, by intro w _; go_simp⟩) HN ?_
  simp only [List.getElem_toArray, List.getElem_cons_succ, List.getElem_cons_zero, Act.put, List.setIfInBounds_toArray, List.set_cons_zero, List.set_cons_succ]
  refine wpAnyH_take (i := 5) (v := .int .u32 n1) rfl (by kernel_rfl) (by kernel_rfl) (by kernel_rfl) (fun _ _ _ h => h) (Or.inl ⟨by first | rfl | kernel_rfl, by intro w hw; have d0 := NS.d0 hw; have d1 := NS.d1 hw; have d2 := NS.d2 hw; go_simp⟩) HN ?_
  simp only [List.getElem_toArray, List.getElem_cons_succ, List.getElem_cons_zero, Act.put, List.setIfInBounds_toArray, List.set_cons_zero, List.set_cons_succ]
  refine wpAnyH_take (i := 6) (v := .int .u32 (q : Int)) rfl (by kernel_rfl) (by kernel_rfl) (by kernel_rfl) (fun _ _ _ h => h) (Or.inl ⟨by first | rfl | kernel_rfl, by intro w _; go_simp⟩) HN ?_
  simp only [List.getElem_toArray, List.getElem_cons_succ, List.getElem_cons_zero, Act.put, List.setIfInBounds_toArray, List.set_cons_zero, List.set_cons_succ]
  refine wpAnyH_take (i := 7) (v := .int .i64 (q : Int)) rfl (by kernel_rfl) (by kernel_rfl) (by kernel_rfl) (fun _ _ _ h => h) (Or.inl ⟨by first | rfl | kernel_rfl, by intro w _; go_simp⟩) HN ?_
  simp only [List.getElem_toArray, List.getElem_cons_succ, List.getElem_cons_zero, Act.put, List.setIfInBounds_toArray, List.set_cons_zero, List.set_cons_succ]
  refine wpAnyH_take (i := 8) (v := .int .i64 (1 + (q : Int))) rfl (by kernel_rfl) (by kernel_rfl) (by kernel_rfl) (fun _ _ _ h => h) (Or.inl ⟨by first | rfl | kernel_rfl, by intro w _; go_simp⟩) HN ?_
  simp only [List.getElem_toArray, List.getElem_cons_succ, List.getElem_cons_zero, Act.put, List.setIfInBounds_toArray, List.set_cons_zero, List.set_cons_succ]
  refine wpAnyH_take (i := 9) (v := .pointer (some ⟨w.heap.size, 2, none⟩)) rfl (by kernel_rfl) (by kernel_rfl) (by kernel_rfl) (fun _ _ _ h => h) (Or.inl ⟨by first | rfl | kernel_rfl, by intro w _; go_simp⟩) HN ?_
  simp only [List.getElem_toArray, List.getElem_cons_succ, List.getElem_cons_zero, Act.put, List.setIfInBounds_toArray, List.set_cons_zero, List.set_cons_succ]
  refine wpAnyH_take (i := 10) (v := .int .u32 n2) rfl (by kernel_rfl) (by kernel_rfl) (by kernel_rfl) (fun _ _ _ h => h) (Or.inl ⟨by first | rfl | kernel_rfl, by intro w hw; have d0 := NS.d0 hw; have d1 := NS.d1 hw; have d2 := NS.d2 hw; go_simp⟩) HN ?_
  simp only [List.getElem_toArray, List.getElem_cons_succ, List.getElem_cons_zero, Act.put, List.setIfInBounds_toArray, List.set_cons_zero, List.set_cons_succ]
  refine wpAnyH_take (i := 11) (v := .int .u32 (r : Int)) rfl (by kernel_rfl) (by kernel_rfl) (by kernel_rfl) (fun _ _ _ h => h) (Or.inl ⟨by first | rfl | kernel_rfl, by intro w _; go_simp⟩) HN ?_
  simp only [List.getElem_toArray, List.getElem_cons_succ, List.getElem_cons_zero, Act.put, List.setIfInBounds_toArray, List.set_cons_zero, List.set_cons_succ]
  refine wpAnyH_take (i := 12) (v := .int .i64 (r : Int)) rfl (by kernel_rfl) (by kernel_rfl) (by kernel_rfl) (fun _ _ _ h => h) (Or.inl ⟨by first | rfl | kernel_rfl, by intro w _; go_simp⟩) HN ?_
  simp only [List.getElem_toArray, List.getElem_cons_succ, List.getElem_cons_zero, Act.put, List.setIfInBounds_toArray, List.set_cons_zero, List.set_cons_succ]
  refine wpAnyH_take (i := 13) (v := .string D) rfl (by kernel_rfl) (by kernel_rfl) (by kernel_rfl) (fun _ _ _ h => h) (Or.inl ⟨by first | rfl | kernel_rfl, by intro w _; go_simp⟩) HN ?_
  simp only [List.getElem_toArray, List.getElem_cons_succ, List.getElem_cons_zero, Act.put, List.setIfInBounds_toArray, List.set_cons_zero, List.set_cons_succ]
  refine wpAnyH_take (i := 14) (v := .agg #[.int .u8 kk, .int .i64 (1 + (q : Int)), .int .i64 (r : Int), .string D]) rfl (by kernel_rfl) (by kernel_rfl) (by kernel_rfl) (fun _ _ _ h => h) (Or.inl ⟨by first | rfl | kernel_rfl, by intro w _; go_simp⟩) HN ?_
  simp only [List.getElem_toArray, List.getElem_cons_succ, List.getElem_cons_zero, Act.put, List.setIfInBounds_toArray, List.set_cons_zero, List.set_cons_succ]
  refine wpAnyH_ready (rs := [15]) (by kernel_rfl) (by simp) (AllReadyH.cons (by simp only [List.getElem?_toArray, List.getElem?_cons_succ, List.getElem?_cons_zero]; rfl) (fun K hK => ?_) AllReadyH.nil)
  refine step_want (by first | rfl | kernel_rfl) ?_
  go_simp
  have HXo := HN
  have HN := HN.next ((Below.refl _ _).alloc (Nat.le_refl _) (.cells #[.int .u8 0, .int .i64 0, .int .i64 0, .string ⟨#[]⟩] 23))
  refine hK.out _ _ HN (fun _ => ?_)
  clear hK K
  try simp only [List.getElem_toArray, List.getElem_cons_succ, List.getElem_cons_zero, Act.put, List.setIfInBounds_toArray, List.set_cons_zero, List.set_cons_succ]
  refine wpAnyH_ready (rs := [16]) (by kernel_rfl) (by simp) (AllReadyH.cons (by simp only [List.getElem?_toArray, List.getElem?_cons_succ, List.getElem?_cons_zero]; rfl) (fun K hK => ?_) AllReadyH.nil)
  refine step_want (by first | rfl | kernel_rfl) ?_
  go_simp
  have HN := HXo.next ((Below.refl _ _).alloc (Nat.le_refl _) (.cells #[.int .u8 kk, .int .i64 (1 + (q : Int)), .int .i64 (r : Int), .string D] 23))
  refine hK.out _ _ HN (fun _ => ?_)
  clear hK K
  try simp only [List.getElem_toArray, List.getElem_cons_succ, List.getElem_cons_zero, Act.put, List.setIfInBounds_toArray, List.set_cons_zero, List.set_cons_succ]
  refine wpAnyH_done (by kernel_rfl) ?_ _
  have HX := TS.start2 (k := kk) (e := 1 + (q : Int)) (i := (r : Int)) (D := D) (t := 23) HXo.tab HXo.tab4 HXo.below
  clear HXo
  generalize W5.heap.size = B1 at *
  generalize W5.alloc _ = W6 at *
  have c0 := HX.c0
  have c1 := HX.c1
  have c2 := HX.c2
  have c3 := HX.c3
  go_wp2_with fail
  refine (HE1.out _ HX.tab HX.tab4).mono ?_
  rintro e' w7 ⟨rfl, b7⟩
  have HX := HX.next b7
  clear b7 c0 c1 c2 c3
  go_wp2_with fail
  refine wp_region_held (S := fun w' => TS w B1 kk (1 + (q : Int)) (r : Int) D w') (by kernel_rfl) ?_
  change wpAnyH _ _ _ _ _ _ _ _ (World.drew _)
  have HX := HX.drew
  generalize World.drew _ = W8 at *
  refine wpAnyH_take (i := 0) (v := .string A) rfl (by kernel_rfl) (by kernel_rfl) (by kernel_rfl) (fun _ _ _ h => h) (Or.inl ⟨by first | rfl | kernel_rfl, by intro w _; go_simp⟩) HX ?_
  simp only [List.getElem_toArray, List.getElem_cons_succ, List.getElem_cons_zero, Act.put, List.setIfInBounds_toArray, List.set_cons_zero, List.set_cons_succ]
  refine wpAnyH_take (i := 1) (v := .string P0) rfl (by kernel_rfl) (by kernel_rfl) (by kernel_rfl) (fun _ _ _ h => h) (Or.inl ⟨by first | rfl | kernel_rfl, by intro w _; go_simp⟩) HX ?_
  simp only [List.getElem_toArray, List.getElem_cons_succ, List.getElem_cons_zero, Act.put, List.setIfInBounds_toArray, List.set_cons_zero, List.set_cons_succ]
  refine wpAnyH_take (i := 2) (v := .string A) rfl (by kernel_rfl) (by kernel_rfl) (by kernel_rfl) (fun _ _ _ h => h) (Or.inl ⟨by first | rfl | kernel_rfl, by intro w _; go_simp⟩) HX ?_
  simp only [List.getElem_toArray, List.getElem_cons_succ, List.getElem_cons_zero, Act.put, List.setIfInBounds_toArray, List.set_cons_zero, List.set_cons_succ]
  refine wpAnyH_take (i := 3) (v := .string P1) rfl (by kernel_rfl) (by kernel_rfl) (by kernel_rfl) (fun _ _ _ h => h) (Or.inl ⟨by first | rfl | kernel_rfl, by intro w _; go_simp⟩) HX ?_
  simp only [List.getElem_toArray, List.getElem_cons_succ, List.getElem_cons_zero, Act.put, List.setIfInBounds_toArray, List.set_cons_zero, List.set_cons_succ]
  refine wpAnyH_take (i := 4) (v := .string (P0 ++ P1)) rfl (by kernel_rfl) (by kernel_rfl) (by kernel_rfl) (fun _ _ _ h => h) (Or.inl ⟨by first | rfl | kernel_rfl, by intro w _; go_simp⟩) HX ?_
  simp only [List.getElem_toArray, List.getElem_cons_succ, List.getElem_cons_zero, Act.put, List.setIfInBounds_toArray, List.set_cons_zero, List.set_cons_succ]
  refine wpAnyH_take (i := 5) (v := .string A) rfl (by kernel_rfl) (by kernel_rfl) (by kernel_rfl) (fun _ _ _ h => h) (Or.inl ⟨by first | rfl | kernel_rfl, by intro w _; go_simp⟩) HX ?_
  simp only [List.getElem_toArray, List.getElem_cons_succ, List.getElem_cons_zero, Act.put, List.setIfInBounds_toArray, List.set_cons_zero, List.set_cons_succ]
  refine wpAnyH_take (i := 6) (v := .string P2) rfl (by kernel_rfl) (by kernel_rfl) (by kernel_rfl) (fun _ _ _ h => h) (Or.inl ⟨by first | rfl | kernel_rfl, by intro w _; go_simp⟩) HX ?_
  simp only [List.getElem_toArray, List.getElem_cons_succ, List.getElem_cons_zero, Act.put, List.setIfInBounds_toArray, List.set_cons_zero, List.set_cons_succ]
  refine wpAnyH_take (i := 7) (v := .string (P0 ++ P1 ++ P2)) rfl (by kernel_rfl) (by kernel_rfl) (by kernel_rfl) (fun _ _ _ h => h) (Or.inl ⟨by first | rfl | kernel_rfl, by intro w _; go_simp⟩) HX ?_
  simp only [List.getElem_toArray, List.getElem_cons_succ, List.getElem_cons_zero, Act.put, List.setIfInBounds_toArray, List.set_cons_zero, List.set_cons_succ]
  refine wpAnyH_take (i := 8) (v := .string A) rfl (by kernel_rfl) (by kernel_rfl) (by kernel_rfl) (fun _ _ _ h => h) (Or.inl ⟨by first | rfl | kernel_rfl, by intro w _; go_simp⟩) HX ?_
  simp only [List.getElem_toArray, List.getElem_cons_succ, List.getElem_cons_zero, Act.put, List.setIfInBounds_toArray, List.set_cons_zero, List.set_cons_succ]
  refine wpAnyH_take (i := 9) (v := .string P3) rfl (by kernel_rfl) (by kernel_rfl) (by kernel_rfl) (fun _ _ _ h => h) (Or.inl ⟨by first | rfl | kernel_rfl, by intro w _; go_simp⟩) HX ?_
  simp only [List.getElem_toArray, List.getElem_cons_succ, List.getElem_cons_zero, Act.put, List.setIfInBounds_toArray, List.set_cons_zero, List.set_cons_succ]
  refine wpAnyH_take (i := 10) (v := .string T) rfl (by kernel_rfl) (by kernel_rfl) (by kernel_rfl) (fun _ _ _ h => h) (Or.inl ⟨by first | rfl | kernel_rfl, by intro w _; go_simp; rw [HT.out]⟩) HX ?_
  simp only [List.getElem_toArray, List.getElem_cons_succ, List.getElem_cons_zero, Act.put, List.setIfInBounds_toArray, List.set_cons_zero, List.set_cons_succ]
  refine wpAnyH_take (i := 11) (v := .string T) rfl (by kernel_rfl) (by kernel_rfl) (by kernel_rfl) (fun _ _ _ h => h) (Or.inl ⟨by first | rfl | kernel_rfl, by intro w _; go_simp⟩) HX ?_
  simp only [List.getElem_toArray, List.getElem_cons_succ, List.getElem_cons_zero, Act.put, List.setIfInBounds_toArray, List.set_cons_zero, List.set_cons_succ]
  refine wpAnyH_done (by kernel_rfl) ?_ _
  go_wp2_with fail
  refine wp_region_held (S := fun w' => TS w B1 kk (1 + (q : Int)) (r : Int) D w') (by kernel_rfl) ?_
  change wpAnyH _ _ _ _ _ _ _ _ (World.drew _)
  have HX := HX.drew
  generalize World.drew _ = W9 at *
  refine wpAnyH_take (i := 0) (v := .string T) rfl (by kernel_rfl) (by kernel_rfl) (by kernel_rfl) (fun _ _ _ h => h) (Or.inl ⟨by first | rfl | kernel_rfl, by intro w _; go_simp⟩) HX ?_
  simp only [List.getElem_toArray, List.getElem_cons_succ, List.getElem_cons_zero, Act.put, List.setIfInBounds_toArray, List.set_cons_zero, List.set_cons_succ]
  refine wpAnyH_take (i := 1) (v := .int .u8 kk) rfl (by kernel_rfl) (by kernel_rfl) (by kernel_rfl) (fun _ _ _ h => h) (Or.inl ⟨by first | rfl | kernel_rfl, by intro w _; go_simp⟩) HX ?_
  simp only [List.getElem_toArray, List.getElem_cons_succ, List.getElem_cons_zero, Act.put, List.setIfInBounds_toArray, List.set_cons_zero, List.set_cons_succ]
  refine wpAnyH_take (i := 2) (v := .pointer (some ⟨B1, 0, none⟩)) rfl (by kernel_rfl) (by kernel_rfl) (by kernel_rfl) (fun _ _ _ h => h) (Or.inl ⟨by first | rfl | kernel_rfl, by intro w _; go_simp⟩) HX ?_
  simp only [List.getElem_toArray, List.getElem_cons_succ, List.getElem_cons_zero, Act.put, List.setIfInBounds_toArray, List.set_cons_zero, List.set_cons_succ]
  refine wpAnyH_take (i := 3) (v := .int .u8 kk) rfl (by kernel_rfl) (by kernel_rfl) (by kernel_rfl) (fun _ _ _ h => h) (Or.inl ⟨by first | rfl | kernel_rfl, by intro w hw; have c0 := TS.c0 hw; have c1 := TS.c1 hw; have c2 := TS.c2 hw; have c3 := TS.c3 hw; go_simp⟩) HX ?_
  simp only [List.getElem_toArray, List.getElem_cons_succ, List.getElem_cons_zero, Act.put, List.setIfInBounds_toArray, List.set_cons_zero, List.set_cons_succ]
  refine wpAnyH_take (i := 4) (v := .bool true) rfl (by kernel_rfl) (by kernel_rfl) (by kernel_rfl) (fun _ _ _ h => h) (Or.inl ⟨by first | rfl | kernel_rfl, by intro w _; go_simp⟩) HX ?_
  simp only [List.getElem_toArray, List.getElem_cons_succ, List.getElem_cons_zero, Act.put, List.setIfInBounds_toArray, List.set_cons_zero, List.set_cons_succ]
  refine wpAnyH_take (i := 5) (v := .bool true) rfl (by kernel_rfl) (by kernel_rfl) (by kernel_rfl) (fun _ _ _ h => h) (Or.inl ⟨by first | rfl | kernel_rfl, by intro w _; go_simp⟩) HX ?_
  simp only [List.getElem_toArray, List.getElem_cons_succ, List.getElem_cons_zero, Act.put, List.setIfInBounds_toArray, List.set_cons_zero, List.set_cons_succ]
  refine wpAnyH_take (i := 6) (v := .string T) rfl (by kernel_rfl) (by kernel_rfl) (by kernel_rfl) (fun _ _ _ h => h) (Or.inl ⟨by first | rfl | kernel_rfl, by intro w _; go_simp⟩) HX ?_
  simp only [List.getElem_toArray, List.getElem_cons_succ, List.getElem_cons_zero, Act.put, List.setIfInBounds_toArray, List.set_cons_zero, List.set_cons_succ]
  refine wpAnyH_take (i := 7) (v := .int .u8 (dn : Int)) rfl (by kernel_rfl) (by kernel_rfl) (by kernel_rfl) (fun _ _ _ h => h) (Or.inl ⟨by first | rfl | kernel_rfl, by intro w _; go_simp⟩) HX ?_
  simp only [List.getElem_toArray, List.getElem_cons_succ, List.getElem_cons_zero, Act.put, List.setIfInBounds_toArray, List.set_cons_zero, List.set_cons_succ]
  refine wpAnyH_take (i := 8) (v := .int .i64 (dn : Int)) rfl (by kernel_rfl) (by kernel_rfl) (by kernel_rfl) (fun _ _ _ h => h) (Or.inl ⟨by first | rfl | kernel_rfl, by intro w _; go_simp⟩) HX ?_
  simp only [List.getElem_toArray, List.getElem_cons_succ, List.getElem_cons_zero, Act.put, List.setIfInBounds_toArray, List.set_cons_zero, List.set_cons_succ]
  refine wpAnyH_take (i := 9) (v := .string D) rfl (by kernel_rfl) (by kernel_rfl) (by kernel_rfl) (fun _ _ _ h => h) (Or.inl ⟨by first | rfl | kernel_rfl, by intro w _; go_simp⟩) HX ?_
  simp only [List.getElem_toArray, List.getElem_cons_succ, List.getElem_cons_zero, Act.put, List.setIfInBounds_toArray, List.set_cons_zero, List.set_cons_succ]
  refine wpAnyH_take (i := 10) (v := .int .i64 (dn : Int)) rfl (by kernel_rfl) (by kernel_rfl) (by kernel_rfl) (fun _ _ _ h => h) (Or.inl ⟨by first | rfl | kernel_rfl, by intro w _; go_simp⟩) HX ?_
  simp only [List.getElem_toArray, List.getElem_cons_succ, List.getElem_cons_zero, Act.put, List.setIfInBounds_toArray, List.set_cons_zero, List.set_cons_succ]
  refine wpAnyH_take (i := 11) (v := .bool true) rfl (by kernel_rfl) (by kernel_rfl) (by kernel_rfl) (fun _ _ _ h => h) (Or.inl ⟨by first | rfl | kernel_rfl, by intro w _; go_simp⟩) HX ?_
  simp only [List.getElem_toArray, List.getElem_cons_succ, List.getElem_cons_zero, Act.put, List.setIfInBounds_toArray, List.set_cons_zero, List.set_cons_succ]
  refine wpAnyH_take (i := 12) (v := .bool true) rfl (by kernel_rfl) (by kernel_rfl) (by kernel_rfl) (fun _ _ _ h => h) (Or.inl ⟨by first | rfl | kernel_rfl, by intro w _; go_simp⟩) HX ?_
  simp only [List.getElem_toArray, List.getElem_cons_succ, List.getElem_cons_zero, Act.put, List.setIfInBounds_toArray, List.set_cons_zero, List.set_cons_succ]
  refine wpAnyH_take (i := 13) (v := .bool true) rfl (by kernel_rfl) (by kernel_rfl) (by kernel_rfl) (fun _ _ _ h => h) (Or.inl ⟨by first | rfl | kernel_rfl, by intro w _; go_simp⟩) HX ?_
  simp only [List.getElem_toArray, List.getElem_cons_succ, List.getElem_cons_zero, Act.put, List.setIfInBounds_toArray, List.set_cons_zero, List.set_cons_succ]
  refine wpAnyH_take (i := 14) (v := .string T) rfl (by kernel_rfl) (by kernel_rfl) (by kernel_rfl) (fun _ _ _ h => h) (Or.inl ⟨by first | rfl | kernel_rfl, by intro w _; go_simp⟩) HX ?_
  simp only [List.getElem_toArray, List.getElem_cons_succ, List.getElem_cons_zero, Act.put, List.setIfInBounds_toArray, List.set_cons_zero, List.set_cons_succ]
  refine wpAnyH_take (i := 15) (v := .string D) rfl (by kernel_rfl) (by kernel_rfl) (by kernel_rfl) (fun _ _ _ h => h) (Or.inl ⟨by first | rfl | kernel_rfl, by intro w _; go_simp⟩) HX ?_
  simp only [List.getElem_toArray, List.getElem_cons_succ, List.getElem_cons_zero, Act.put, List.setIfInBounds_toArray, List.set_cons_zero, List.set_cons_succ]
  refine wpAnyH_take (i := 16) (v := .int .i64 (dn : Int)) rfl (by kernel_rfl) (by kernel_rfl) (by kernel_rfl) (fun _ _ _ h => h) (Or.inl ⟨by first | rfl | kernel_rfl, by intro w _; go_simp⟩) HX ?_
  simp only [List.getElem_toArray, List.getElem_cons_succ, List.getElem_cons_zero, Act.put, List.setIfInBounds_toArray, List.set_cons_zero, List.set_cons_succ]
  refine wpAnyH_take (i := 17) (v := .int .i64 (12 + (dn : Int))) rfl (by kernel_rfl) (by kernel_rfl) (by kernel_rfl) (fun _ _ _ h => h) (Or.inl ⟨by first | rfl | kernel_rfl, by intro w _; go_simp⟩) HX ?_
  simp only [List.getElem_toArray, List.getElem_cons_succ, List.getElem_cons_zero, Act.put, List.setIfInBounds_toArray, List.set_cons_zero, List.set_cons_succ]
  refine wpAnyH_take (i := 18) (v := .string D) rfl (by kernel_rfl) (by kernel_rfl) (by kernel_rfl) (fun _ _ _ h => h) (Or.inl ⟨by first | rfl | kernel_rfl, by intro w _; go_simp⟩) HX ?_
  simp only [List.getElem_toArray, List.getElem_cons_succ, List.getElem_cons_zero, Act.put, List.setIfInBounds_toArray, List.set_cons_zero, List.set_cons_succ]
  refine wpAnyH_take (i := 19) (v := .string D) rfl (by kernel_rfl) (by kernel_rfl) (by kernel_rfl) (fun _ _ _ h => h) (Or.inl ⟨by first | rfl | kernel_rfl, by intro w _; go_simp⟩) HX ?_
  simp only [List.getElem_toArray, List.getElem_cons_succ, List.getElem_cons_zero, Act.put, List.setIfInBounds_toArray, List.set_cons_zero, List.set_cons_succ]
  refine wpAnyH_take (i := 20) (v := .bool true) rfl (by kernel_rfl) (by kernel_rfl) (by kernel_rfl) (fun _ _ _ h => h) (Or.inl ⟨by first | rfl | kernel_rfl, by intro w _; go_simp⟩) HX ?_
  simp only [List.getElem_toArray, List.getElem_cons_succ, List.getElem_cons_zero, Act.put, List.setIfInBounds_toArray, List.set_cons_zero, List.set_cons_succ]
  refine wpAnyH_take (i := 21) (v := .bool true) rfl (by kernel_rfl) (by kernel_rfl) (by kernel_rfl) (fun _ _ _ h => h) (Or.inl ⟨by first | rfl | kernel_rfl, by intro w _; go_simp⟩) HX ?_
  simp only [List.getElem_toArray, List.getElem_cons_succ, List.getElem_cons_zero, Act.put, List.setIfInBounds_toArray, List.set_cons_zero, List.set_cons_succ]
  refine wpAnyH_take (i := 22) (v := .bool true) rfl (by kernel_rfl) (by kernel_rfl) (by kernel_rfl) (fun _ _ _ h => h) (Or.inl ⟨by first | rfl | kernel_rfl, by intro w _; go_simp⟩) HX ?_
  simp only [List.getElem_toArray, List.getElem_cons_succ, List.getElem_cons_zero, Act.put, List.setIfInBounds_toArray, List.set_cons_zero, List.set_cons_succ]
  refine wpAnyH_take (i := 23) (v := .string T) rfl (by kernel_rfl) (by kernel_rfl) (by kernel_rfl) (fun _ _ _ h => h) (Or.inl ⟨by first | rfl | kernel_rfl, by intro w _; go_simp⟩) HX ?_
  simp only [List.getElem_toArray, List.getElem_cons_succ, List.getElem_cons_zero, Act.put, List.setIfInBounds_toArray, List.set_cons_zero, List.set_cons_succ]
  refine wpAnyH_take (i := 24) (v := .string D) rfl (by kernel_rfl) (by kernel_rfl) (by kernel_rfl) (fun _ _ _ h => h) (Or.inl ⟨by first | rfl | kernel_rfl, by intro w _; go_simp⟩) HX ?_
  simp only [List.getElem_toArray, List.getElem_cons_succ, List.getElem_cons_zero, Act.put, List.setIfInBounds_toArray, List.set_cons_zero, List.set_cons_succ]
  refine wpAnyH_take (i := 25) (v := .int .i64 (dn : Int)) rfl (by kernel_rfl) (by kernel_rfl) (by kernel_rfl) (fun _ _ _ h => h) (Or.inl ⟨by first | rfl | kernel_rfl, by intro w _; go_simp⟩) HX ?_
  simp only [List.getElem_toArray, List.getElem_cons_succ, List.getElem_cons_zero, Act.put, List.setIfInBounds_toArray, List.set_cons_zero, List.set_cons_succ]
  refine wpAnyH_take (i := 26) (v := .int .i64 (12 + (dn : Int))) rfl (by kernel_rfl) (by kernel_rfl) (by kernel_rfl) (fun _ _ _ h => h) (Or.inl ⟨by first | rfl | kernel_rfl, by intro w _; go_simp⟩) HX ?_
  simp only [List.getElem_toArray, List.getElem_cons_succ, List.getElem_cons_zero, Act.put, List.setIfInBounds_toArray, List.set_cons_zero, List.set_cons_succ]
  refine wpAnyH_take (i := 27) (v := .string Z) rfl (by kernel_rfl) (by kernel_rfl) (by kernel_rfl) (fun _ _ _ h => h) (Or.inl ⟨by first | rfl | kernel_rfl, by intro w _; go_simp⟩) HX ?_
  simp only [List.getElem_toArray, List.getElem_cons_succ, List.getElem_cons_zero, Act.put, List.setIfInBounds_toArray, List.set_cons_zero, List.set_cons_succ]
  refine wpAnyH_take (i := 28) (v := .string D) rfl (by kernel_rfl) (by kernel_rfl) (by kernel_rfl) (fun _ _ _ h => h) (Or.inl ⟨by first | rfl | kernel_rfl, by intro w _; go_simp⟩) HX ?_
  simp only [List.getElem_toArray, List.getElem_cons_succ, List.getElem_cons_zero, Act.put, List.setIfInBounds_toArray, List.set_cons_zero, List.set_cons_succ]
  refine wpAnyH_take (i := 29) (v := .int .i64 (dn : Int)) rfl (by kernel_rfl) (by kernel_rfl) (by kernel_rfl) (fun _ _ _ h => h) (Or.inl ⟨by first | rfl | kernel_rfl, by intro w _; go_simp⟩) HX ?_
  simp only [List.getElem_toArray, List.getElem_cons_succ, List.getElem_cons_zero, Act.put, List.setIfInBounds_toArray, List.set_cons_zero, List.set_cons_succ]
  refine wpAnyH_take (i := 30) (v := .int .i64 ((112 - dn : Nat) : Int)) rfl (by kernel_rfl) (by kernel_rfl) (by kernel_rfl) (fun _ _ _ h => h) (Or.inl ⟨by first | rfl | kernel_rfl, by intro w _; go_simp⟩) HX ?_
  simp only [List.getElem_toArray, List.getElem_cons_succ, List.getElem_cons_zero, Act.put, List.setIfInBounds_toArray, List.set_cons_zero, List.set_cons_succ]
  refine wpAnyH_ready (rs := [31]) (by kernel_rfl) (by simp) (AllReadyH.cons (by simp only [List.getElem?_toArray, List.getElem?_cons_succ, List.getElem?_cons_zero]; rfl) (fun K hK => ?_) AllReadyH.nil)
  refine step_want (by first | rfl | kernel_rfl) ?_
  go_simp
  have HX := HX.next ((Below.refl _ _).alloc (Nat.le_refl _) (.cells C1 5))
  refine hK.out _ _ HX (fun _ => ?_)
  clear hK K
  try simp only [List.getElem_toArray, List.getElem_cons_succ, List.getElem_cons_zero, Act.put, List.setIfInBounds_toArray, List.set_cons_zero, List.set_cons_succ]
  refine wpAnyH_ready (rs := [32]) (by kernel_rfl) (by simp) (AllReadyH.cons (by simp only [List.getElem?_toArray, List.getElem?_cons_succ, List.getElem?_cons_zero]; rfl) (fun K hK => ?_) AllReadyH.nil)
  refine step_want (by first | rfl | kernel_rfl) ?_
  go_simp
  refine hK.out _ _ HX (fun _ => ?_)
  clear hK K
  try simp only [List.getElem_toArray, List.getElem_cons_succ, List.getElem_cons_zero, Act.put, List.setIfInBounds_toArray, List.set_cons_zero, List.set_cons_succ]
  refine wpAnyH_take (i := 33) (v := .bool true) rfl (by kernel_rfl) (by kernel_rfl) (by kernel_rfl) (fun _ _ _ h => h) (Or.inl ⟨by first | rfl | kernel_rfl, by intro w _; go_simp⟩) HX ?_
  simp only [List.getElem_toArray, List.getElem_cons_succ, List.getElem_cons_zero, Act.put, List.setIfInBounds_toArray, List.set_cons_zero, List.set_cons_succ]
  refine wpAnyH_take (i := 34) (v := .bool true) rfl (by kernel_rfl) (by kernel_rfl) (by kernel_rfl) (fun _ _ _ h => h) (Or.inl ⟨by first | rfl | kernel_rfl, by intro w _; go_simp⟩) HX ?_
  simp only [List.getElem_toArray, List.getElem_cons_succ, List.getElem_cons_zero, Act.put, List.setIfInBounds_toArray, List.set_cons_zero, List.set_cons_succ]
  refine wpAnyH_take (i := 35) (v := .bool true) rfl (by kernel_rfl) (by kernel_rfl) (by kernel_rfl) (fun _ _ _ h => h) (Or.inl ⟨by first | rfl | kernel_rfl, by intro w _; go_simp⟩) HX ?_
  simp only [List.getElem_toArray, List.getElem_cons_succ, List.getElem_cons_zero, Act.put, List.setIfInBounds_toArray, List.set_cons_zero, List.set_cons_succ]
  refine wpAnyH_ready (rs := [36]) (by kernel_rfl) (by simp) (AllReadyH.cons (by simp only [List.getElem?_toArray, List.getElem?_cons_succ, List.getElem?_cons_zero]; rfl) (fun K hK => ?_) AllReadyH.nil)
  refine step_want (by first | rfl | kernel_rfl) ?_
  go_simp
  refine (HDo.out _ HX.tab HX.tab4).mono ?_
  rintro e' w10 ⟨rfl, b10⟩
  have HX := HX.next b10
  clear b10
  refine hK.out _ _ HX (fun _ => ?_)
  clear hK K
  try simp only [List.getElem_toArray, List.getElem_cons_succ, List.getElem_cons_zero, Act.put, List.setIfInBounds_toArray, List.set_cons_zero, List.set_cons_succ]
  refine wpAnyH_take (i := 37) (v := .bool true) rfl (by kernel_rfl) (by kernel_rfl) (by kernel_rfl) (fun _ _ _ h => h) (Or.inl ⟨by first | rfl | kernel_rfl, by intro w _; go_simp⟩) HX ?_
  simp only [List.getElem_toArray, List.getElem_cons_succ, List.getElem_cons_zero, Act.put, List.setIfInBounds_toArray, List.set_cons_zero, List.set_cons_succ]
  refine wpAnyH_take (i := 38) (v := .bool true) rfl (by kernel_rfl) (by kernel_rfl) (by kernel_rfl) (fun _ _ _ h => h) (Or.inl ⟨by first | rfl | kernel_rfl, by intro w _; go_simp⟩) HX ?_
  simp only [List.getElem_toArray, List.getElem_cons_succ, List.getElem_cons_zero, Act.put, List.setIfInBounds_toArray, List.set_cons_zero, List.set_cons_succ]
  refine wpAnyH_done (by kernel_rfl) ?_ _
  have HB := HX.below
  clear HX
  go_wp2
  go_ret
  exact ⟨rfl, HB⟩
end Go.Proofs.YtcbmcbcpclgciabDoor
