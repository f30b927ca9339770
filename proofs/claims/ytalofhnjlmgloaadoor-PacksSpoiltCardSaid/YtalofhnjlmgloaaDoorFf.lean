/- Contracts of frames.isKind, isEpoch, isIndex and textOf. -/
import Derived.Test.YtalofhnjlmgloaaDoorFm
import Derived.Test.YtalofhnjlmgloaaDoorVc
import Derived.Test.YtalofhnjlmgloaaDoorCc
import Derived.Test.YtalofhnjlmgloaaDoorRp
import Derived.Test.YtalofhnjlmgloaaDoorLx
import Derived.Deep.RegionHeld3
namespace Go.Proofs.YtalofhnjlmgloaaDoor
open Go.RowKit

theorem isKind_any (k : Int) (w : World) : Calls Tryd.prog 37 #[.int .u8 k] w fun e w' => e = .returned (.bool (kindB k)) ∧ w' = w := by
  by_cases h1 : k = 68
  · subst h1
    go_enter Tryd.func37, Tryd.ntmps37
    go_wp2; go_ret; exact ⟨rfl, rfl⟩
  by_cases h2 : k = 80
  · subst h2; clear h1
    go_enter Tryd.func37, Tryd.ntmps37
    go_wp2; go_ret; exact ⟨rfl, rfl⟩
  have e1 : (k == 68) = false := beq_eq_false_iff_ne.2 h1
  have e2 : (k == 80) = false := beq_eq_false_iff_ne.2 h2
  have Hk : Hid (kindB k = (k == 83)) := by show _ = _; simp [kindB, e1, e2]
  clear h1 h2
  go_enter Tryd.func37, Tryd.ntmps37
  go_wp2; go_ret; exact ⟨ret_bool Hk.out.symm, rfl⟩
theorem isEpoch_any (n : Int) (w : World) : Calls Tryd.prog 38 #[.int .i64 n] w fun e w' => e = .returned (.bool (epochB n)) ∧ w' = w := by
  by_cases h0 : 1 ≤ n
  · go_enter Tryd.func38, Tryd.ntmps38
    go_wp2; go_ret; exact ⟨ret_bool (by simp [epochB, h0]), rfl⟩
  · go_enter Tryd.func38, Tryd.ntmps38
    go_wp2; go_ret; exact ⟨ret_bool (by simp [epochB]; omega), rfl⟩
theorem isIndex_any (n : Int) (w : World) : Calls Tryd.prog 39 #[.int .i64 n] w fun e w' => e = .returned (.bool (indexB n)) ∧ w' = w := by
  by_cases h0 : 0 ≤ n
  · go_enter Tryd.func39, Tryd.ntmps39
    go_wp2; go_ret; exact ⟨ret_bool (by simp [indexB, h0]), rfl⟩
  · go_enter Tryd.func39, Tryd.ntmps39
    go_wp2; go_ret; exact ⟨ret_bool (by simp [indexB]; omega), rfl⟩
/-- What stays while a frame's text is made: the frame in its box, the tables. -/
structure TS (w : World) (B : Nat) (k e i : Int) (D : ByteArray) (w' : World) : Prop where
  c0 : w'.cell? ⟨B, 0, none⟩ = some (.int .u8 k)
  c1 : w'.cell? ⟨B, 1, none⟩ = some (.int .i64 e)
  c2 : w'.cell? ⟨B, 2, none⟩ = some (.int .i64 i)
  c3 : w'.cell? ⟨B, 3, none⟩ = some (.string D)
  tab : Tab w'
  tab4 : Tab4 w'
  below : Below w.heap.size w w'
  lt : B < w'.heap.size
  size : w.heap.size ≤ w'.heap.size
theorem TS.next {w : World} {B : Nat} {k e i : Int} {D : ByteArray} {w1 w2 : World} (h : TS w B k e i D w1) (b : Below w1.heap.size w1 w2) : TS w B k e i D w2 :=
  ⟨(b.cell (p := ⟨B, 0, none⟩) h.lt).trans h.c0, (b.cell (p := ⟨B, 1, none⟩) h.lt).trans h.c1, (b.cell (p := ⟨B, 2, none⟩) h.lt).trans h.c2, (b.cell (p := ⟨B, 3, none⟩) h.lt).trans h.c3, h.tab.below b, h.tab4.below b h.tab4.lt, h.below.trans (b.mono h.size), Nat.lt_of_lt_of_le h.lt b.size, Nat.le_trans h.size b.size⟩
theorem TS.drew {w : World} {B : Nat} {k e i : Int} {D : ByteArray} {w1 : World} (h : TS w B k e i D w1) : TS w B k e i D w1.drew :=
  ⟨h.c0, h.c1, h.c2, h.c3, h.tab, h.tab4, h.below.drew, h.lt, h.size⟩
theorem TS.four {w : World} {B : Nat} {k e i : Int} {D : ByteArray} {w' : World} (h : TS w B k e i D w') : w'.cell? ⟨B, 0, none⟩ = some (.int .u8 k) ∧ w'.cell? ⟨B, 1, none⟩ = some (.int .i64 e) ∧ w'.cell? ⟨B, 2, none⟩ = some (.int .i64 i) ∧ w'.cell? ⟨B, 3, none⟩ = some (.string D) ∧ TS w B k e i D w' := ⟨h.c0, h.c1, h.c2, h.c3, h⟩
theorem TS.start {w : World} {k e i : Int} {D : ByteArray} {t : TypeId} (hT : Tab w) (hT4 : Tab4 w) : TS w w.heap.size k e i D (w.alloc (.cells #[.int .u8 k, .int .i64 e, .int .i64 i, .string D] t)) :=
  have hb : Below w.heap.size w (w.alloc (.cells #[.int .u8 k, .int .i64 e, .int .i64 i, .string D] t)) := (Below.refl _ _).alloc (Nat.le_refl _) _
  have hg := heap_alloc_last w (.cells #[.int .u8 k, .int .i64 e, .int .i64 i, .string D] t)
  ⟨by rw [cell_of_row _ _ _ _ _ _ hg]; rfl, by rw [cell_of_row _ _ _ _ _ _ hg]; rfl, by rw [cell_of_row _ _ _ _ _ _ hg]; rfl, by rw [cell_of_row _ _ _ _ _ _ hg]; rfl, hT.below hb, hT4.below hb hT4.lt, hb, by simp, by simp⟩
theorem putL_1 {n : Int} (h0 : 0 ≤ n) (h1 : n < 256) : putL n 1 = bytesOf n 1 := by
  unfold putL; rw [show fitB n 1 = true by simp [fitB, lim]; omega]; rfl
theorem putL_2 {n : Int} (h0 : 0 ≤ n) (h1 : n < 65536) : putL n 2 = bytesOf n 2 := by
  unfold putL; rw [show fitB n 2 = true by simp [fitB, lim]; omega]; rfl
theorem putL_4 {n : Int} (h0 : 0 ≤ n) (h1 : n < 4294967296) : putL n 4 = bytesOf n 4 := by
  unfold putL; rw [show fitB n 4 = true by simp [fitB, lim]; omega]; rfl
set_option maxRecDepth 100000 in
set_option maxHeartbeats 4000000 in
set_option linter.unusedSimpArgs false in
theorem textOf_any (f : Fr) (hm : mayB f = true) (hl : f.d.length ≤ 112) (w : World) (hT : Tab w) (hT4 : Tab4 w) :
    Calls Tryd.prog 41 #[frV f] w fun e w' => e = .returned (.string (S (textL f))) ∧ Below w.heap.size w w' := by
  obtain ⟨hk, he, hi⟩ := mayB_of hm
  obtain ⟨k, ep, i, d⟩ := f
  simp only at hk he hi hl
  have k0 : 0 ≤ k ∧ k < 256 := by omega
  have hP1 : Hid (∀ w : World, Tab w → Calls Tryd.prog 48 #[.int .i64 k, .int .i64 1] w fun e w' => e = .returned (.string (S (bytesOf k 1))) ∧ Below w.heap.size w w') := fun w h => by
    have := put_any k 1 w h (by omega); rwa [putL_1 k0.1 k0.2] at this
  have hP2 : Hid (∀ w : World, Tab w → Calls Tryd.prog 48 #[.int .i64 ep, .int .i64 4] w fun e w' => e = .returned (.string (S (bytesOf ep 4))) ∧ Below w.heap.size w w') := fun w h => by
    have := put_any ep 4 w h (by omega); rwa [putL_4 (by omega) (by omega)] at this
  have hP3 : Hid (∀ w : World, Tab w → Calls Tryd.prog 48 #[.int .i64 i, .int .i64 2] w fun e w' => e = .returned (.string (S (bytesOf i 2))) ∧ Below w.heap.size w w') := fun w h => by
    have := put_any i 2 w h (by omega); rwa [putL_2 (by omega) (by omega)] at this
  have hP4 : Hid (∀ w : World, Tab w → Calls Tryd.prog 48 #[.int .i64 (d.length : Int), .int .i64 1] w fun e w' => e = .returned (.string (S (bytesOf d.length 1))) ∧ Below w.heap.size w w') := fun w h => by
    have := put_any d.length 1 w h (by omega); rwa [putL_1 (by omega) (by omega)] at this
  have hP5 : Hid (∀ w : World, Tab w → Calls Tryd.prog 48 #[.int .i64 (iw (sumF ⟨k, ep, i, d⟩)), .int .i64 4] w fun e' w' => e' = .returned (.string (S (bytesOf (iw (sumF ⟨k, ep, i, d⟩)) 4))) ∧ Below w.heap.size w w') := fun w h => by
    have a0 := iw_nonneg (sumF ⟨k, ep, i, d⟩)
    have a1 := iw_lt (sumF ⟨k, ep, i, d⟩)
    have := put_any (iw (sumF ⟨k, ep, i, d⟩)) 4 w h (by omega); rwa [putL_4 (by omega) (by omega)] at this
  have hH : Hid (S (bytesOf k 1) ++ S (bytesOf ep 4) ++ S (bytesOf i 2) ++ S (bytesOf d.length 1) = S (headL ⟨k, ep, i, d⟩)) := by
    show _ = _
    rw [S_append, S_append, S_append]; simp [headL, List.append_assoc]
  have hS1 : Hid (∀ w : World, Tab4 w → Calls Tryd.prog 50 #[.string (S (headL ⟨k, ep, i, d⟩))] w fun e' w' => e' = .returned (.int .u32 (iw (moreL 0#32 (headL ⟨k, ep, i, d⟩)))) ∧ w' = w) := fun w h => sumS_any _ w h (by rw [headL_length]; omega)
  have hS2 : Hid (∀ w : World, Tab4 w → Calls Tryd.prog 49 #[.int .u32 (iw (moreL 0#32 (headL ⟨k, ep, i, d⟩))), .string (S d)] w fun e' w' => e' = .returned (.int .u32 (iw (sumF ⟨k, ep, i, d⟩))) ∧ w' = w) := fun w h => by
    have := moreS_any (moreL 0#32 (headL ⟨k, ep, i, d⟩)) d w h (by omega)
    rwa [moreL_append] at this
  have hRp : Hid (∀ w : World, Calls Tryd.prog 51 #[.string ⟨#[0]⟩, .int .i64 (112 - (d.length : Int))] w fun e w' => e = .returned (.string (S (List.replicate (112 - d.length) 0))) ∧ Below w.heap.size w w') := fun w => by
    rw [show (112 : Int) - (d.length : Int) = ((112 - d.length : Nat) : Int) by omega]
    exact repeat_any _ w (by omega)
  have hE : Hid (S (headL ⟨k, ep, i, d⟩) ++ S (bytesOf (iw (sumF ⟨k, ep, i, d⟩)) 4) ++ S d ++ S (List.replicate (112 - d.length) 0) = S (textL ⟨k, ep, i, d⟩)) := by
    show _ = _
    rw [S_append, S_append, S_append]; simp [textL, List.append_assoc]
  have z1 : (S (bytesOf k 1)).size = 1 := by simp
  have z2 : (S (bytesOf ep 4)).size = 4 := by simp
  have z3 : (S (bytesOf i 2)).size = 2 := by simp
  have z4 : (S (bytesOf d.length 1)).size = 1 := by simp
  have z5 : (S (bytesOf (iw (sumF ⟨k, ep, i, d⟩)) 4)).size = 4 := by simp
  have z6 : (S d).size = d.length := by simp
  have z7 : (S (List.replicate (112 - d.length) 0)).size = 112 - d.length := by simp
  have z8 : (S (headL ⟨k, ep, i, d⟩)).size = 8 := by rw [S_size, headL_length]
  have g0 := iw_nonneg (sumF ⟨k, ep, i, d⟩)
  have g1 := iw_lt (sumF ⟨k, ep, i, d⟩)
  have HS0 := TS.start (k := k) (e := ep) (i := i) (D := S d) (t := 39) hT hT4
  show Calls Tryd.prog 41 #[.agg #[.int .u8 k, .int .i64 ep, .int .i64 i, .string (S d)]] w fun e' w' => e' = .returned (.string (S (textL ⟨k, ep, i, d⟩))) ∧ Below w.heap.size w w'
  generalize iw (moreL 0#32 (headL ⟨k, ep, i, d⟩)) = Q at *
  generalize iw (sumF ⟨k, ep, i, d⟩) = G at *
  generalize S (textL ⟨k, ep, i, d⟩) = R at *
  generalize S (headL ⟨k, ep, i, d⟩) = H at *
  generalize S (bytesOf k 1) = A1 at *
  generalize S (bytesOf ep 4) = A2 at *
  generalize S (bytesOf i 2) = A3 at *
  generalize S (bytesOf d.length 1) = A4 at *
  generalize S (bytesOf G 4) = A5 at *
  generalize S (List.replicate (112 - d.length) 0) = A6 at *
  generalize S d = D at *
  generalize d.length = dn at *
  have y1 : 12 + dn ≤ 9223372036854775807 := by omega
  have y2 : 12 + dn + (112 - dn) ≤ 9223372036854775807 := by omega
  have wk : IntKind.i64.wrap k = k := by rw [IntKind.wrap_i64]; omega
  have wg : IntKind.i64.wrap G = G := by rw [IntKind.wrap_i64]; omega
  clear hT hT4 hm hk
  go_enter Tryd.func41, Tryd.ntmps41
  go_wp2_with fail
  refine wp_region_held (S := fun w' => TS w w.heap.size k ep i D w') (by kernel_rfl) ?_
  change wpAnyH _ _ _ _ _ _ _ _ (World.drew _)
  have HX := HS0.drew
  refine wpAnyH_take (i := 0) (v := .pointer (some ⟨w.heap.size, 0, none⟩)) rfl (by kernel_rfl) (by kernel_rfl) (by kernel_rfl) (fun _ _ _ h => h) (Or.inl ⟨by rfl, by intro w _; go_simp⟩) HX ?_
  simp only [List.getElem_toArray, List.getElem_cons_succ, List.getElem_cons_zero, Act.put, List.setIfInBounds_toArray, List.set_cons_zero, List.set_cons_succ]
  refine wpAnyH_take (i := 1) (v := .int .u8 k) rfl (by kernel_rfl) (by kernel_rfl) (by kernel_rfl) (fun _ _ _ h => h) (Or.inl ⟨by rfl, by intro w hw; have hc := TS.c0 hw; go_simp⟩) HX ?_
  simp only [List.getElem_toArray, List.getElem_cons_succ, List.getElem_cons_zero, Act.put, List.setIfInBounds_toArray, List.set_cons_zero, List.set_cons_succ]
  refine wpAnyH_take (i := 2) (v := .int .i64 k) rfl (by kernel_rfl) (by kernel_rfl) (by kernel_rfl) (fun _ _ _ h => h) (Or.inl ⟨by rfl, by intro w _; go_simp⟩) HX ?_
  simp only [List.getElem_toArray, List.getElem_cons_succ, List.getElem_cons_zero, Act.put, List.setIfInBounds_toArray, List.set_cons_zero, List.set_cons_succ]
  refine wpAnyH_take (i := 4) (v := .pointer (some ⟨w.heap.size, 1, none⟩)) rfl (by kernel_rfl) (by kernel_rfl) (by kernel_rfl) (fun _ _ _ h => h) (Or.inl ⟨by rfl, by intro w _; go_simp⟩) HX ?_
  simp only [List.getElem_toArray, List.getElem_cons_succ, List.getElem_cons_zero, Act.put, List.setIfInBounds_toArray, List.set_cons_zero, List.set_cons_succ]
  refine wpAnyH_take (i := 5) (v := .int .i64 ep) rfl (by kernel_rfl) (by kernel_rfl) (by kernel_rfl) (fun _ _ _ h => h) (Or.inl ⟨by rfl, by intro w hw; have hc := TS.c1 hw; go_simp⟩) HX ?_
  simp only [List.getElem_toArray, List.getElem_cons_succ, List.getElem_cons_zero, Act.put, List.setIfInBounds_toArray, List.set_cons_zero, List.set_cons_succ]
  refine wpAnyH_take (i := 8) (v := .pointer (some ⟨w.heap.size, 2, none⟩)) rfl (by kernel_rfl) (by kernel_rfl) (by kernel_rfl) (fun _ _ _ h => h) (Or.inl ⟨by rfl, by intro w _; go_simp⟩) HX ?_
  simp only [List.getElem_toArray, List.getElem_cons_succ, List.getElem_cons_zero, Act.put, List.setIfInBounds_toArray, List.set_cons_zero, List.set_cons_succ]
  refine wpAnyH_take (i := 9) (v := .int .i64 i) rfl (by kernel_rfl) (by kernel_rfl) (by kernel_rfl) (fun _ _ _ h => h) (Or.inl ⟨by rfl, by intro w hw; have hc := TS.c2 hw; go_simp⟩) HX ?_
  simp only [List.getElem_toArray, List.getElem_cons_succ, List.getElem_cons_zero, Act.put, List.setIfInBounds_toArray, List.set_cons_zero, List.set_cons_succ]
  refine wpAnyH_take (i := 12) (v := .pointer (some ⟨w.heap.size, 3, none⟩)) rfl (by kernel_rfl) (by kernel_rfl) (by kernel_rfl) (fun _ _ _ h => h) (Or.inl ⟨by rfl, by intro w _; go_simp⟩) HX ?_
  simp only [List.getElem_toArray, List.getElem_cons_succ, List.getElem_cons_zero, Act.put, List.setIfInBounds_toArray, List.set_cons_zero, List.set_cons_succ]
  refine wpAnyH_take (i := 13) (v := .string D) rfl (by kernel_rfl) (by kernel_rfl) (by kernel_rfl) (fun _ _ _ h => h) (Or.inl ⟨by rfl, by intro w hw; have hc := TS.c3 hw; go_simp⟩) HX ?_
  simp only [List.getElem_toArray, List.getElem_cons_succ, List.getElem_cons_zero, Act.put, List.setIfInBounds_toArray, List.set_cons_zero, List.set_cons_succ]
  refine wpAnyH_take (i := 14) (v := .int .i64 dn) rfl (by kernel_rfl) (by kernel_rfl) (by kernel_rfl) (fun _ _ _ h => h) (Or.inl ⟨by rfl, by intro w _; go_simp⟩) HX ?_
  simp only [List.getElem_toArray, List.getElem_cons_succ, List.getElem_cons_zero, Act.put, List.setIfInBounds_toArray, List.set_cons_zero, List.set_cons_succ]
  refine wpAnyH_ready (rs := [3]) (by kernel_rfl) (by simp) (AllReadyH.cons (by simp only [List.getElem?_toArray, List.getElem?_cons_succ, List.getElem?_cons_zero]; rfl) (fun K hK => ?_) AllReadyH.nil)
  refine step_plain rfl ?_
  go_simp
  refine (hP1.out _ HX.tab).mono ?_
  rintro e' w1 ⟨rfl, b1⟩
  have HX := HX.next b1
  clear b1
  refine hK.out _ _ HX (fun _ => ?_)
  clear hK K
  try simp only [List.getElem_toArray, List.getElem_cons_succ, List.getElem_cons_zero, Act.put, List.setIfInBounds_toArray, List.set_cons_zero, List.set_cons_succ]
  refine wpAnyH_ready (rs := [6]) (by kernel_rfl) (by simp) (AllReadyH.cons (by simp only [List.getElem?_toArray, List.getElem?_cons_succ, List.getElem?_cons_zero]; rfl) (fun K hK => ?_) AllReadyH.nil)
  refine step_plain rfl ?_
  go_simp
  refine (hP2.out _ HX.tab).mono ?_
  rintro e' w2 ⟨rfl, b2⟩
  have HX := HX.next b2
  clear b2
  refine hK.out _ _ HX (fun _ => ?_)
  clear hK K
  try simp only [List.getElem_toArray, List.getElem_cons_succ, List.getElem_cons_zero, Act.put, List.setIfInBounds_toArray, List.set_cons_zero, List.set_cons_succ]
  refine wpAnyH_take (i := 7) (v := .string (A1 ++ A2)) rfl (by kernel_rfl) (by kernel_rfl) (by kernel_rfl) (fun _ _ _ h => h) (Or.inl ⟨by rfl, by intro w _; go_simp⟩) HX ?_
  simp only [List.getElem_toArray, List.getElem_cons_succ, List.getElem_cons_zero, Act.put, List.setIfInBounds_toArray, List.set_cons_zero, List.set_cons_succ]
  refine wpAnyH_ready (rs := [10]) (by kernel_rfl) (by simp) (AllReadyH.cons (by simp only [List.getElem?_toArray, List.getElem?_cons_succ, List.getElem?_cons_zero]; rfl) (fun K hK => ?_) AllReadyH.nil)
  refine step_plain rfl ?_
  go_simp
  refine (hP3.out _ HX.tab).mono ?_
  rintro e' w3 ⟨rfl, b3⟩
  have HX := HX.next b3
  clear b3
  refine hK.out _ _ HX (fun _ => ?_)
  clear hK K
  try simp only [List.getElem_toArray, List.getElem_cons_succ, List.getElem_cons_zero, Act.put, List.setIfInBounds_toArray, List.set_cons_zero, List.set_cons_succ]
  refine wpAnyH_take (i := 11) (v := .string (A1 ++ A2 ++ A3)) rfl (by kernel_rfl) (by kernel_rfl) (by kernel_rfl) (fun _ _ _ h => h) (Or.inl ⟨by rfl, by intro w _; go_simp⟩) HX ?_
  simp only [List.getElem_toArray, List.getElem_cons_succ, List.getElem_cons_zero, Act.put, List.setIfInBounds_toArray, List.set_cons_zero, List.set_cons_succ]
  refine wpAnyH_ready (rs := [15]) (by kernel_rfl) (by simp) (AllReadyH.cons (by simp only [List.getElem?_toArray, List.getElem?_cons_succ, List.getElem?_cons_zero]; rfl) (fun K hK => ?_) AllReadyH.nil)
  refine step_plain rfl ?_
  go_simp
  refine (hP4.out _ HX.tab).mono ?_
  rintro e' w4 ⟨rfl, b4⟩
  have HX := HX.next b4
  clear b4
  refine hK.out _ _ HX (fun _ => ?_)
  clear hK K
  try simp only [List.getElem_toArray, List.getElem_cons_succ, List.getElem_cons_zero, Act.put, List.setIfInBounds_toArray, List.set_cons_zero, List.set_cons_succ]
  refine wpAnyH_take (i := 16) (v := .string H) rfl (by kernel_rfl) (by kernel_rfl) (by kernel_rfl) (fun _ _ _ h => h) (Or.inl ⟨by rfl, by intro w _; go_simp; rw [hH.out]⟩) HX ?_
  simp only [List.getElem_toArray, List.getElem_cons_succ, List.getElem_cons_zero, Act.put, List.setIfInBounds_toArray, List.set_cons_zero, List.set_cons_succ]
  refine wpAnyH_take (i := 17) (v := .string H) rfl (by kernel_rfl) (by kernel_rfl) (by kernel_rfl) (fun _ _ _ h => h) (Or.inl ⟨by rfl, by intro w _; go_simp⟩) HX ?_
  simp only [List.getElem_toArray, List.getElem_cons_succ, List.getElem_cons_zero, Act.put, List.setIfInBounds_toArray, List.set_cons_zero, List.set_cons_succ]
  refine wpAnyH_done (by kernel_rfl) ?_ _
  go_wp2_with fail
  refine wp_region_held (S := fun w' => TS w w.heap.size k ep i D w') (by kernel_rfl) ?_
  change wpAnyH _ _ _ _ _ _ _ _ (World.drew _)
  have HX := HX.drew
  refine wpAnyH_take (i := 0) (v := .string H) rfl (by kernel_rfl) (by kernel_rfl) (by kernel_rfl) (fun _ _ _ h => h) (Or.inl ⟨by rfl, by intro w _; go_simp⟩) HX ?_
  simp only [List.getElem_toArray, List.getElem_cons_succ, List.getElem_cons_zero, Act.put, List.setIfInBounds_toArray, List.set_cons_zero, List.set_cons_succ]
  refine wpAnyH_take (i := 2) (v := .pointer (some ⟨w.heap.size, 3, none⟩)) rfl (by kernel_rfl) (by kernel_rfl) (by kernel_rfl) (fun _ _ _ h => h) (Or.inl ⟨by rfl, by intro w _; go_simp⟩) HX ?_
  simp only [List.getElem_toArray, List.getElem_cons_succ, List.getElem_cons_zero, Act.put, List.setIfInBounds_toArray, List.set_cons_zero, List.set_cons_succ]
  refine wpAnyH_take (i := 3) (v := .string D) rfl (by kernel_rfl) (by kernel_rfl) (by kernel_rfl) (fun _ _ _ h => h) (Or.inl ⟨by rfl, by intro w hw; have hc := TS.c3 hw; go_simp⟩) HX ?_
  simp only [List.getElem_toArray, List.getElem_cons_succ, List.getElem_cons_zero, Act.put, List.setIfInBounds_toArray, List.set_cons_zero, List.set_cons_succ]
  refine wpAnyH_ready (rs := [1]) (by kernel_rfl) (by simp) (AllReadyH.cons (by simp only [List.getElem?_toArray, List.getElem?_cons_succ, List.getElem?_cons_zero]; rfl) (fun K hK => ?_) AllReadyH.nil)
  refine step_plain rfl ?_
  go_simp
  refine (hS1.out _ HX.tab4).mono ?_
  rintro e' w5 ⟨rfl, rfl⟩
  refine hK.out _ _ HX (fun _ => ?_)
  clear hK K
  try simp only [List.getElem_toArray, List.getElem_cons_succ, List.getElem_cons_zero, Act.put, List.setIfInBounds_toArray, List.set_cons_zero, List.set_cons_succ]
  refine wpAnyH_ready (rs := [4]) (by kernel_rfl) (by simp) (AllReadyH.cons (by simp only [List.getElem?_toArray, List.getElem?_cons_succ, List.getElem?_cons_zero]; rfl) (fun K hK => ?_) AllReadyH.nil)
  refine step_plain rfl ?_
  go_simp
  refine (hS2.out _ HX.tab4).mono ?_
  rintro e' w6 ⟨rfl, rfl⟩
  refine hK.out _ _ HX (fun _ => ?_)
  clear hK K
  try simp only [List.getElem_toArray, List.getElem_cons_succ, List.getElem_cons_zero, Act.put, List.setIfInBounds_toArray, List.set_cons_zero, List.set_cons_succ]
  refine wpAnyH_take (i := 5) (v := .int .u32 G) rfl (by kernel_rfl) (by kernel_rfl) (by kernel_rfl) (fun _ _ _ h => h) (Or.inl ⟨by rfl, by intro w _; go_simp⟩) HX ?_
  simp only [List.getElem_toArray, List.getElem_cons_succ, List.getElem_cons_zero, Act.put, List.setIfInBounds_toArray, List.set_cons_zero, List.set_cons_succ]
  refine wpAnyH_done (by kernel_rfl) ?_ _
  have hc3 := HX.c3
  go_wp2_with fail
  refine (hRp.out _).mono ?_
  rintro e' w7 ⟨rfl, b7⟩
  clear hc3
  have HX := HX.next b7
  clear b7
  go_wp2_with fail
  refine wp_region_held (S := fun w' => TS w w.heap.size k ep i D w') (by kernel_rfl) ?_
  change wpAnyH _ _ _ _ _ _ _ _ (World.drew _)
  have HX := HX.drew
  refine wpAnyH_take (i := 0) (v := .string H) rfl (by kernel_rfl) (by kernel_rfl) (by kernel_rfl) (fun _ _ _ h => h) (Or.inl ⟨by rfl, by intro w _; go_simp⟩) HX ?_
  simp only [List.getElem_toArray, List.getElem_cons_succ, List.getElem_cons_zero, Act.put, List.setIfInBounds_toArray, List.set_cons_zero, List.set_cons_succ]
  refine wpAnyH_take (i := 1) (v := .int .u32 G) rfl (by kernel_rfl) (by kernel_rfl) (by kernel_rfl) (fun _ _ _ h => h) (Or.inl ⟨by rfl, by intro w _; go_simp⟩) HX ?_
  simp only [List.getElem_toArray, List.getElem_cons_succ, List.getElem_cons_zero, Act.put, List.setIfInBounds_toArray, List.set_cons_zero, List.set_cons_succ]
  refine wpAnyH_take (i := 2) (v := .int .i64 G) rfl (by kernel_rfl) (by kernel_rfl) (by kernel_rfl) (fun _ _ _ h => h) (Or.inl ⟨by rfl, by intro w _; go_simp⟩) HX ?_
  simp only [List.getElem_toArray, List.getElem_cons_succ, List.getElem_cons_zero, Act.put, List.setIfInBounds_toArray, List.set_cons_zero, List.set_cons_succ]
  refine wpAnyH_take (i := 5) (v := .pointer (some ⟨w.heap.size, 3, none⟩)) rfl (by kernel_rfl) (by kernel_rfl) (by kernel_rfl) (fun _ _ _ h => h) (Or.inl ⟨by rfl, by intro w _; go_simp⟩) HX ?_
  simp only [List.getElem_toArray, List.getElem_cons_succ, List.getElem_cons_zero, Act.put, List.setIfInBounds_toArray, List.set_cons_zero, List.set_cons_succ]
  refine wpAnyH_take (i := 6) (v := .string D) rfl (by kernel_rfl) (by kernel_rfl) (by kernel_rfl) (fun _ _ _ h => h) (Or.inl ⟨by rfl, by intro w hw; have hc := TS.c3 hw; go_simp⟩) HX ?_
  simp only [List.getElem_toArray, List.getElem_cons_succ, List.getElem_cons_zero, Act.put, List.setIfInBounds_toArray, List.set_cons_zero, List.set_cons_succ]
  refine wpAnyH_take (i := 8) (v := .string A6) rfl (by kernel_rfl) (by kernel_rfl) (by kernel_rfl) (fun _ _ _ h => h) (Or.inl ⟨by rfl, by intro w _; go_simp⟩) HX ?_
  simp only [List.getElem_toArray, List.getElem_cons_succ, List.getElem_cons_zero, Act.put, List.setIfInBounds_toArray, List.set_cons_zero, List.set_cons_succ]
  refine wpAnyH_ready (rs := [3]) (by kernel_rfl) (by simp) (AllReadyH.cons (by simp only [List.getElem?_toArray, List.getElem?_cons_succ, List.getElem?_cons_zero]; rfl) (fun K hK => ?_) AllReadyH.nil)
  refine step_plain rfl ?_
  go_simp
  refine (hP5.out _ HX.tab).mono ?_
  rintro e' w8 ⟨rfl, b8⟩
  have HX := HX.next b8
  clear b8
  refine hK.out _ _ HX (fun _ => ?_)
  clear hK K
  try simp only [List.getElem_toArray, List.getElem_cons_succ, List.getElem_cons_zero, Act.put, List.setIfInBounds_toArray, List.set_cons_zero, List.set_cons_succ]
  refine wpAnyH_take (i := 4) (v := .string (H ++ A5)) rfl (by kernel_rfl) (by kernel_rfl) (by kernel_rfl) (fun _ _ _ h => h) (Or.inl ⟨by rfl, by intro w _; go_simp⟩) HX ?_
  simp only [List.getElem_toArray, List.getElem_cons_succ, List.getElem_cons_zero, Act.put, List.setIfInBounds_toArray, List.set_cons_zero, List.set_cons_succ]
  refine wpAnyH_take (i := 7) (v := .string (H ++ A5 ++ D)) rfl (by kernel_rfl) (by kernel_rfl) (by kernel_rfl) (fun _ _ _ h => h) (Or.inl ⟨by rfl, by intro w _; go_simp⟩) HX ?_
  simp only [List.getElem_toArray, List.getElem_cons_succ, List.getElem_cons_zero, Act.put, List.setIfInBounds_toArray, List.set_cons_zero, List.set_cons_succ]
  refine wpAnyH_take (i := 9) (v := .string R) rfl (by kernel_rfl) (by kernel_rfl) (by kernel_rfl) (fun _ _ _ h => h) (Or.inl ⟨by rfl, by intro w _; go_simp; rw [hE.out, if_neg (by omega)]⟩) HX ?_
  simp only [List.getElem_toArray, List.getElem_cons_succ, List.getElem_cons_zero, Act.put, List.setIfInBounds_toArray, List.set_cons_zero, List.set_cons_succ]
  refine wpAnyH_take (i := 10) (v := .string R) rfl (by kernel_rfl) (by kernel_rfl) (by kernel_rfl) (fun _ _ _ h => h) (Or.inl ⟨by rfl, by intro w _; go_simp⟩) HX ?_
  simp only [List.getElem_toArray, List.getElem_cons_succ, List.getElem_cons_zero, Act.put, List.setIfInBounds_toArray, List.set_cons_zero, List.set_cons_succ]
  refine wpAnyH_done (by kernel_rfl) ?_ _
  have HBe := HX.below
  clear HX
  go_wp2
  go_ret
  exact ⟨rfl, HBe⟩
end Go.Proofs.YtalofhnjlmgloaaDoor
