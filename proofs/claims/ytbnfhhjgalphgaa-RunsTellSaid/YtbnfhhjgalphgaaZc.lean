/- What Give's two closures say (layer 7). -/
import Derived.Test.YtbnfhhjgalphgaaZb
namespace Go.Proofs.Ytbnfhhjgalphgaa
open Go.RowKit

set_option maxRecDepth 100000 in
set_option maxHeartbeats 1000000 in
set_option linter.unusedSimpArgs false in
/-- Does a run end where the one that is given begins, or behind? -/
theorem give1_any {w : World} {B : Nat} {r : Rn} (hc0 : w.cell? ⟨B, 0, none⟩ = some (.int .i64 r.s)) (hc1 : w.cell? ⟨B, 1, none⟩ = some (.int .i64 r.c)) (hr : -9223372036854775808 ≤ r.s + r.c ∧ r.s + r.c < 9223372036854775808) :
    FnSays w (.func (.func 28) #[] #[.pointer (some ⟨B, 0, none⟩)]) (fun x => decide (r.s ≤ x.e)) := by
  refine ⟨_, B, rfl, eg_give1, fun x w1 hx hb => ?_⟩
  have hlB := World.block_lt_of_cell? w _ hc0
  have hd0 : w1.cell? ⟨B, 0, none⟩ = some (.int .i64 r.s) := by rw [World.cell?_of_block (hb.block B hlB)]; exact hc0
  have hd1 : w1.cell? ⟨B, 1, none⟩ = some (.int .i64 r.c) := by rw [World.cell?_of_block (hb.block B hlB)]; exact hc1
  obtain ⟨w2, hw2⟩ : ∃ w2, w1.alloc (.cells #[.int .i64 x.s, .int .i64 x.c] 24) = w2 := ⟨_, rfl⟩
  have hbx : w2.heap[w1.heap.size]? = some (.cells #[.int .i64 x.s, .int .i64 x.c] 24 (0, 0)) := by rw [← hw2]; exact heap_alloc_last w1 _
  have HB2 : Hid (Below w1.heap.size w1 w2) := by rw [← hw2]; exact (Below.refl _ _).alloc (Nat.le_refl _) _
  have HS2 : Hid (w1.heap.size ≤ w2.heap.size) := HB2.out.size
  have HX0 : Hid (∀ w', Below w2.heap.size w2 w' → w'.cell? ⟨w1.heap.size, 0, none⟩ = some (.int .i64 x.s)) := fun w' h => cell_stays (by rw [cell_of_row _ _ _ _ _ _ hbx]; rfl) h
  have HX1 : Hid (∀ w', Below w2.heap.size w2 w' → w'.cell? ⟨w1.heap.size, 1, none⟩ = some (.int .i64 x.c)) := fun w' h => cell_stays (by rw [cell_of_row _ _ _ _ _ _ hbx]; rfl) h
  have HR0 : Hid (∀ w', Below w2.heap.size w2 w' → w'.cell? ⟨B, 0, none⟩ = some (.int .i64 r.s)) := fun w' h => cell_stays (cell_stays hd0 HB2.out) h
  have HR1 : Hid (∀ w', Below w2.heap.size w2 w' → w'.cell? ⟨B, 1, none⟩ = some (.int .i64 r.c)) := fun w' h => cell_stays (cell_stays hd1 HB2.out) h
  have HE : Hid (∀ w', Calls Try.prog 29 #[.agg #[.int .i64 x.s, .int .i64 x.c]] w' fun e w'' => e = .returned (.int .i64 (x.s + x.c)) ∧ Below w'.heap.size w' w'') := fun w' => end_any x w' (by omega)
  clear hbx hc0 hc1 hb hd0 hd1 hlB
  obtain ⟨xs, xc⟩ := x
  obtain ⟨rs, rc⟩ := r
  simp only at hw2 HX0 HX1 HR0 HR1 HE hx hr
  unfold Rn.e
  simp only
  go_enter Try.func28, Try.ntmps28
  go_wp2
  go_upto_region 1 with fail
  refine wp_region_held (S := Below w2.heap.size w2) (by kernel_rfl) ?_
  change wpAnyH _ _ _ _ _ _ _ _ (World.drew _)
  have HX : Below w2.heap.size w2 w2.drew := (Below.refl _ _).drew
  generalize World.drew _ = w3 at *
  refine wpAnyH_take (i := 0) (v := .agg #[.int .i64 xs, .int .i64 xc]) rfl (by kernel_rfl) (by kernel_rfl) (by kernel_rfl) (fun _ _ _ h => h) (Or.inl ⟨by rfl, by intro w4 hw; have hc := HX0.out w4 hw; have hd := HX1.out w4 hw; go_simp⟩) HX ?_
  simp only [List.getElem_toArray, List.getElem_cons_succ, List.getElem_cons_zero, Act.put, List.setIfInBounds_toArray, List.set_cons_zero, List.set_cons_succ]
  refine wpAnyH_take (i := 2) (v := .pointer (some ⟨B, 0, none⟩)) rfl (by kernel_rfl) (by kernel_rfl) (by kernel_rfl) (fun _ _ _ h => h) (Or.inl ⟨by rfl, by intro w _; go_simp⟩) HX ?_
  simp only [List.getElem_toArray, List.getElem_cons_succ, List.getElem_cons_zero, Act.put, List.setIfInBounds_toArray, List.set_cons_zero, List.set_cons_succ]
  refine wpAnyH_take (i := 3) (v := .int .i64 rs) rfl (by kernel_rfl) (by kernel_rfl) (by kernel_rfl) (fun _ _ _ h => h) (Or.inl ⟨by rfl, by intro w4 hw; have hc := HR0.out w4 hw; go_simp⟩) HX ?_
  simp only [List.getElem_toArray, List.getElem_cons_succ, List.getElem_cons_zero, Act.put, List.setIfInBounds_toArray, List.set_cons_zero, List.set_cons_succ]
  refine wpAnyH_ready (rs := [1]) (by kernel_rfl) (by simp) (AllReadyH.cons (by simp only [List.getElem?_toArray, List.getElem?_cons_succ, List.getElem?_cons_zero]; rfl) (fun K hK => ?_) AllReadyH.nil)
  refine step_plain rfl ?_
  go_simp
  refine (HE.out _).mono ?_
  rintro e w5 ⟨rfl, b5⟩
  have HX : Below w2.heap.size w2 w5 := HX.trans (b5.mono HX.size)
  clear b5
  refine hK.out _ _ HX (fun _ => ?_)
  clear hK K
  try simp only [List.getElem_toArray, List.getElem_cons_succ, List.getElem_cons_zero, Act.put, List.setIfInBounds_toArray, List.set_cons_zero, List.set_cons_succ]
  refine wpAnyH_take (i := 4) (v := .bool (decide (rs ≤ xs + xc))) rfl (by kernel_rfl) (by kernel_rfl) (by kernel_rfl) (fun _ _ _ h => h) (Or.inl ⟨by rfl, by intro w4 _; go_simp⟩) HX ?_
  simp only [List.getElem_toArray, List.getElem_cons_succ, List.getElem_cons_zero, Act.put, List.setIfInBounds_toArray, List.set_cons_zero, List.set_cons_succ]
  refine wpAnyH_take (i := 5) (v := .bool (decide (rs ≤ xs + xc))) rfl (by kernel_rfl) (by kernel_rfl) (by kernel_rfl) (fun _ _ _ h => h) (Or.inl ⟨by rfl, by intro w _; go_simp⟩) HX ?_
  simp only [List.getElem_toArray, List.getElem_cons_succ, List.getElem_cons_zero, Act.put, List.setIfInBounds_toArray, List.set_cons_zero, List.set_cons_succ]
  refine wpAnyH_done (by kernel_rfl) ?_ _
  have HF : Hid _ := HB2.out.trans (HX.mono HS2.out)
  clear HX hw2 HX0 HX1 HR0 HR1 HE
  go_wp2
  go_ret
  exact ⟨rfl, HF.out⟩
set_option maxRecDepth 100000 in
set_option maxHeartbeats 1000000 in
set_option linter.unusedSimpArgs false in
/-- Does a run begin behind the end of the one that is given? -/
theorem give2_any {w : World} {B : Nat} {r : Rn} (hc0 : w.cell? ⟨B, 0, none⟩ = some (.int .i64 r.s)) (hc1 : w.cell? ⟨B, 1, none⟩ = some (.int .i64 r.c)) (hr : -9223372036854775808 ≤ r.s + r.c ∧ r.s + r.c < 9223372036854775808) :
    FnSays w (.func (.func 30) #[] #[.pointer (some ⟨B, 0, none⟩)]) (fun x => decide (r.e < x.s)) := by
  refine ⟨_, B, rfl, eg_give2, fun x w1 hx hb => ?_⟩
  have hlB := World.block_lt_of_cell? w _ hc0
  have hd0 : w1.cell? ⟨B, 0, none⟩ = some (.int .i64 r.s) := by rw [World.cell?_of_block (hb.block B hlB)]; exact hc0
  have hd1 : w1.cell? ⟨B, 1, none⟩ = some (.int .i64 r.c) := by rw [World.cell?_of_block (hb.block B hlB)]; exact hc1
  obtain ⟨w2, hw2⟩ : ∃ w2, w1.alloc (.cells #[.int .i64 x.s, .int .i64 x.c] 24) = w2 := ⟨_, rfl⟩
  have hbx : w2.heap[w1.heap.size]? = some (.cells #[.int .i64 x.s, .int .i64 x.c] 24 (0, 0)) := by rw [← hw2]; exact heap_alloc_last w1 _
  have HB2 : Hid (Below w1.heap.size w1 w2) := by rw [← hw2]; exact (Below.refl _ _).alloc (Nat.le_refl _) _
  have HS2 : Hid (w1.heap.size ≤ w2.heap.size) := HB2.out.size
  have HX0 : Hid (∀ w', Below w2.heap.size w2 w' → w'.cell? ⟨w1.heap.size, 0, none⟩ = some (.int .i64 x.s)) := fun w' h => cell_stays (by rw [cell_of_row _ _ _ _ _ _ hbx]; rfl) h
  have HX1 : Hid (∀ w', Below w2.heap.size w2 w' → w'.cell? ⟨w1.heap.size, 1, none⟩ = some (.int .i64 x.c)) := fun w' h => cell_stays (by rw [cell_of_row _ _ _ _ _ _ hbx]; rfl) h
  have HR0 : Hid (∀ w', Below w2.heap.size w2 w' → w'.cell? ⟨B, 0, none⟩ = some (.int .i64 r.s)) := fun w' h => cell_stays (cell_stays hd0 HB2.out) h
  have HR1 : Hid (∀ w', Below w2.heap.size w2 w' → w'.cell? ⟨B, 1, none⟩ = some (.int .i64 r.c)) := fun w' h => cell_stays (cell_stays hd1 HB2.out) h
  have HE : Hid (∀ w', Calls Try.prog 29 #[.agg #[.int .i64 r.s, .int .i64 r.c]] w' fun e w'' => e = .returned (.int .i64 (r.s + r.c)) ∧ Below w'.heap.size w' w'') := fun w' => end_any r w' (by omega)
  clear hbx hc0 hc1 hb hd0 hd1 hlB
  obtain ⟨xs, xc⟩ := x
  obtain ⟨rs, rc⟩ := r
  simp only at hw2 HX0 HX1 HR0 HR1 HE hx hr
  unfold Rn.e
  simp only
  go_enter Try.func30, Try.ntmps30
  go_wp2
  go_upto_region 1 with fail
  refine wp_region_held (S := Below w2.heap.size w2) (by kernel_rfl) ?_
  change wpAnyH _ _ _ _ _ _ _ _ (World.drew _)
  have HX : Below w2.heap.size w2 w2.drew := (Below.refl _ _).drew
  generalize World.drew _ = w3 at *
  refine wpAnyH_take (i := 0) (v := .pointer (some ⟨w1.heap.size, 0, none⟩)) rfl (by kernel_rfl) (by kernel_rfl) (by kernel_rfl) (fun _ _ _ h => h) (Or.inl ⟨by rfl, by intro w _; go_simp⟩) HX ?_
  simp only [List.getElem_toArray, List.getElem_cons_succ, List.getElem_cons_zero, Act.put, List.setIfInBounds_toArray, List.set_cons_zero, List.set_cons_succ]
  refine wpAnyH_take (i := 1) (v := .int .i64 xs) rfl (by kernel_rfl) (by kernel_rfl) (by kernel_rfl) (fun _ _ _ h => h) (Or.inl ⟨by rfl, by intro w4 hw; have hc := HX0.out w4 hw; go_simp⟩) HX ?_
  simp only [List.getElem_toArray, List.getElem_cons_succ, List.getElem_cons_zero, Act.put, List.setIfInBounds_toArray, List.set_cons_zero, List.set_cons_succ]
  refine wpAnyH_take (i := 2) (v := .agg #[.int .i64 rs, .int .i64 rc]) rfl (by kernel_rfl) (by kernel_rfl) (by kernel_rfl) (fun _ _ _ h => h) (Or.inl ⟨by rfl, by intro w4 hw; have hc := HR0.out w4 hw; have hd := HR1.out w4 hw; go_simp⟩) HX ?_
  simp only [List.getElem_toArray, List.getElem_cons_succ, List.getElem_cons_zero, Act.put, List.setIfInBounds_toArray, List.set_cons_zero, List.set_cons_succ]
  refine wpAnyH_ready (rs := [3]) (by kernel_rfl) (by simp) (AllReadyH.cons (by simp only [List.getElem?_toArray, List.getElem?_cons_succ, List.getElem?_cons_zero]; rfl) (fun K hK => ?_) AllReadyH.nil)
  refine step_plain rfl ?_
  go_simp
  refine (HE.out _).mono ?_
  rintro e w5 ⟨rfl, b5⟩
  have HX : Below w2.heap.size w2 w5 := HX.trans (b5.mono HX.size)
  clear b5
  refine hK.out _ _ HX (fun _ => ?_)
  clear hK K
  try simp only [List.getElem_toArray, List.getElem_cons_succ, List.getElem_cons_zero, Act.put, List.setIfInBounds_toArray, List.set_cons_zero, List.set_cons_succ]
  refine wpAnyH_take (i := 4) (v := .bool (decide (rs + rc < xs))) rfl (by kernel_rfl) (by kernel_rfl) (by kernel_rfl) (fun _ _ _ h => h) (Or.inl ⟨by rfl, by intro w4 _; go_simp⟩) HX ?_
  simp only [List.getElem_toArray, List.getElem_cons_succ, List.getElem_cons_zero, Act.put, List.setIfInBounds_toArray, List.set_cons_zero, List.set_cons_succ]
  refine wpAnyH_take (i := 5) (v := .bool (decide (rs + rc < xs))) rfl (by kernel_rfl) (by kernel_rfl) (by kernel_rfl) (fun _ _ _ h => h) (Or.inl ⟨by rfl, by intro w _; go_simp⟩) HX ?_
  simp only [List.getElem_toArray, List.getElem_cons_succ, List.getElem_cons_zero, Act.put, List.setIfInBounds_toArray, List.set_cons_zero, List.set_cons_succ]
  refine wpAnyH_done (by kernel_rfl) ?_ _
  have HF : Hid _ := HB2.out.trans (HX.mono HS2.out)
  clear HX hw2 HX0 HX1 HR0 HR1 HE
  go_wp2
  go_ret
  exact ⟨rfl, HF.out⟩
end Go.Proofs.Ytbnfhhjgalphgaa
