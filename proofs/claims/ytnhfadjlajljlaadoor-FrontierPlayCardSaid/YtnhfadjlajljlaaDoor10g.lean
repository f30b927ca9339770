/- Contracts of Root and Load of a frontier (layer 10). -/
import Derived.Test.YtnhfadjlajljlaaDoor10f
import Derived.Deep.RegionHeld3
import Derived.Deep.DeepCutAuto
namespace Go.Proofs.YtnhfadjlajljlaaDoor
open Go.RowKit

/-- The root of a frontier's hashes. -/
abbrev rtH (L : List (List UInt8)) : List UInt8 := rtL (shaL []) nodeL L
theorem rtH_32 {L : List (List UInt8)} (h : ∀ x ∈ L, x.length = 32) : (rtH L).length = 32 := by
  match L, h with
  | [], _ => exact shaL_length _
  | [x], h => exact h x (by simp)
  | x :: y :: L, _ => exact shaL_length _
theorem rtH_last {L : List (List UInt8)} {k : Nat} {x : List UInt8} (hk : L.length = k + 1) (hx : L[k]? = some x) : rtH L = abL nodeL (L.take k) x := by
  have h1 : L = L.take k ++ [x] := by
    have h2 := List.take_add_one (l := L) (i := k)
    rw [hx, List.take_of_length_le (by omega)] at h2
    exact h2
  unfold rtH
  conv => lhs; rw [h1]
  exact rt_snoc _ _ _ _
set_option maxRecDepth 100000 in
theorem froot_nil (w : World) : Calls Tryd.prog 14 #[.pointer none] w fun e w' => e = .returned (.agg (hv (padTo 32 []))) ∧ Below w.heap.size w w' := by
  obtain ⟨w1, hw1, b1, hg1⟩ := hash_box w
  have z1 : Hid ((hv (padTo 32 [])).size = 32) := hz_size
  have e5 := hv_one (padTo 32 [])
  have HZ : Hid (hv (padTo 32 []) = hv (padTo 32 [])) := rfl
  have hzb := zero_h32
  rw [zero_h32] at hw1
  generalize hR : hv (padTo 32 []) = R at *
  have HB : Hid (Below w.heap.size w (w1.setRow w.heap.size R)) := below_setRow b1 (Nat.le_refl _) _
  have HG : Hid ((w1.setRow w.heap.size R).heap[w.heap.size]? = some (.cells R 30 (0, 0))) := heap_setRow_same hg1
  clear b1
  go_enter Tryd.func14, Tryd.ntmps14
  go_wp2_with (first | (go_at_call 27; refine (fnone_nil _).mono ?_; rintro e w' ⟨rfl, rfl⟩) | (rw [← hzb]; refine wpList_store_row rfl 30 _ _ rfl w.heap.size R rfl rfl _ _ hg1 (by rw [info_h32, z1.out]) rfl e5 ?_) | fail)
  refine bodyPost_ret (v := .agg R) (results_cell1 (p := 2) Tryd.results14 _ _ w.heap.size 32 30 5 R (0, 0) rfl HG.out Tryd.underlying30 info_h32 z1.out) rfl ⟨rfl, HB.out⟩
set_option maxRecDepth 100000 in
theorem froot_zero {w : World} {B b : Nat} (h : Fr w B b 0 []) (hT : TabL w) : Calls Tryd.prog 14 #[.pointer (some ⟨b, 0, none⟩)] w fun e w' => e = .returned (.agg (hv (rtH []))) ∧ Below w.heap.size w w' := by
  have hlt := h.lt
  obtain ⟨a, c, h1, -⟩ := h
  obtain ⟨w1, hw1, b1, hg1⟩ := hash_box w
  have h2 := (b1.block _ hlt).trans h1
  obtain ⟨c0, c1, c2⟩ := fcells h2
  have HC : Hid (Calls Tryd.prog 20 #[] w1 fun e w' => e = .returned (.agg (hv (rtH []))) ∧ Below w1.heap.size w1 w') := empty_any w1 (hT.below b1 hT.lt)
  have HG : Hid (∀ w', Below w1.heap.size w1 w' → w'.heap[w.heap.size]? = some (.cells (hv (padTo 32 [])) 30 (0, 0))) := fun w' hb => (hb.block _ (Array.getElem?_eq_some_iff.1 hg1).1).trans hg1
  have HB : Hid (∀ w', Below w1.heap.size w1 w' → Below w.heap.size w w') := fun w' hb => b1.trans (hb.mono b1.size)
  have e4 : (hv (rtH [])).size = 32 := by rw [hv_size]; exact rtH_32 (fun x hx => by cases hx)
  have e5 := hv_one (rtH [])
  generalize hv (rtH []) = R at *
  have z1 : Hid ((hv (padTo 32 [])).size = 32) := hz_size
  rw [zero_h32] at hw1 HG z1
  clear hg1 b1 h1 h2 hlt hT
  go_enter Tryd.func14, Tryd.ntmps14
  go_wp2_with (first | (go_at_call 27; refine (fnone_any c1).mono ?_; rintro e w' ⟨rfl, rfl⟩) | fail)
  refine HC.out.mono ?_
  rintro e w2 ⟨rfl, b2⟩
  have g2 := HG.out w2 b2
  have HB2 : Hid (Below w.heap.size w w2) := HB.out w2 b2
  clear b2 hw1 c0 c1 c2
  go_wp2_with (refine wpList_store_row rfl 30 _ _ rfl w.heap.size R rfl rfl _ _ g2 (by rw [info_h32, e4]) (by rw [z1.out, e4]) e5 ?_)
  refine bodyPost_ret (v := .agg R) (results_cell1 (p := 2) Tryd.results14 _ _ w.heap.size 32 30 5 R (0, 0) rfl (heap_setRow_same g2) Tryd.underlying30 info_h32 e4) rfl ⟨rfl, below_setRow HB2.out (Nat.le_refl _) _⟩
set_option maxRecDepth 100000 in
set_option maxHeartbeats 2000000 in
set_option linter.unusedSimpArgs false in
theorem froot_some {w : World} {B b n : Nat} {L : List (List UInt8)} (h : Fr w B b n L) (hT : TabL w) (hn : n ≠ 0) : Calls Tryd.prog 14 #[.pointer (some ⟨b, 0, none⟩)] w fun e w' => e = .returned (.agg (hv (rtH L))) ∧ Below w.heap.size w w' := by
  have hlt := h.lt
  obtain ⟨hl1, hl2, hl3⟩ := h.len
  have hpos := pc_pos hn
  obtain ⟨k, hk⟩ : ∃ k, L.length = k + 1 := ⟨L.length - 1, by omega⟩
  obtain ⟨x, hx⟩ : ∃ x, L[k]? = some x := ⟨_, List.getElem?_eq_getElem (by omega)⟩
  obtain ⟨a, c, h1, hA, hc, -⟩ := h
  obtain ⟨hx32, b1, o1, rfl, hr⟩ := hA.cells.2 k x hx
  obtain ⟨w1, hw1, bw1, hg1⟩ := hash_box w
  have h2 := (bw1.block _ hlt).trans h1
  obtain ⟨c0, c1, c2⟩ := fcells h2
  rw [hk] at h1 hA hc
  have HC0 : Hid (∀ w', Below w.heap.size w w' → w'.cell? ⟨b, 0, none⟩ = some (.slice (some ⟨b1, o1, none⟩) (k + 1) c)) := fun w' hb => (fcells ((hb.block _ hlt).trans h1)).1
  have HR : Hid (∀ w', Below w.heap.size w w' → w'.rangeAt b1 (o1 + k * 32) (hv x).toList) := hr
  have HAb : Hid (∀ w', Below w.heap.size w w' → Calls Tryd.prog 31 #[.slice (some ⟨b1, o1, none⟩) k c, .agg (hv x)] w' fun e w'' => e = .returned (.agg (hv (rtH L))) ∧ Below w'.heap.size w' w'') := fun w' hb => by
    have hA2 := (hA.below hb).take k (by omega)
    have hl : (L.take k).length = k := by rw [List.length_take]; omega
    have := above_any (v := .slice (some ⟨b1, o1, none⟩) k c) x (hT.below hb hT.lt) hA2 (by omega) hx32
    rwa [← rtH_last hk hx] at this
  have hxs : (hv x).size = 32 := by rw [hv_size, hx32]
  have ic : Hid ((Tryd.prog.info? 30).map (·.size) = some (hv x).toList.length) := by show _ = _; rw [info_h32, Array.length_toList, hxs]
  have e4 : (hv (rtH L)).size = 32 := by rw [hv_size]; exact rtH_32 hA.len
  have e5 := hv_one (rtH L)
  have hn1 : ((n : Int) == 0) = false := by rw [beq_eq_false_iff_ne]; omega
  have hwk : wrap64 (((k + 1 : Nat) : Int) - 1) = (k : Int) := by unfold wrap64; omega
  have hwk2 : wrap64 ((k : Int) + 1 - 1) = (k : Int) := by unfold wrap64; omega
  have HW3 : Hid (wrap64 (k : Int) = (k : Int)) := by show _ = _; unfold wrap64; omega
  have hk0 : (0 : Int) ≤ (k : Int) := by omega
  have hk1 : (k : Int) < ((k + 1 : Nat) : Int) := by omega
  have hk2 : (k : Int) ≤ (c : Int) := by omega
  have hk3 : k ≤ c := by omega
  have hk4 : (k : Int) < (k : Int) + 1 := by omega
  have HX0 : Hid (Below w.heap.size w w1) := bw1
  have hzs : (hv (padTo 32 [])).size = 32 := hz_size
  have HZ1 : Hid (w1.heap[w.heap.size]? = some (.cells (hv (padTo 32 [])) 30 (0, 0))) := hg1
  rw [hk] at c0
  rw [zero_h32] at hw1 HZ1 hzs
  clear hl1 hl2 hl3 hpos hk hx h1 hA hr hT h2 bw1 hx32
  generalize hv x = X at *
  generalize hv (rtH L) = R at *
  go_enter Tryd.func14, Tryd.ntmps14
  go_upto_region 6 with (first | (go_at_call 27; refine (fnone_any c1).mono ?_; rintro e w1 ⟨rfl, rfl⟩) | fail)
  refine wp_region_held (S := Below w.heap.size w) (by kernel_rfl) ?_
  change wpAnyH _ _ _ _ _ _ _ _ (World.drew _)
  have HX : Below w.heap.size w w1.drew := HX0.out.drew
  have hz0 : w1.drew.heap[w.heap.size]? = some (Obj.cells _ 30 (0, 0)) := HZ1.out
  clear HX0 HZ1 hw1 c0 c1 c2 hg1
  generalize World.drew _ = x0 at *
  refine wpAnyH_take (i := 0) (v := .pointer (some ⟨b, 0, none⟩)) rfl (by kernel_rfl) (by kernel_rfl) (by kernel_rfl) (fun _ _ _ h => h) (Or.inl ⟨by rfl, by intro w9 _; go_simp⟩) HX ?_
  simp only [List.getElem_toArray, List.getElem_cons_succ, List.getElem_cons_zero, Act.put, List.setIfInBounds_toArray, List.set_cons_zero, List.set_cons_succ]
  refine wpAnyH_take (i := 1) (v := .pointer (some ⟨b, 0, none⟩)) rfl (by kernel_rfl) (by kernel_rfl) (by kernel_rfl) (fun _ _ _ h => h) (Or.inl ⟨by rfl, by intro w9 _; go_simp⟩) HX ?_
  simp only [List.getElem_toArray, List.getElem_cons_succ, List.getElem_cons_zero, Act.put, List.setIfInBounds_toArray, List.set_cons_zero, List.set_cons_succ]
  refine wpAnyH_take (i := 2) (v := .pointer (some ⟨b, 0, none⟩)) rfl (by kernel_rfl) (by kernel_rfl) (by kernel_rfl) (fun _ _ _ h => h) (Or.inl ⟨by rfl, by intro w9 _; go_simp⟩) HX ?_
  simp only [List.getElem_toArray, List.getElem_cons_succ, List.getElem_cons_zero, Act.put, List.setIfInBounds_toArray, List.set_cons_zero, List.set_cons_succ]
  refine wpAnyH_take (i := 3) (v := .pointer (some ⟨b, 0, none⟩)) rfl (by kernel_rfl) (by kernel_rfl) (by kernel_rfl) (fun _ _ _ h => h) (Or.inl ⟨by rfl, by intro w9 _; go_simp⟩) HX ?_
  simp only [List.getElem_toArray, List.getElem_cons_succ, List.getElem_cons_zero, Act.put, List.setIfInBounds_toArray, List.set_cons_zero, List.set_cons_succ]
  refine wpAnyH_take (i := 4) (v := .slice (some ⟨b1, o1, none⟩) (k + 1) c) rfl (by kernel_rfl) (by kernel_rfl) (by kernel_rfl) (fun _ _ _ h => h) (Or.inl ⟨by rfl, by intro w9 h9; have c9 := HC0.out w9 h9; go_simp⟩) HX ?_
  simp only [List.getElem_toArray, List.getElem_cons_succ, List.getElem_cons_zero, Act.put, List.setIfInBounds_toArray, List.set_cons_zero, List.set_cons_succ]
  refine wpAnyH_take (i := 5) (v := .int .i64 (k : Int)) rfl (by kernel_rfl) (by kernel_rfl) (by kernel_rfl) (fun _ _ _ h => h) (Or.inl ⟨by rfl, by intro w9 _; go_simp; exact HW3.out⟩) HX ?_
  simp only [List.getElem_toArray, List.getElem_cons_succ, List.getElem_cons_zero, Act.put, List.setIfInBounds_toArray, List.set_cons_zero, List.set_cons_succ]
  refine wpAnyH_take (i := 6) (v := .slice (some ⟨b1, o1, none⟩) k c) rfl (by kernel_rfl) (by kernel_rfl) (by kernel_rfl) (fun _ _ _ h => h) (Or.inl ⟨by rfl, by intro w9 _; go_simp⟩) HX ?_
  simp only [List.getElem_toArray, List.getElem_cons_succ, List.getElem_cons_zero, Act.put, List.setIfInBounds_toArray, List.set_cons_zero, List.set_cons_succ]
  refine wpAnyH_take (i := 7) (v := .pointer (some ⟨b, 0, none⟩)) rfl (by kernel_rfl) (by kernel_rfl) (by kernel_rfl) (fun _ _ _ h => h) (Or.inl ⟨by rfl, by intro w9 _; go_simp⟩) HX ?_
  simp only [List.getElem_toArray, List.getElem_cons_succ, List.getElem_cons_zero, Act.put, List.setIfInBounds_toArray, List.set_cons_zero, List.set_cons_succ]
  refine wpAnyH_take (i := 8) (v := .pointer (some ⟨b, 0, none⟩)) rfl (by kernel_rfl) (by kernel_rfl) (by kernel_rfl) (fun _ _ _ h => h) (Or.inl ⟨by rfl, by intro w9 _; go_simp⟩) HX ?_
  simp only [List.getElem_toArray, List.getElem_cons_succ, List.getElem_cons_zero, Act.put, List.setIfInBounds_toArray, List.set_cons_zero, List.set_cons_succ]
  refine wpAnyH_take (i := 9) (v := .pointer (some ⟨b, 0, none⟩)) rfl (by kernel_rfl) (by kernel_rfl) (by kernel_rfl) (fun _ _ _ h => h) (Or.inl ⟨by rfl, by intro w9 _; go_simp⟩) HX ?_
  simp only [List.getElem_toArray, List.getElem_cons_succ, List.getElem_cons_zero, Act.put, List.setIfInBounds_toArray, List.set_cons_zero, List.set_cons_succ]
  refine wpAnyH_take (i := 10) (v := .pointer (some ⟨b, 0, none⟩)) rfl (by kernel_rfl) (by kernel_rfl) (by kernel_rfl) (fun _ _ _ h => h) (Or.inl ⟨by rfl, by intro w9 _; go_simp⟩) HX ?_
  simp only [List.getElem_toArray, List.getElem_cons_succ, List.getElem_cons_zero, Act.put, List.setIfInBounds_toArray, List.set_cons_zero, List.set_cons_succ]
  refine wpAnyH_take (i := 11) (v := .slice (some ⟨b1, o1, none⟩) (k + 1) c) rfl (by kernel_rfl) (by kernel_rfl) (by kernel_rfl) (fun _ _ _ h => h) (Or.inl ⟨by rfl, by intro w9 h9; have c9 := HC0.out w9 h9; go_simp⟩) HX ?_
  simp only [List.getElem_toArray, List.getElem_cons_succ, List.getElem_cons_zero, Act.put, List.setIfInBounds_toArray, List.set_cons_zero, List.set_cons_succ]
  refine wpAnyH_take (i := 12) (v := .int .i64 (k : Int)) rfl (by kernel_rfl) (by kernel_rfl) (by kernel_rfl) (fun _ _ _ h => h) (Or.inl ⟨by rfl, by intro w9 _; go_simp; exact HW3.out⟩) HX ?_
  simp only [List.getElem_toArray, List.getElem_cons_succ, List.getElem_cons_zero, Act.put, List.setIfInBounds_toArray, List.set_cons_zero, List.set_cons_succ]
  refine wpAnyH_take (i := 13) (v := .pointer (some ⟨b1, o1 + k * 32, none⟩)) rfl (by kernel_rfl) (by kernel_rfl) (by kernel_rfl) (fun _ _ _ h => h) (Or.inl ⟨by rfl, by intro w9 _; go_simp⟩) HX ?_
  simp only [List.getElem_toArray, List.getElem_cons_succ, List.getElem_cons_zero, Act.put, List.setIfInBounds_toArray, List.set_cons_zero, List.set_cons_succ]
  refine wpAnyH_take (i := 14) (v := .agg X) rfl (by kernel_rfl) (by kernel_rfl) (by kernel_rfl) (fun _ _ _ h => h) (yieldsIf_load_mid (by rfl) 30 _ rfl b1 (o1 + k * 32) rfl X.toList _ (fun w' h => HR.out w' h) Tryd.underlying30 rfl ic.out) HX ?_
  simp only [List.getElem_toArray, List.getElem_cons_succ, List.getElem_cons_zero, Act.put, List.setIfInBounds_toArray, List.set_cons_zero, List.set_cons_succ]
  refine wpAnyH_ready (rs := [15]) (by kernel_rfl) (by simp) (AllReadyH.cons (by simp only [List.getElem?_toArray, List.getElem?_cons_succ, List.getElem?_cons_zero]; rfl) (fun K hK => ?_) AllReadyH.nil)
  refine step_want (by rfl) ?_
  go_simp
  refine (HAb.out _ HX).mono ?_
  rintro e x1 ⟨rfl, bc⟩
  have HX : Below w.heap.size w x1 := HX.trans (bc.mono HX.size)
  have hz1 := (bc.block _ (Array.getElem?_eq_some_iff.1 hz0).1).trans hz0
  clear bc hz0
  refine hK.out _ _ HX (fun _ => ?_)
  clear hK K
  try simp only [List.getElem_toArray, List.getElem_cons_succ, List.getElem_cons_zero, Act.put, List.setIfInBounds_toArray, List.set_cons_zero, List.set_cons_succ]
  refine wpAnyH_ready (rs := [16]) (by kernel_rfl) (by simp) (AllReadyH.cons (by simp only [List.getElem?_toArray, List.getElem?_cons_succ, List.getElem?_cons_zero]; rfl) (fun K hK => ?_) AllReadyH.nil)
  refine step_want (by rfl) ?_
  refine wp_store_row 30 _ _ rfl w.heap.size R rfl rfl _ _ hz1 (by rw [info_h32, e4]) (by rw [hzs, e4]) e5 ?_
  have HX : Below w.heap.size w (x1.setRow w.heap.size R) := below_setRow HX (Nat.le_refl _) _
  have hz2 := heap_setRow_same (ds := R) hz1
  clear hz1
  generalize x1.setRow w.heap.size R = x2 at *
  refine hK.out _ _ HX (fun _ => ?_)
  clear hK K
  try simp only [List.getElem_toArray, List.getElem_cons_succ, List.getElem_cons_zero, Act.put, List.setIfInBounds_toArray, List.set_cons_zero, List.set_cons_succ]
  refine wpAnyH_done (by kernel_rfl) ?_ _
  have HF : Hid (Below w.heap.size w x2) := HX
  have HZ2 : Hid (x2.heap[w.heap.size]? = some (.cells R 30 (0, 0))) := hz2
  clear HX hz2
  go_wp2
  refine bodyPost_ret (v := .agg R) (results_cell1 (p := 2) Tryd.results14 _ _ w.heap.size 32 30 5 R (0, 0) rfl HZ2.out Tryd.underlying30 info_h32 e4) rfl ⟨rfl, HF.out⟩
/-- Root of a frontier. -/
theorem froot_any {w : World} {B b n : Nat} {L : List (List UInt8)} (h : Fr w B b n L) (hT : TabL w) : Calls Tryd.prog 14 #[.pointer (some ⟨b, 0, none⟩)] w fun e w' => e = .returned (.agg (hv (rtH L))) ∧ Below w.heap.size w w' := by
  by_cases hn : n = 0
  · subst hn
    obtain rfl : L = [] := List.length_eq_zero_iff.1 (by rw [h.len.1, pc_zero])
    exact froot_zero h hT
  · exact froot_some h hT hn
end Go.Proofs.YtnhfadjlajljlaaDoor
