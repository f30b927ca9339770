/- The document's own Root of a frontier (layer 10). -/
import Derived.Test.YtnhfadjlajljlaaDoor10g
import Derived.Test.YtnhfadjlajljlaaDoorWq
import Derived.Test.YtnhfadjlajljlaaDoorUb
namespace Go.Proofs.YtnhfadjlajljlaaDoor
open Go.RowKit

theorem rtH_step {L : List (List UInt8)} {j : Nat} {x : List UInt8} (hx : L[j]? = some x) (hj : j + 1 < L.length) : rtH (L.drop j) = nodeL x (rtH (L.drop (j + 1))) := by
  have hxx := (List.getElem?_eq_some_iff.1 hx)
  obtain ⟨hl, he⟩ := hxx
  rw [List.drop_eq_getElem_cons hl, he]
  match hd : L.drop (j + 1) with
  | [] =>
    have := congrArg List.length hd
    rw [List.length_drop] at this
    simp at this
    omega
  | y :: l => rfl
theorem rtH_end {L : List (List UInt8)} {j : Nat} {x : List UInt8} (hx : L[j]? = some x) (hj : L.length = j + 1) : rtH (L.drop j) = x := by
  obtain ⟨hl, he⟩ := List.getElem?_eq_some_iff.1 hx
  rw [List.drop_eq_getElem_cons hl, he, List.drop_eq_nil_of_le (by omega)]
  rfl
theorem minus_wrap (j : Nat) (h : j ≤ 1000) : wrap64 ((j : Int) - 1) = (j : Int) - 1 ∧ wrap64 ((j : Int) - 2) = (j : Int) - 2 := ⟨by unfold wrap64; omega, by unfold wrap64; omega⟩
set_option maxRecDepth 100000 in
set_option maxHeartbeats 4000000 in
set_option linter.unusedSimpArgs false in
set_option linter.unusedVariables false in
theorem rroot10_any {w : World} {B b : Nat} {sv hw : Value} {Sz : List Nat} {Hs : List (List UInt8)} (h : Rf w B b sv hw Sz Hs) (hR : TabR w) (hl : Hs.length ≤ 1000) : Calls Tryd.prog 15 #[.pointer (some ⟨b, 0, none⟩)] w fun e w' => e = .returned (.agg (hv (rtH Hs))) ∧ Below w.heap.size w w' := by
  obtain ⟨-, cc⟩ := h.cells
  have hlt := h.lt
  have h32 := h.h32
  have hA := h.hsAt
  have hbx := h.box
  obtain ⟨a, c, rfl, hlc⟩ := row_slice h.hs
  obtain ⟨w1, hw1, b1, z1⟩ := hash_box w
  obtain ⟨w2, hw2, b2, z2⟩ := hash_box w1
  have hs1 : w1.heap.size = w.heap.size + 1 := by rw [← hw1]; simp
  have hs2 : w2.heap.size = w.heap.size + 2 := by rw [← hw2]; simp [hs1]
  rw [hs1] at z2
  have hz32 := hz_size
  have HC : Hid (∀ W, Below w.heap.size w W → W.cell? ⟨b, 1, none⟩ = some (.slice a Hs.length c) ∧ TabR W ∧ HsAt W (.slice a Hs.length c) Hs) := fun W hW => ⟨by rw [World.cell?_of_block (a := ⟨b, 1, none⟩) (hW.block _ hlt)]; exact cc, hR.below hW hR.lt, hA.below hW⟩
  have HEm : Hid (∀ W, Below w.heap.size w W → Calls Tryd.prog 32 #[] W fun e w' => e = .returned (.agg (hv (rtH []))) ∧ Below W.heap.size W w') := fun W hW => rempty_any W (HC.out W hW).2.1
  have HNd : Hid (∀ W x y, Below w.heap.size w W → x.length = 32 → y.length = 32 → Calls Tryd.prog 30 #[.agg (hv x), .agg (hv y)] W fun e w' => e = .returned (.agg (hv (nodeL x y))) ∧ Below W.heap.size W w') := fun W x y hW => rnode_any x y W (HC.out W hW).2.1
  have HB1 : Hid (Below w.heap.size w w1) := b1
  have HB2 : Hid (Below w.heap.size w w2) := b1.trans (b2.mono (by omega))
  have hz1' : w2.heap[w.heap.size]? = some (.cells (hv (padTo 32 [])) 30 (0, 0)) := (b2.block _ (by omega)).trans z1
  have hrt : (rtH Hs).length = 32 := rtH_32 h32
  have hrs : (hv (rtH Hs)).size = 32 := by rw [hv_size, hrt]
  have hr1 := hv_one (rtH Hs)
  by_cases hk0 : Hs.length = 0
  · obtain rfl : Hs = [] := List.length_eq_zero_iff.1 hk0
    have c1 := (HC.out w1 b1).1
    have hem := HEm.out w1 b1
    have HZ1 : Hid (w1.heap[w.heap.size]? = some (.cells (hv (padTo 32 [])) 30 (0, 0))) := z1
    rw [zero_h32] at hw1 HZ1 hz32
    clear h cc hA hbx hw2 b2 z2 hz1' HC HNd hR z1
    generalize hv (rtH []) = R at *
    go_enter Tryd.func15, Tryd.ntmps15
    go_wp2_with fail
    refine hem.mono ?_
    rintro e w3 ⟨rfl, b3⟩
    have g3 := (b3.block _ (Array.getElem?_eq_some_iff.1 HZ1.out).1).trans HZ1.out
    have HB3 : Hid (Below w.heap.size w w3) := HB1.out.trans (b3.mono HB1.out.size)
    clear b3 hw1 c1 HZ1
    go_wp2_with (refine wpList_store_row rfl 30 _ _ rfl w.heap.size R rfl rfl _ _ g3 (by rw [info_h32, hrs]) (by rw [hz32, hrs]) hr1 ?_)
    refine bodyPost_ret (v := .agg R) (results_cell1 (p := 2) Tryd.results15 _ _ w.heap.size 32 30 5 R (0, 0) rfl (heap_setRow_same g3) Tryd.underlying30 info_h32 hrs) rfl ⟨rfl, below_setRow HB3.out (Nat.le_refl _) _⟩
  obtain ⟨k, hk⟩ : ∃ k, Hs.length = k + 1 := ⟨Hs.length - 1, by omega⟩
  obtain ⟨x, hx⟩ : ∃ x, Hs[k]? = some x := ⟨_, List.getElem?_eq_getElem (by omega)⟩
  obtain ⟨hx32, b1', o1, rfl, hr⟩ := hA.cells.2 k x hx
  have hxs : (hv x).size = 32 := by rw [hv_size, hx32]
  have ic : Hid ((Tryd.prog.info? 30).map (·.size) = some (hv x).toList.length) := by show _ = _; rw [info_h32, Array.length_toList, hxs]
  have hx1 := hv_one x
  have hrk := hr w1 b1
  have HGet : Hid (∀ i, i < k + 1 → ∃ x, Hs[i]? = some x ∧ x.length = 32 ∧ ∀ W, Below w.heap.size w W → W.rangeAt b1' (o1 + i * 32) (hv x).toList) := fun i hi => by
    obtain ⟨y, hy⟩ : ∃ y, Hs[i]? = some y := ⟨_, List.getElem?_eq_getElem (by omega)⟩
    obtain ⟨h1, b', o', e, hr⟩ := hA.cells.2 i y hy
    simp at e
    obtain ⟨rfl, rfl⟩ := e
    exact ⟨y, hy, h1, hr⟩
  have HK : Hid (Hs.length = k + 1) := hk
  have c1 := (HC.out w1 b1).1
  have c2 := (HC.out w2 HB2.out).1
  have HR32 : Hid (∀ j, (rtH (Hs.drop j)).length = 32) := fun j => rtH_32 (fun y hy => h32 y (List.mem_of_mem_drop hy))
  have HSt : Hid (∀ (i : Nat) (y : List UInt8), Hs[i]? = some y → i < k → rtH (Hs.drop i) = nodeL y (rtH (Hs.drop (i + 1)))) := fun i y hy hi => rtH_step hy (by omega)
  have HX2 : Hid (w2.setRow (w.heap.size + 1) (hv x) = w2.setRow (w.heap.size + 1) (hv x)) := rfl
  obtain ⟨w3, hw3⟩ : ∃ w3, w2.setRow (w.heap.size + 1) (hv x) = w3 := ⟨_, rfl⟩
  have H3 : Hid (Below w.heap.size w w3 ∧ w3.heap[w.heap.size]? = some (.cells (hv (padTo 32 [])) 30 (0, 0)) ∧ w3.heap[w.heap.size + 1]? = some (.cells (hv (rtH (Hs.drop k))) 30 (0, 0))) := by
    rw [rtH_end hx hk, ← hw3]
    exact ⟨below_setRow HB2.out (by omega) _, by rw [heap_setRow_ne (by omega)]; exact hz1', heap_setRow_same z2⟩
  have hwk := minus_wrap (k + 1) (by omega)
  have HW1 : Hid (wrap64 (((k + 1 : Nat) : Int) - 1) = ((k + 1 : Nat) : Int) - 1) := hwk.1
  have HW2 : Hid (wrap64 (((k + 1 : Nat) : Int) - 2) = ((k + 1 : Nat) : Int) - 2) := hwk.2
  have hk1000 : k ≤ 999 := by omega
  rw [hk] at HC c1 c2 hlc
  rw [zero_h32] at hw1 hw2 z2 H3 hz32
  have hz2s : Hid (w2.heap[w.heap.size + 1]? = some (.cells _ 30 (0, 0))) := z2
  clear h cc hA hbx b1 b2 z1 hz1' hR hk0 hx hx32 hr hk hwk hs2 hl h32 hrt
  generalize hX : hv x = X at *
  go_enter Tryd.func15, Tryd.ntmps15
  go_wp2_with (first | (refine wpList_load_mid rfl 30 _ rfl b1' (o1 + k * 32) rfl X.toList _ hrk Tryd.underlying30 rfl ic.out ?_) | (refine wpList_store_row rfl 30 _ _ rfl (w.heap.size + 1) X rfl rfl _ _ hz2s.out (by rw [info_h32, hxs]) (by rw [hz32, hxs]) hx1 ?_; rw [hw3]) | fail)
  go_loopw [5] (fun iv wr => ∃ j : Nat, j ≤ k ∧ iv = .int .i64 ((j : Int) - 1) ∧ Below w.heap.size w wr ∧ wr.heap[w.heap.size]? = some (.cells #[.int .u8 0, .int .u8 0, .int .u8 0, .int .u8 0, .int .u8 0, .int .u8 0, .int .u8 0, .int .u8 0, .int .u8 0, .int .u8 0, .int .u8 0, .int .u8 0, .int .u8 0, .int .u8 0, .int .u8 0, .int .u8 0, .int .u8 0, .int .u8 0, .int .u8 0, .int .u8 0, .int .u8 0, .int .u8 0, .int .u8 0, .int .u8 0, .int .u8 0, .int .u8 0, .int .u8 0, .int .u8 0, .int .u8 0, .int .u8 0, .int .u8 0, .int .u8 0] 30 (0, 0)) ∧ wr.heap[w.heap.size + 1]? = some (.cells (hv (rtH (Hs.drop j))) 30 (0, 0))) (fun iv _ => (intOf iv + 1).toNat)
  case atStart => exact ⟨k, Nat.le_refl _, by first | rfl | (simp; done) | (congr 1; omega), H3.out.1, H3.out.2.1, H3.out.2.2⟩
  case round =>
    obtain ⟨j, hj, rfl, hB, hz, hy⟩ := hrel
    clear H3 c1 c2 hrk hw1 hw2 hw3 hz2s
    cases j with
    | succ j =>
      have e1 : (((j + 1 : Nat) : Int) - 1) = (j : Int) := by omega
      rw [e1]
      have hge : (j : Int) ≥ 0 := by omega
      obtain ⟨y, hgy, hy32, hry⟩ := HGet.out j (by omega)
      have HRy : Hid (∀ W, Below w.heap.size w W → W.rangeAt b1' (o1 + j * 32) (hv y).toList) := hry
      have hys : (hv y).size = 32 := by rw [hv_size, hy32]
      have icy : Hid ((Tryd.prog.info? 30).map (·.size) = some (hv y).toList.length) := by show _ = _; rw [info_h32, Array.length_toList, hys]
      have hvs : (hv (rtH (Hs.drop (j + 1)))).size = 32 := by rw [hv_size, HR32.out]
      have icv : Hid ((Tryd.prog.info? 30).map (·.size) = some (hv (rtH (Hs.drop (j + 1)))).toList.length) := by show _ = _; rw [info_h32, Array.length_toList, hvs]
      have hNx : Hid (∀ W, Below w.heap.size w W → Calls Tryd.prog 30 #[.agg (hv y), .agg (hv (rtH (Hs.drop (j + 1))))] W fun e w' => e = .returned (.agg (hv (rtH (Hs.drop j)))) ∧ Below W.heap.size W w') := fun W hW => by
        have := HNd.out W y (rtH (Hs.drop (j + 1))) hW hy32 (HR32.out _)
        rwa [← HSt.out j y hgy (by omega)] at this
      have hus : (hv (rtH (Hs.drop j))).size = 32 := by rw [hv_size, HR32.out]
      have hu1 := hv_one (rtH (Hs.drop j))
      have hlt1 : (j : Int) < (k : Int) + 1 := by omega
      have hlt3 : j < k + 1 := by omega
      have hwj : Hid (wrap64 ((j : Int) - 1) = (j : Int) - 1) := (minus_wrap j (by omega)).1
      have hjk : Hid (j ≤ k) := by show _ ≤ _; omega
      have HX0 : Hid (Below w.heap.size w wr) := hB
      have HZ0 : Hid (wr.heap[w.heap.size]? = some (.cells #[.int .u8 0, .int .u8 0, .int .u8 0, .int .u8 0, .int .u8 0, .int .u8 0, .int .u8 0, .int .u8 0, .int .u8 0, .int .u8 0, .int .u8 0, .int .u8 0, .int .u8 0, .int .u8 0, .int .u8 0, .int .u8 0, .int .u8 0, .int .u8 0, .int .u8 0, .int .u8 0, .int .u8 0, .int .u8 0, .int .u8 0, .int .u8 0, .int .u8 0, .int .u8 0, .int .u8 0, .int .u8 0, .int .u8 0, .int .u8 0, .int .u8 0, .int .u8 0] 30 (0, 0)) ∧ wr.heap[w.heap.size + 1]? = some (.cells (hv (rtH (Hs.drop (j + 1)))) 30 (0, 0))) := ⟨hz, hy⟩
      clear hgy hy32 hry hB hz hy hj e1
      generalize hv y = Y at *
      generalize hv (rtH (Hs.drop (j + 1))) = V at *
      generalize hUd : hv (rtH (Hs.drop j)) = U at *
      go_upto_region 8 with fail
      refine wp_region_held (S := Below w.heap.size w) (by kernel_rfl) ?_
      change wpAnyH _ _ _ _ _ _ _ _ (World.drew _)
      have HX : Below w.heap.size w wr.drew := HX0.out.drew
      have hz : wr.drew.heap[w.heap.size]? = some (Obj.cells _ 30 (0, 0)) := HZ0.out.1
      have hy : wr.drew.heap[w.heap.size + 1]? = some (Obj.cells _ 30 (0, 0)) := HZ0.out.2
      clear HX0 HZ0
      generalize World.drew _ = x0 at *
      refine wpAnyH_take (i := 0) (v := .pointer (some ⟨b, 0, none⟩)) rfl (by kernel_rfl) (by kernel_rfl) (by kernel_rfl) (fun _ _ _ h => h) (Or.inl ⟨by rfl, by intro w9 _; go_simp⟩) HX ?_
      simp only [List.getElem_toArray, List.getElem_cons_succ, List.getElem_cons_zero, Act.put, List.setIfInBounds_toArray, List.set_cons_zero, List.set_cons_succ]
      refine wpAnyH_take (i := 1) (v := .pointer (some ⟨b, 0, none⟩)) rfl (by kernel_rfl) (by kernel_rfl) (by kernel_rfl) (fun _ _ _ h => h) (Or.inl ⟨by rfl, by intro w9 _; go_simp⟩) HX ?_
      simp only [List.getElem_toArray, List.getElem_cons_succ, List.getElem_cons_zero, Act.put, List.setIfInBounds_toArray, List.set_cons_zero, List.set_cons_succ]
      refine wpAnyH_take (i := 2) (v := .pointer (some ⟨b, 1, none⟩)) rfl (by kernel_rfl) (by kernel_rfl) (by kernel_rfl) (fun _ _ _ h => h) (Or.inl ⟨by rfl, by intro w9 _; go_simp⟩) HX ?_
      simp only [List.getElem_toArray, List.getElem_cons_succ, List.getElem_cons_zero, Act.put, List.setIfInBounds_toArray, List.set_cons_zero, List.set_cons_succ]
      refine wpAnyH_take (i := 3) (v := .slice (some ⟨b1', o1, none⟩) (k + 1) c) rfl (by kernel_rfl) (by kernel_rfl) (by kernel_rfl) (fun _ _ _ h => h) (Or.inl ⟨by rfl, by intro w9 h9; have c9 := (HC.out w9 h9).1; go_simp⟩) HX ?_
      simp only [List.getElem_toArray, List.getElem_cons_succ, List.getElem_cons_zero, Act.put, List.setIfInBounds_toArray, List.set_cons_zero, List.set_cons_succ]
      refine wpAnyH_take (i := 4) (v := .int .i64 (j : Int)) rfl (by kernel_rfl) (by kernel_rfl) (by kernel_rfl) (fun _ _ _ h => h) (Or.inl ⟨by rfl, by intro w9 _; go_simp⟩) HX ?_
      simp only [List.getElem_toArray, List.getElem_cons_succ, List.getElem_cons_zero, Act.put, List.setIfInBounds_toArray, List.set_cons_zero, List.set_cons_succ]
      refine wpAnyH_take (i := 5) (v := .pointer (some ⟨b1', o1 + j * 32, none⟩)) rfl (by kernel_rfl) (by kernel_rfl) (by kernel_rfl) (fun _ _ _ h => h) (Or.inl ⟨by rfl, by intro w9 _; go_simp⟩) HX ?_
      simp only [List.getElem_toArray, List.getElem_cons_succ, List.getElem_cons_zero, Act.put, List.setIfInBounds_toArray, List.set_cons_zero, List.set_cons_succ]
      refine wpAnyH_take (i := 6) (v := .agg Y) rfl (by kernel_rfl) (by kernel_rfl) (by kernel_rfl) (fun _ _ _ h => h) (yieldsIf_load_mid (by rfl) 30 _ rfl b1' (o1 + j * 32) rfl Y.toList _ (fun w' h => HRy.out w' h) Tryd.underlying30 rfl icy.out) HX ?_
      simp only [List.getElem_toArray, List.getElem_cons_succ, List.getElem_cons_zero, Act.put, List.setIfInBounds_toArray, List.set_cons_zero, List.set_cons_succ]
      refine wpAnyH_ready (rs := [7]) (by kernel_rfl) (by simp) (AllReadyH.cons (by simp only [List.getElem?_toArray, List.getElem?_cons_succ, List.getElem?_cons_zero]; rfl) (fun K hK => ?_) AllReadyH.nil)
      refine step_want (by rfl) ?_
      refine wp_load_mid 30 _ rfl (w.heap.size + 1) 0 rfl V.toList _ (range_row hy) Tryd.underlying30 rfl icv.out ?_
      refine hK.out _ _ HX (fun _ => ?_)
      clear hK K
      try simp only [List.getElem_toArray, List.getElem_cons_succ, List.getElem_cons_zero, Act.put, List.setIfInBounds_toArray, List.set_cons_zero, List.set_cons_succ]
      refine wpAnyH_ready (rs := [8]) (by kernel_rfl) (by simp) (AllReadyH.cons (by simp only [List.getElem?_toArray, List.getElem?_cons_succ, List.getElem?_cons_zero]; rfl) (fun K hK => ?_) AllReadyH.nil)
      refine step_want (by rfl) ?_
      go_simp
      refine (hNx.out _ HX).mono ?_
      rintro e x1 ⟨rfl, bc⟩
      have HX : Below w.heap.size w x1 := HX.trans (bc.mono HX.size)
      have hz := (bc.block _ (Array.getElem?_eq_some_iff.1 hz).1).trans hz
      have hy := (bc.block _ (Array.getElem?_eq_some_iff.1 hy).1).trans hy
      clear bc
      refine hK.out _ _ HX (fun _ => ?_)
      clear hK K
      try simp only [List.getElem_toArray, List.getElem_cons_succ, List.getElem_cons_zero, Act.put, List.setIfInBounds_toArray, List.set_cons_zero, List.set_cons_succ]
      refine wpAnyH_ready (rs := [9]) (by kernel_rfl) (by simp) (AllReadyH.cons (by simp only [List.getElem?_toArray, List.getElem?_cons_succ, List.getElem?_cons_zero]; rfl) (fun K hK => ?_) AllReadyH.nil)
      refine step_want (by rfl) ?_
      refine wp_store_row 30 _ _ rfl (w.heap.size + 1) U rfl rfl _ _ hy (by rw [info_h32, hus]) (by rw [hvs, hus]) hu1 ?_
      have HX : Below w.heap.size w (x1.setRow (w.heap.size + 1) U) := below_setRow HX (by omega) _
      have hz := (heap_setRow_ne (w := x1) (ds := U) (show w.heap.size ≠ w.heap.size + 1 by omega)).trans hz
      have hy := heap_setRow_same (ds := U) hy
      generalize x1.setRow (w.heap.size + 1) U = x2 at *
      refine hK.out _ _ HX (fun _ => ?_)
      clear hK K
      try simp only [List.getElem_toArray, List.getElem_cons_succ, List.getElem_cons_zero, Act.put, List.setIfInBounds_toArray, List.set_cons_zero, List.set_cons_succ]
      refine wpAnyH_done (by kernel_rfl) ?_ _
      have HF : Hid (Below w.heap.size w x2 ∧ x2.heap[w.heap.size]? = some (.cells #[.int .u8 0, .int .u8 0, .int .u8 0, .int .u8 0, .int .u8 0, .int .u8 0, .int .u8 0, .int .u8 0, .int .u8 0, .int .u8 0, .int .u8 0, .int .u8 0, .int .u8 0, .int .u8 0, .int .u8 0, .int .u8 0, .int .u8 0, .int .u8 0, .int .u8 0, .int .u8 0, .int .u8 0, .int .u8 0, .int .u8 0, .int .u8 0, .int .u8 0, .int .u8 0, .int .u8 0, .int .u8 0, .int .u8 0, .int .u8 0, .int .u8 0, .int .u8 0] 30 (0, 0)) ∧ x2.heap[w.heap.size + 1]? = some (.cells (hv (rtH (Hs.drop j))) 30 (0, 0))) := ⟨HX, hz, by rw [hUd]; exact hy⟩
      clear HX hz hy
      go_wp2_with (first | (simp only [hwj.out]) | fail)
      go_roundw
      case rel => exact ⟨j, hjk.out, by first | rfl | (rw [hwj.out]) | go_num, HF.out.1, HF.out.2.1, HF.out.2.2⟩
      case measure => simp [intOf, hwj.out]
    | zero =>
      have hng : ¬ ((((0 : Nat) : Int) - 1) ≥ 0) := by omega
      rw [List.drop_zero] at hy
      have hry := range_row hy
      have icR : Hid ((Tryd.prog.info? 30).map (·.size) = some (hv (rtH Hs)).toList.length) := by show _ = _; rw [info_h32, Array.length_toList, hrs]
      have hz3 : Hid (wr.heap[w.heap.size]? = some (.cells #[.int .u8 0, .int .u8 0, .int .u8 0, .int .u8 0, .int .u8 0, .int .u8 0, .int .u8 0, .int .u8 0, .int .u8 0, .int .u8 0, .int .u8 0, .int .u8 0, .int .u8 0, .int .u8 0, .int .u8 0, .int .u8 0, .int .u8 0, .int .u8 0, .int .u8 0, .int .u8 0, .int .u8 0, .int .u8 0, .int .u8 0, .int .u8 0, .int .u8 0, .int .u8 0, .int .u8 0, .int .u8 0, .int .u8 0, .int .u8 0, .int .u8 0, .int .u8 0] 30 (0, 0))) := hz
      have HB : Hid (Below w.heap.size w wr) := hB
      clear hB hy hz
      generalize hRe : hv (rtH Hs) = R at *
      go_wp2_with (first | (refine wpList_load_mid rfl 30 _ rfl (w.heap.size + 1) 0 rfl R.toList _ hry Tryd.underlying30 rfl icR.out ?_) | (refine wpList_store_row rfl 30 _ _ rfl w.heap.size R rfl rfl _ _ hz3.out (by rw [info_h32, hrs]) (by rw [hz32, hrs]) hr1 ?_) | fail)
      refine bodyPost_ret (v := .agg R) (results_cell1 (p := 2) Tryd.results15 _ _ w.heap.size 32 30 5 R (0, 0) rfl (heap_setRow_same hz3.out) Tryd.underlying30 info_h32 hrs) rfl ⟨rfl, below_setRow HB.out (Nat.le_refl _) _⟩
end Go.Proofs.YtnhfadjlajljlaaDoor
