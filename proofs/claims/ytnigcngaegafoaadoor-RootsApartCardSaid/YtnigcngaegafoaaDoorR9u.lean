/- The law RootsApart (layer 9). -/
import Derived.Test.YtnigcngaegafoaaDoorR9t
import Derived.Test.YtnigcngaegafoaaDoorR9v
namespace Go.Proofs.YtnigcngaegafoaaDoor
open Go.RowKit

set_option maxRecDepth 100000 in
set_option maxHeartbeats 8000000 in
set_option linter.unusedSimpArgs false in
theorem apart_walk (p q : Int) (s : Nat) (x : List UInt8) (w : World) (hK : TabL w) (hp0 : 0 ≤ p) (hp1 : p ≤ 255) (hq0 : 0 ≤ q) (hq1 : q ≤ 255) (hs : s < 4294967296) (hx : x.length = 32) : Calls Tryd.prog 6 #[.agg #[.int .u8 p, .int .u8 q], .int .u32 s, .agg (hv x)] w fun e w' => e = .returned (.bool true) ∧ Below w.heap.size w w' := by
  obtain ⟨n, hn, hn1, hn2⟩ : ∃ n : Nat, 1 + p % 64 = (n : Int) ∧ 1 ≤ n ∧ n ≤ 64 := ⟨(1 + p % 64).toNat, by omega, by omega, by omega⟩
  obtain ⟨i, hi, hin⟩ : ∃ i : Nat, q % (n : Int) = (i : Int) ∧ i < n := ⟨(q % (n : Int)).toNat, by
    have := Int.emod_nonneg q (show (n : Int) ≠ 0 by omega)
    omega, by
    have h1 := Int.emod_nonneg q (show (n : Int) ≠ 0 by omega)
    have h2 := Int.emod_lt_of_pos q (show (0 : Int) < n by omega)
    omega⟩
  have hn0 : ¬ (n : Int) = 0 := by omega
  have hnp : (0 : Int) < (n : Int) := by omega
  obtain ⟨w1, hw1⟩ : ∃ w1, (w.alloc (.cells #[.int .u8 p, .int .u8 q] 31)).alloc (.cells (hv x) 23) = w1 := ⟨_, rfl⟩
  have b1 : Below w.heap.size w w1 := by
    rw [← hw1]
    exact ((Below.refl _ _).alloc (Nat.le_refl _) _).alloc (by simp) _
  have g1 : w1.heap[w.heap.size + 1]? = some (.cells (hv x) 23 (0, 0)) := by
    have := heap_alloc_last (w.alloc (.cells #[.int .u8 p, .int .u8 q] 31)) (.cells (hv x) 23)
    rw [hw1] at this
    simpa using this
  have gp : w1.heap[w.heap.size]? = some (.cells #[.int .u8 p, .int .u8 q] 31 (0, 0)) := by
    have h0 := heap_alloc_last w (.cells #[.int .u8 p, .int .u8 q] 31)
    have h1 : ((w.alloc (.cells #[.int .u8 p, .int .u8 q] 31)).alloc (.cells (hv x) 23)).heap[w.heap.size]? = (w.alloc (.cells #[.int .u8 p, .int .u8 q] 31)).heap[w.heap.size]? := Go.heap_alloc_old _ _ (by simp)
    rw [hw1] at h1
    exact h1.trans h0
  have cp : w1.cell? ⟨w.heap.size, 0, none⟩ = some (.int .u8 p) := by rw [cell_of_row _ _ _ _ _ _ gp]; rfl
  have cq : w1.cell? ⟨w.heap.size, 1, none⟩ = some (.int .u8 q) := by rw [cell_of_row _ _ _ _ _ _ gp]; rfl
  obtain ⟨L, hL⟩ : ∃ L, someL n s = L := ⟨_, rfl⟩
  have hlen : L.length = n := by rw [← hL]; exact some_length _ _
  have h32 : ∀ y ∈ L, y.length = 32 := by rw [← hL]; exact some_32 _ _
  have HK : Hid (∀ w', Below w.heap.size w w' → TabL w') := fun w' h => hK.below h hK.lt
  have HSo : Hid (∀ w', Below w.heap.size w w' → Calls Tryd.prog 16 #[.int .i64 n, .int .u32 s] w' fun e w'' => ∃ a c, e = .returned (.slice a n c) ∧ Mh w' w'.heap.size (.slice a n c) L w'') := fun w' h => by
    have := some_any (w := w') n s (HK.out w' h) (by omega) hs
    rwa [hL] at this
  have HB1 : Hid (Below w.heap.size w w1) := b1
  have G1 : Hid (w1.heap[w.heap.size + 1]? = some (.cells (hv x) 23 (0, 0))) := g1
  obtain ⟨y, hy⟩ : ∃ y, L[i]? = some y := ⟨_, List.getElem?_eq_getElem (by omega)⟩
  have hy32 : y.length = 32 := h32 y (List.mem_of_getElem? hy)
  have hset : (L.set i x).length = n := by rw [List.length_set, hlen]
  have hgx : (L.set i x)[i]? = some x := by rw [List.getElem?_set_self (by omega)]
  have h32x : ∀ y ∈ L.set i x, y.length = 32 := fun y hy => (List.mem_or_eq_of_mem_set hy).elim (h32 y) (fun e => by rw [e]; exact hx)
  have hor : ((rootH L == rootH (L.set i x)) == (y == x) || colH L (L.set i x) i) = true := by
    have h := apart_or (shaL []) nodeL (a := L) (b := L.set i x) (i := i) (by rw [hset, hlen]) (by omega) (fun j hj => by rw [List.getElem?_set_ne (fun e => hj e.symm)])
    rw [hy, hgx] at h
    have e1 : decide (rootL (shaL []) nodeL L = rootL (shaL []) nodeL (L.set i x)) = (rootH L == rootH (L.set i x)) := by
      rw [Bool.eq_iff_iff, decide_eq_true_iff, beq_iff_eq]; exact Iff.rfl
    have e2 : decide (some y = some x) = (y == x) := by
      rw [Bool.eq_iff_iff, decide_eq_true_iff, beq_iff_eq]; exact ⟨Option.some.inj, fun e => by rw [e]⟩
    rw [e1, e2] at h
    exact h
  have hxs : (hv x).size = 32 := by rw [hv_size, hx]
  have HOr : Hid (((rootH L == rootH (L.set i x)) == (y == x) || colH L (L.set i x) i) = true) := hor
  clear hK hL hor g1 b1 gp
  go_enter Tryd.func6, Tryd.ntmps6
  go_wp2_with fail
  refine (HSo.out _ HB1.out).mono ?_
  rintro e w2 ⟨xa, ca, rfl, hMa⟩
  obtain ⟨a', c', hsl, hca⟩ := hMa.slice
  obtain ⟨rfl, -, rfl⟩ := Value.slice.inj hsl
  rw [hlen] at hca
  have HMa : Hid (Mh w1 w1.heap.size (.slice xa n ca) L w2) := hMa
  have HB2 : Hid (Below w.heap.size w w2) := HB1.out.trans (hMa.below.mono HB1.out.size)
  clear hMa hsl hw1 cp cq
  rw [hi]
  go_wp2_with fail
  refine (HSo.out _ HB2.out).mono ?_
  rintro e w3 ⟨xb, cb, rfl, hMb⟩
  obtain ⟨a', c', hsl, hcb⟩ := hMb.slice
  obtain ⟨rfl, -, rfl⟩ := Value.slice.inj hsl
  rw [hlen] at hcb
  obtain ⟨g, cur, new, rfl, hg1, hg, hcs, hnew, hMs⟩ := hMb.set i x hlen hin hx
  have hA2 := HMa.out.at_
  obtain ⟨-, ba, oa, rfl, -⟩ := hA2.cells.2 i y hy
  have hA4 := hA2.below hMs.below
  have hB4 := hMs.at_
  have hb4 : Below w.heap.size w (w3.setRow g new) := HB2.out.trans (hMs.below.mono HB2.out.size)
  have G3 : w3.heap[w.heap.size + 1]? = some (.cells (hv x) 23 (0, 0)) := by
    have l1 := (Array.getElem?_eq_some_iff.1 G1.out).1
    have e2 := (HMa.out.below.block _ l1).trans G1.out
    exact (hMb.below.block _ (Nat.lt_of_lt_of_le l1 HMa.out.below.size)).trans e2
  have hr3 : w3.rangeAt (w.heap.size + 1) 0 (hv x).toList := fun j v hj => by
    rw [cell_of_row _ _ _ _ _ _ G3, Nat.zero_add, ← Array.getElem?_toList]; exact hj
  obtain ⟨w4, hw4⟩ : ∃ w4, w3.setRow g new = w4 := ⟨_, rfl⟩
  rw [hw4] at hA4 hB4 hb4
  have HA4 : Hid (∀ w', Below w4.heap.size w4 w' → HsAt w' (.slice (some ⟨ba, oa, none⟩) n ca) L) := fun w' h => hA4.below h
  have HB4 : Hid (∀ w', Below w4.heap.size w4 w' → HsAt w' (.slice (some ⟨g, 0, none⟩) n cb) (L.set i x)) := fun w' h => hB4.below h
  have HW : Hid (∀ w', Below w4.heap.size w4 w' → Below w.heap.size w w') := fun w' h => hb4.trans (h.mono hb4.size)
  have icx : Hid ((Tryd.prog.info? 23).map (·.size) = some (hv x).toList.length) := by show _ = _; rw [info_h32, Array.length_toList, hxs]
  have icy : Hid ((Tryd.prog.info? 23).map (·.size) = some (hv y).toList.length) := by show _ = _; rw [info_h32, Array.length_toList, hv_size, hy32]
  have hone := hv_one x
  have k1 : (0 : Int) ≤ (i : Int) := by omega
  have k2 : (i : Int) < (n : Int) := by omega
  have k3 : ¬ (i : Int) < 0 := by omega
  have hnew2 : (cur.toList.take (i * 32) ++ (hv x).toList ++ cur.toList.drop (i * 32 + (hv x).size)).toArray = new := by rw [hxs]; exact hnew
  have hfit : i * 32 + (hv x).size ≤ cur.size := by rw [hxs]; exact hcs
  have HWr : Hid (w3.setRow g new = w4) := hw4
  clear hMb hMs hA2 hA4 hB4 hb4 G3 hsl hnew hcs hw4 HMa HSo HB1 HB2 G1 hg1
  generalize hX : hv x = X at *
  go_upto_region 5 with (first
    | (refine wpList_load_mid rfl 23 (.tmp 5) rfl (w.heap.size + 1) 0 rfl X.toList _ hr3 Tryd.underlying23 rfl icx.out ?_)
    | (refine store_midR rfl 23 (.tmp 30) (.tmp 29) rfl g (i * 32) X cur new _ rfl rfl hg hfit (by rw [info_h32, hxs]) hone hnew2 ?_)
    | fail)
  rw [HWr.out]
  have hcb2 : n ≤ cb := hcb
  have HRa : Hid (∀ w', Below w4.heap.size w4 w' → Calls Tryd.prog 9 #[.slice (some ⟨ba, oa, none⟩) n ca] w' fun e w'' => e = .returned (.agg (hv (rootH L))) ∧ Below w'.heap.size w' w'') := fun w' h => root_any (HK.out w' (HW.out w' h)) (HA4.out w' h) (fun a n c e => by have := Value.slice.inj e; omega) (by omega)
  have HRb : Hid (∀ w', Below w4.heap.size w4 w' → Calls Tryd.prog 9 #[.slice (some ⟨g, 0, none⟩) n cb] w' fun e w'' => e = .returned (.agg (hv (rootH (L.set i x)))) ∧ Below w'.heap.size w' w'') := fun w' h => root_any (HK.out w' (HW.out w' h)) (HB4.out w' h) (fun a n c e => by have := Value.slice.inj e; omega) (by omega)
  have HCo : Hid (∀ w', Below w4.heap.size w4 w' → Calls Tryd.prog 17 #[.slice (some ⟨ba, oa, none⟩) n ca, .slice (some ⟨g, 0, none⟩) n cb, .int .i64 i] w' fun e w'' => e = .returned (.bool (colH L (L.set i x) i)) ∧ Below w'.heap.size w' w'') := fun w' h => by
    have := collides_any (w := w') L (L.set i x) i ba oa ca g 0 cb (HK.out w' (HW.out w' h)) (by rw [hlen]; exact HA4.out w' h) (by rw [hlen]; exact HB4.out w' h) (by rw [hset, hlen]) (by omega) (by omega) (by omega) (by omega)
    rwa [hlen] at this
  have HD : Hid (∀ w', Below w4.heap.size w4 w' → Calls Tryd.prog 12 #[] w' fun e w'' => e = .returned (.bool true) ∧ Below w'.heap.size w' w'') := fun w' h => does_any w' (HK.out w' (HW.out w' h))
  have GY : Hid (∀ w', Below w4.heap.size w4 w' → w'.rangeAt ba (oa + i * 32) (hv y).toList) := fun w' h => by
    obtain ⟨-, b', o', e, hr⟩ := (HA4.out w' h).cells.2 i y hy
    simp at e
    obtain ⟨rfl, rfl⟩ := e
    exact hr w' (Below.refl _ _)
  have GX : Hid (∀ w', Below w4.heap.size w4 w' → w'.rangeAt g (i * 32) X.toList) := fun w' h => by
    obtain ⟨-, b', o', e, hr⟩ := (HB4.out w' h).cells.2 i x hgx
    simp at e
    obtain ⟨rfl, rfl⟩ := e
    have := hr w' (Below.refl _ _)
    rwa [Nat.zero_add, hX] at this
  have hq1 : ∀ w9 : World, (binOp .eql 23 (.agg (hv (rootH L))) (.agg (hv (rootH (L.set i x))))).run Tryd.prog w9 = .ok (.bool (rootH L == rootH (L.set i x))) w9 := fun w9 => eqH w9 _ _ (rootH_32 h32) (rootH_32 h32x)
  have hq2 : ∀ w9 : World, (binOp .eql 23 (.agg (hv y)) (.agg X)).run Tryd.prog w9 = .ok (.bool (y == x)) w9 := fun w9 => by rw [← hX]; exact eqH w9 _ _ hy32 hx
  clear hy hgx h32 h32x hy32 hr3 hg hfit hnew2 hone hX HK HA4 HB4 hcb hcb2 hca hlen hset
  have hor := HOr.out
  clear HOr
  generalize hv (rootH L) = RA at *
  generalize hv (rootH (L.set i x)) = RB at *
  generalize hv y = Y at *
  generalize (rootH L == rootH (L.set i x)) = r1 at *
  generalize (y == x) = r2 at *
  generalize colH L (L.set i x) i = cl at *
  by_cases hc : (r1 == r2) = true
  · clear hor HCo
    refine wp_region_held (S := Below w4.heap.size w4) (by kernel_rfl) ?_
    change wpAnyH _ _ _ _ _ _ _ _ (World.drew _)
    have HX : Below w4.heap.size w4 w4.drew := (Below.refl _ _).drew
    generalize World.drew _ = x0 at *
    refine wpAnyH_take (i := 0) (v := .slice (some ⟨ba, oa, none⟩) n ca) rfl (by kernel_rfl) (by kernel_rfl) (by kernel_rfl) (fun _ _ _ h => h) (Or.inl ⟨by rfl, by intro w9 _; go_simp⟩) HX ?_
    simp only [List.getElem_toArray, List.getElem_cons_succ, List.getElem_cons_zero, Act.put, List.setIfInBounds_toArray, List.set_cons_zero, List.set_cons_succ]
    refine wpAnyH_take (i := 2) (v := .slice (some ⟨g, 0, none⟩) n cb) rfl (by kernel_rfl) (by kernel_rfl) (by kernel_rfl) (fun _ _ _ h => h) (Or.inl ⟨by rfl, by intro w9 _; go_simp⟩) HX ?_
    simp only [List.getElem_toArray, List.getElem_cons_succ, List.getElem_cons_zero, Act.put, List.setIfInBounds_toArray, List.set_cons_zero, List.set_cons_succ]
    refine wpAnyH_take (i := 5) (v := .slice (some ⟨ba, oa, none⟩) n ca) rfl (by kernel_rfl) (by kernel_rfl) (by kernel_rfl) (fun _ _ _ h => h) (Or.inl ⟨by rfl, by intro w9 _; go_simp⟩) HX ?_
    simp only [List.getElem_toArray, List.getElem_cons_succ, List.getElem_cons_zero, Act.put, List.setIfInBounds_toArray, List.set_cons_zero, List.set_cons_succ]
    refine wpAnyH_take (i := 6) (v := .int .i64 i) rfl (by kernel_rfl) (by kernel_rfl) (by kernel_rfl) (fun _ _ _ h => h) (Or.inl ⟨by rfl, by intro w9 _; go_simp⟩) HX ?_
    simp only [List.getElem_toArray, List.getElem_cons_succ, List.getElem_cons_zero, Act.put, List.setIfInBounds_toArray, List.set_cons_zero, List.set_cons_succ]
    refine wpAnyH_take (i := 7) (v := .pointer (some ⟨ba, oa + i * 32, none⟩)) rfl (by kernel_rfl) (by kernel_rfl) (by kernel_rfl) (fun _ _ _ h => h) (Or.inl ⟨by rfl, by intro w9 _; go_simp⟩) HX ?_
    simp only [List.getElem_toArray, List.getElem_cons_succ, List.getElem_cons_zero, Act.put, List.setIfInBounds_toArray, List.set_cons_zero, List.set_cons_succ]
    refine wpAnyH_take (i := 8) (v := .agg Y) rfl (by kernel_rfl) (by kernel_rfl) (by kernel_rfl) (fun _ _ _ h => h) (yieldsIf_load_mid (by rfl) 23 _ rfl ba (oa + i * 32) rfl Y.toList _ (fun w' h => GY.out w' h) Tryd.underlying23 rfl icy.out) HX ?_
    simp only [List.getElem_toArray, List.getElem_cons_succ, List.getElem_cons_zero, Act.put, List.setIfInBounds_toArray, List.set_cons_zero, List.set_cons_succ]
    refine wpAnyH_take (i := 9) (v := .slice (some ⟨g, 0, none⟩) n cb) rfl (by kernel_rfl) (by kernel_rfl) (by kernel_rfl) (fun _ _ _ h => h) (Or.inl ⟨by rfl, by intro w9 _; go_simp⟩) HX ?_
    simp only [List.getElem_toArray, List.getElem_cons_succ, List.getElem_cons_zero, Act.put, List.setIfInBounds_toArray, List.set_cons_zero, List.set_cons_succ]
    refine wpAnyH_take (i := 10) (v := .int .i64 i) rfl (by kernel_rfl) (by kernel_rfl) (by kernel_rfl) (fun _ _ _ h => h) (Or.inl ⟨by rfl, by intro w9 _; go_simp⟩) HX ?_
    simp only [List.getElem_toArray, List.getElem_cons_succ, List.getElem_cons_zero, Act.put, List.setIfInBounds_toArray, List.set_cons_zero, List.set_cons_succ]
    refine wpAnyH_take (i := 11) (v := .pointer (some ⟨g, i * 32, none⟩)) rfl (by kernel_rfl) (by kernel_rfl) (by kernel_rfl) (fun _ _ _ h => h) (Or.inl ⟨by rfl, by intro w9 _; go_simp⟩) HX ?_
    simp only [List.getElem_toArray, List.getElem_cons_succ, List.getElem_cons_zero, Act.put, List.setIfInBounds_toArray, List.set_cons_zero, List.set_cons_succ]
    refine wpAnyH_take (i := 12) (v := .agg X) rfl (by kernel_rfl) (by kernel_rfl) (by kernel_rfl) (fun _ _ _ h => h) (yieldsIf_load_mid (by rfl) 23 _ rfl g (i * 32) rfl X.toList _ (fun w' h => GX.out w' h) Tryd.underlying23 rfl icx.out) HX ?_
    simp only [List.getElem_toArray, List.getElem_cons_succ, List.getElem_cons_zero, Act.put, List.setIfInBounds_toArray, List.set_cons_zero, List.set_cons_succ]
    refine wpAnyH_take (i := 13) (v := .bool r2) rfl (by kernel_rfl) (by kernel_rfl) (by kernel_rfl) (fun _ _ _ h => h) (Or.inl ⟨by rfl, by intro w9 _; go_simp⟩) HX ?_
    simp only [List.getElem_toArray, List.getElem_cons_succ, List.getElem_cons_zero, Act.put, List.setIfInBounds_toArray, List.set_cons_zero, List.set_cons_succ]
    refine wpAnyH_ready (rs := [1]) (by kernel_rfl) (by simp) (AllReadyH.cons (by simp only [List.getElem?_toArray, List.getElem?_cons_succ, List.getElem?_cons_zero]; rfl) (fun K hK => ?_) AllReadyH.nil)
    refine step_want (by rfl) ?_
    go_simp
    refine (HRa.out _ HX).mono ?_
    rintro e x1 ⟨rfl, bc⟩
    have HX : Below w4.heap.size w4 x1 := HX.trans (bc.mono HX.size)
    clear bc
    refine hK.out _ _ HX (fun _ => ?_)
    clear hK K
    try simp only [List.getElem_toArray, List.getElem_cons_succ, List.getElem_cons_zero, Act.put, List.setIfInBounds_toArray, List.set_cons_zero, List.set_cons_succ]
    refine wpAnyH_ready (rs := [3]) (by kernel_rfl) (by simp) (AllReadyH.cons (by simp only [List.getElem?_toArray, List.getElem?_cons_succ, List.getElem?_cons_zero]; rfl) (fun K hK => ?_) AllReadyH.nil)
    refine step_want (by rfl) ?_
    go_simp
    refine (HRb.out _ HX).mono ?_
    rintro e x2 ⟨rfl, bc⟩
    have HX : Below w4.heap.size w4 x2 := HX.trans (bc.mono HX.size)
    clear bc
    refine hK.out _ _ HX (fun _ => ?_)
    clear hK K
    try simp only [List.getElem_toArray, List.getElem_cons_succ, List.getElem_cons_zero, Act.put, List.setIfInBounds_toArray, List.set_cons_zero, List.set_cons_succ]
    refine wpAnyH_take (i := 4) (v := .bool r1) rfl (by kernel_rfl) (by kernel_rfl) (by kernel_rfl) (fun _ _ _ h => h) (Or.inl ⟨by rfl, by intro w9 _; go_simp⟩) HX ?_
    simp only [List.getElem_toArray, List.getElem_cons_succ, List.getElem_cons_zero, Act.put, List.setIfInBounds_toArray, List.set_cons_zero, List.set_cons_succ]
    refine wpAnyH_take (i := 14) (v := .bool true) rfl (by kernel_rfl) (by kernel_rfl) (by kernel_rfl) (fun _ _ _ h => h) (Or.inl ⟨by rfl, by intro w9 _; go_simp⟩) HX ?_
    simp only [List.getElem_toArray, List.getElem_cons_succ, List.getElem_cons_zero, Act.put, List.setIfInBounds_toArray, List.set_cons_zero, List.set_cons_succ]
    refine wpAnyH_take (i := 15) (v := .bool true) rfl (by kernel_rfl) (by kernel_rfl) (by kernel_rfl) (fun _ _ _ h => h) (Or.inl ⟨by rfl, by intro w9 _; go_simp⟩) HX ?_
    simp only [List.getElem_toArray, List.getElem_cons_succ, List.getElem_cons_zero, Act.put, List.setIfInBounds_toArray, List.set_cons_zero, List.set_cons_succ]
    refine wpAnyH_take (i := 16) (v := undef) rfl (by kernel_rfl) (by kernel_rfl) (by kernel_rfl) (fun _ _ _ h => h) (Or.inr ⟨by rfl, rfl⟩) HX ?_
    simp only [List.getElem_toArray, List.getElem_cons_succ, List.getElem_cons_zero, Act.put, List.setIfInBounds_toArray, List.set_cons_zero, List.set_cons_succ]
    refine wpAnyH_take (i := 17) (v := undef) rfl (by kernel_rfl) (by kernel_rfl) (by kernel_rfl) (fun _ _ _ h => h) (Or.inr ⟨by rfl, rfl⟩) HX ?_
    simp only [List.getElem_toArray, List.getElem_cons_succ, List.getElem_cons_zero, Act.put, List.setIfInBounds_toArray, List.set_cons_zero, List.set_cons_succ]
    refine wpAnyH_take (i := 18) (v := undef) rfl (by kernel_rfl) (by kernel_rfl) (by kernel_rfl) (fun _ _ _ h => h) (Or.inr ⟨by rfl, rfl⟩) HX ?_
    simp only [List.getElem_toArray, List.getElem_cons_succ, List.getElem_cons_zero, Act.put, List.setIfInBounds_toArray, List.set_cons_zero, List.set_cons_succ]
    refine wpAnyH_take (i := 19) (v := undef) rfl (by kernel_rfl) (by kernel_rfl) (by kernel_rfl) (fun _ _ _ h => h) (Or.inr ⟨by rfl, rfl⟩) HX ?_
    simp only [List.getElem_toArray, List.getElem_cons_succ, List.getElem_cons_zero, Act.put, List.setIfInBounds_toArray, List.set_cons_zero, List.set_cons_succ]
    refine wpAnyH_take (i := 20) (v := .bool true) rfl (by kernel_rfl) (by kernel_rfl) (by kernel_rfl) (fun _ _ _ h => h) (Or.inl ⟨by rfl, by intro w9 _; go_simp⟩) HX ?_
    simp only [List.getElem_toArray, List.getElem_cons_succ, List.getElem_cons_zero, Act.put, List.setIfInBounds_toArray, List.set_cons_zero, List.set_cons_succ]
    refine wpAnyH_take (i := 21) (v := .bool true) rfl (by kernel_rfl) (by kernel_rfl) (by kernel_rfl) (fun _ _ _ h => h) (Or.inl ⟨by rfl, by intro w9 _; go_simp⟩) HX ?_
    simp only [List.getElem_toArray, List.getElem_cons_succ, List.getElem_cons_zero, Act.put, List.setIfInBounds_toArray, List.set_cons_zero, List.set_cons_succ]
    refine wpAnyH_ready (rs := [22]) (by kernel_rfl) (by simp) (AllReadyH.cons (by simp only [List.getElem?_toArray, List.getElem?_cons_succ, List.getElem?_cons_zero]; rfl) (fun K hK => ?_) AllReadyH.nil)
    refine step_want (by rfl) ?_
    go_simp
    refine (HD.out _ HX).mono ?_
    rintro e x3 ⟨rfl, bc⟩
    have HX : Below w4.heap.size w4 x3 := HX.trans (bc.mono HX.size)
    clear bc
    refine hK.out _ _ HX (fun _ => ?_)
    clear hK K
    try simp only [List.getElem_toArray, List.getElem_cons_succ, List.getElem_cons_zero, Act.put, List.setIfInBounds_toArray, List.set_cons_zero, List.set_cons_succ]
    refine wpAnyH_take (i := 23) (v := .bool true) rfl (by kernel_rfl) (by kernel_rfl) (by kernel_rfl) (fun _ _ _ h => h) (Or.inl ⟨by rfl, by intro w9 _; go_simp⟩) HX ?_
    simp only [List.getElem_toArray, List.getElem_cons_succ, List.getElem_cons_zero, Act.put, List.setIfInBounds_toArray, List.set_cons_zero, List.set_cons_succ]
    refine wpAnyH_take (i := 24) (v := .bool true) rfl (by kernel_rfl) (by kernel_rfl) (by kernel_rfl) (fun _ _ _ h => h) (Or.inl ⟨by rfl, by intro w9 _; go_simp⟩) HX ?_
    simp only [List.getElem_toArray, List.getElem_cons_succ, List.getElem_cons_zero, Act.put, List.setIfInBounds_toArray, List.set_cons_zero, List.set_cons_succ]
    refine wpAnyH_done (by kernel_rfl) ?_ _
    have HF : Hid (Below w.heap.size w x3) := HW.out _ HX
    clear HX
    go_wp2
    go_ret
    exact ⟨rfl, HF.out⟩
  · have hcf : (r1 == r2) = false := by simpa using hc
    have hcl : cl = true := by rw [hcf] at hor; simpa using hor
    subst hcl
    clear hc hor
    refine wp_region_held (S := Below w4.heap.size w4) (by kernel_rfl) ?_
    change wpAnyH _ _ _ _ _ _ _ _ (World.drew _)
    have HX : Below w4.heap.size w4 w4.drew := (Below.refl _ _).drew
    generalize World.drew _ = x0 at *
    refine wpAnyH_take (i := 0) (v := .slice (some ⟨ba, oa, none⟩) n ca) rfl (by kernel_rfl) (by kernel_rfl) (by kernel_rfl) (fun _ _ _ h => h) (Or.inl ⟨by rfl, by intro w9 _; go_simp⟩) HX ?_
    simp only [List.getElem_toArray, List.getElem_cons_succ, List.getElem_cons_zero, Act.put, List.setIfInBounds_toArray, List.set_cons_zero, List.set_cons_succ]
    refine wpAnyH_take (i := 2) (v := .slice (some ⟨g, 0, none⟩) n cb) rfl (by kernel_rfl) (by kernel_rfl) (by kernel_rfl) (fun _ _ _ h => h) (Or.inl ⟨by rfl, by intro w9 _; go_simp⟩) HX ?_
    simp only [List.getElem_toArray, List.getElem_cons_succ, List.getElem_cons_zero, Act.put, List.setIfInBounds_toArray, List.set_cons_zero, List.set_cons_succ]
    refine wpAnyH_take (i := 5) (v := .slice (some ⟨ba, oa, none⟩) n ca) rfl (by kernel_rfl) (by kernel_rfl) (by kernel_rfl) (fun _ _ _ h => h) (Or.inl ⟨by rfl, by intro w9 _; go_simp⟩) HX ?_
    simp only [List.getElem_toArray, List.getElem_cons_succ, List.getElem_cons_zero, Act.put, List.setIfInBounds_toArray, List.set_cons_zero, List.set_cons_succ]
    refine wpAnyH_take (i := 6) (v := .int .i64 i) rfl (by kernel_rfl) (by kernel_rfl) (by kernel_rfl) (fun _ _ _ h => h) (Or.inl ⟨by rfl, by intro w9 _; go_simp⟩) HX ?_
    simp only [List.getElem_toArray, List.getElem_cons_succ, List.getElem_cons_zero, Act.put, List.setIfInBounds_toArray, List.set_cons_zero, List.set_cons_succ]
    refine wpAnyH_take (i := 7) (v := .pointer (some ⟨ba, oa + i * 32, none⟩)) rfl (by kernel_rfl) (by kernel_rfl) (by kernel_rfl) (fun _ _ _ h => h) (Or.inl ⟨by rfl, by intro w9 _; go_simp⟩) HX ?_
    simp only [List.getElem_toArray, List.getElem_cons_succ, List.getElem_cons_zero, Act.put, List.setIfInBounds_toArray, List.set_cons_zero, List.set_cons_succ]
    refine wpAnyH_take (i := 8) (v := .agg Y) rfl (by kernel_rfl) (by kernel_rfl) (by kernel_rfl) (fun _ _ _ h => h) (yieldsIf_load_mid (by rfl) 23 _ rfl ba (oa + i * 32) rfl Y.toList _ (fun w' h => GY.out w' h) Tryd.underlying23 rfl icy.out) HX ?_
    simp only [List.getElem_toArray, List.getElem_cons_succ, List.getElem_cons_zero, Act.put, List.setIfInBounds_toArray, List.set_cons_zero, List.set_cons_succ]
    refine wpAnyH_take (i := 9) (v := .slice (some ⟨g, 0, none⟩) n cb) rfl (by kernel_rfl) (by kernel_rfl) (by kernel_rfl) (fun _ _ _ h => h) (Or.inl ⟨by rfl, by intro w9 _; go_simp⟩) HX ?_
    simp only [List.getElem_toArray, List.getElem_cons_succ, List.getElem_cons_zero, Act.put, List.setIfInBounds_toArray, List.set_cons_zero, List.set_cons_succ]
    refine wpAnyH_take (i := 10) (v := .int .i64 i) rfl (by kernel_rfl) (by kernel_rfl) (by kernel_rfl) (fun _ _ _ h => h) (Or.inl ⟨by rfl, by intro w9 _; go_simp⟩) HX ?_
    simp only [List.getElem_toArray, List.getElem_cons_succ, List.getElem_cons_zero, Act.put, List.setIfInBounds_toArray, List.set_cons_zero, List.set_cons_succ]
    refine wpAnyH_take (i := 11) (v := .pointer (some ⟨g, i * 32, none⟩)) rfl (by kernel_rfl) (by kernel_rfl) (by kernel_rfl) (fun _ _ _ h => h) (Or.inl ⟨by rfl, by intro w9 _; go_simp⟩) HX ?_
    simp only [List.getElem_toArray, List.getElem_cons_succ, List.getElem_cons_zero, Act.put, List.setIfInBounds_toArray, List.set_cons_zero, List.set_cons_succ]
    refine wpAnyH_take (i := 12) (v := .agg X) rfl (by kernel_rfl) (by kernel_rfl) (by kernel_rfl) (fun _ _ _ h => h) (yieldsIf_load_mid (by rfl) 23 _ rfl g (i * 32) rfl X.toList _ (fun w' h => GX.out w' h) Tryd.underlying23 rfl icx.out) HX ?_
    simp only [List.getElem_toArray, List.getElem_cons_succ, List.getElem_cons_zero, Act.put, List.setIfInBounds_toArray, List.set_cons_zero, List.set_cons_succ]
    refine wpAnyH_take (i := 13) (v := .bool r2) rfl (by kernel_rfl) (by kernel_rfl) (by kernel_rfl) (fun _ _ _ h => h) (Or.inl ⟨by rfl, by intro w9 _; go_simp⟩) HX ?_
    simp only [List.getElem_toArray, List.getElem_cons_succ, List.getElem_cons_zero, Act.put, List.setIfInBounds_toArray, List.set_cons_zero, List.set_cons_succ]
    refine wpAnyH_ready (rs := [1]) (by kernel_rfl) (by simp) (AllReadyH.cons (by simp only [List.getElem?_toArray, List.getElem?_cons_succ, List.getElem?_cons_zero]; rfl) (fun K hK => ?_) AllReadyH.nil)
    refine step_want (by rfl) ?_
    go_simp
    refine (HRa.out _ HX).mono ?_
    rintro e x1 ⟨rfl, bc⟩
    have HX : Below w4.heap.size w4 x1 := HX.trans (bc.mono HX.size)
    clear bc
    refine hK.out _ _ HX (fun _ => ?_)
    clear hK K
    try simp only [List.getElem_toArray, List.getElem_cons_succ, List.getElem_cons_zero, Act.put, List.setIfInBounds_toArray, List.set_cons_zero, List.set_cons_succ]
    refine wpAnyH_ready (rs := [3]) (by kernel_rfl) (by simp) (AllReadyH.cons (by simp only [List.getElem?_toArray, List.getElem?_cons_succ, List.getElem?_cons_zero]; rfl) (fun K hK => ?_) AllReadyH.nil)
    refine step_want (by rfl) ?_
    go_simp
    refine (HRb.out _ HX).mono ?_
    rintro e x2 ⟨rfl, bc⟩
    have HX : Below w4.heap.size w4 x2 := HX.trans (bc.mono HX.size)
    clear bc
    refine hK.out _ _ HX (fun _ => ?_)
    clear hK K
    try simp only [List.getElem_toArray, List.getElem_cons_succ, List.getElem_cons_zero, Act.put, List.setIfInBounds_toArray, List.set_cons_zero, List.set_cons_succ]
    refine wpAnyH_take (i := 4) (v := .bool r1) rfl (by kernel_rfl) (by kernel_rfl) (by kernel_rfl) (fun _ _ _ h => h) (Or.inl ⟨by rfl, by intro w9 _; go_simp⟩) HX ?_
    simp only [List.getElem_toArray, List.getElem_cons_succ, List.getElem_cons_zero, Act.put, List.setIfInBounds_toArray, List.set_cons_zero, List.set_cons_succ]
    refine wpAnyH_take (i := 14) (v := .bool false) rfl (by kernel_rfl) (by kernel_rfl) (by kernel_rfl) (fun _ _ _ h => h) (Or.inl ⟨by rfl, by intro w9 _; go_simp⟩) HX ?_
    simp only [List.getElem_toArray, List.getElem_cons_succ, List.getElem_cons_zero, Act.put, List.setIfInBounds_toArray, List.set_cons_zero, List.set_cons_succ]
    refine wpAnyH_take (i := 15) (v := .bool false) rfl (by kernel_rfl) (by kernel_rfl) (by kernel_rfl) (fun _ _ _ h => h) (Or.inl ⟨by rfl, by intro w9 _; go_simp⟩) HX ?_
    simp only [List.getElem_toArray, List.getElem_cons_succ, List.getElem_cons_zero, Act.put, List.setIfInBounds_toArray, List.set_cons_zero, List.set_cons_succ]
    refine wpAnyH_take (i := 16) (v := .slice (some ⟨ba, oa, none⟩) n ca) rfl (by kernel_rfl) (by kernel_rfl) (by kernel_rfl) (fun _ _ _ h => h) (Or.inl ⟨by rfl, by intro w9 _; go_simp⟩) HX ?_
    simp only [List.getElem_toArray, List.getElem_cons_succ, List.getElem_cons_zero, Act.put, List.setIfInBounds_toArray, List.set_cons_zero, List.set_cons_succ]
    refine wpAnyH_take (i := 17) (v := .slice (some ⟨g, 0, none⟩) n cb) rfl (by kernel_rfl) (by kernel_rfl) (by kernel_rfl) (fun _ _ _ h => h) (Or.inl ⟨by rfl, by intro w9 _; go_simp⟩) HX ?_
    simp only [List.getElem_toArray, List.getElem_cons_succ, List.getElem_cons_zero, Act.put, List.setIfInBounds_toArray, List.set_cons_zero, List.set_cons_succ]
    refine wpAnyH_take (i := 18) (v := .int .i64 i) rfl (by kernel_rfl) (by kernel_rfl) (by kernel_rfl) (fun _ _ _ h => h) (Or.inl ⟨by rfl, by intro w9 _; go_simp⟩) HX ?_
    simp only [List.getElem_toArray, List.getElem_cons_succ, List.getElem_cons_zero, Act.put, List.setIfInBounds_toArray, List.set_cons_zero, List.set_cons_succ]
    refine wpAnyH_ready (rs := [19]) (by kernel_rfl) (by simp) (AllReadyH.cons (by simp only [List.getElem?_toArray, List.getElem?_cons_succ, List.getElem?_cons_zero]; rfl) (fun K hK => ?_) AllReadyH.nil)
    refine step_want (by rfl) ?_
    go_simp
    refine (HCo.out _ HX).mono ?_
    rintro e x3 ⟨rfl, bc⟩
    have HX : Below w4.heap.size w4 x3 := HX.trans (bc.mono HX.size)
    clear bc
    refine hK.out _ _ HX (fun _ => ?_)
    clear hK K
    try simp only [List.getElem_toArray, List.getElem_cons_succ, List.getElem_cons_zero, Act.put, List.setIfInBounds_toArray, List.set_cons_zero, List.set_cons_succ]
    refine wpAnyH_take (i := 20) (v := .bool true) rfl (by kernel_rfl) (by kernel_rfl) (by kernel_rfl) (fun _ _ _ h => h) (Or.inl ⟨by rfl, by intro w9 _; go_simp⟩) HX ?_
    simp only [List.getElem_toArray, List.getElem_cons_succ, List.getElem_cons_zero, Act.put, List.setIfInBounds_toArray, List.set_cons_zero, List.set_cons_succ]
    refine wpAnyH_take (i := 21) (v := .bool true) rfl (by kernel_rfl) (by kernel_rfl) (by kernel_rfl) (fun _ _ _ h => h) (Or.inl ⟨by rfl, by intro w9 _; go_simp⟩) HX ?_
    simp only [List.getElem_toArray, List.getElem_cons_succ, List.getElem_cons_zero, Act.put, List.setIfInBounds_toArray, List.set_cons_zero, List.set_cons_succ]
    refine wpAnyH_ready (rs := [22]) (by kernel_rfl) (by simp) (AllReadyH.cons (by simp only [List.getElem?_toArray, List.getElem?_cons_succ, List.getElem?_cons_zero]; rfl) (fun K hK => ?_) AllReadyH.nil)
    refine step_want (by rfl) ?_
    go_simp
    refine (HD.out _ HX).mono ?_
    rintro e x4 ⟨rfl, bc⟩
    have HX : Below w4.heap.size w4 x4 := HX.trans (bc.mono HX.size)
    clear bc
    refine hK.out _ _ HX (fun _ => ?_)
    clear hK K
    try simp only [List.getElem_toArray, List.getElem_cons_succ, List.getElem_cons_zero, Act.put, List.setIfInBounds_toArray, List.set_cons_zero, List.set_cons_succ]
    refine wpAnyH_take (i := 23) (v := .bool true) rfl (by kernel_rfl) (by kernel_rfl) (by kernel_rfl) (fun _ _ _ h => h) (Or.inl ⟨by rfl, by intro w9 _; go_simp⟩) HX ?_
    simp only [List.getElem_toArray, List.getElem_cons_succ, List.getElem_cons_zero, Act.put, List.setIfInBounds_toArray, List.set_cons_zero, List.set_cons_succ]
    refine wpAnyH_take (i := 24) (v := .bool true) rfl (by kernel_rfl) (by kernel_rfl) (by kernel_rfl) (fun _ _ _ h => h) (Or.inl ⟨by rfl, by intro w9 _; go_simp⟩) HX ?_
    simp only [List.getElem_toArray, List.getElem_cons_succ, List.getElem_cons_zero, Act.put, List.setIfInBounds_toArray, List.set_cons_zero, List.set_cons_succ]
    refine wpAnyH_done (by kernel_rfl) ?_ _
    have HF : Hid (Below w.heap.size w x4) := HW.out _ HX
    clear HX
    go_wp2
    go_ret
    exact ⟨rfl, HF.out⟩
theorem apart_law (p q s : Int) (x : List UInt8) (w : World) (hK : TabL w) (hp : 0 ≤ p ∧ p ≤ 255) (hq : 0 ≤ q ∧ q ≤ 255) (hs : 0 ≤ s ∧ s ≤ 4294967295) (hx : x.length = 32) : Calls Tryd.prog 6 #[.agg #[.int .u8 p, .int .u8 q], .int .u32 s, .agg (hv x)] w fun e w' => e = .returned (.bool true) ∧ Below w.heap.size w w' := by
  obtain ⟨m, rfl⟩ := Int.eq_ofNat_of_zero_le hs.1
  exact apart_walk p q m x w hK hp.1 hp.2 hq.1 hq.2 (by omega) hx
end Go.Proofs.YtnigcngaegafoaaDoor
