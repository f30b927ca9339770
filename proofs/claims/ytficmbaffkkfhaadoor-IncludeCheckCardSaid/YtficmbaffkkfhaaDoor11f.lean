/- The law's does: the chapter's examples (layer 11). -/
import Derived.Test.YtficmbaffkkfhaaDoor11e
import Derived.Test.YtficmbaffkkfhaaDoorW9
namespace Go.Proofs.YtficmbaffkkfhaaDoor
open Go.RowKit

theorem sp_3 : splitN 3 = 2 := split_is ⟨1, rfl⟩ (by omega) (by omega)
theorem sp_2 : splitN 2 = 1 := split_is ⟨0, rfl⟩ (by omega) (by omega)
theorem pr_two (x y : List UInt8) : prH [x, y] 0 = [y] := by
  have h := pr_left (L := [x, y]) (i := 0) (by simp) (by show 0 < splitN 2; rw [sp_2]; decide)
  rw [show ([x, y] : List (List UInt8)).length = 2 from rfl, sp_2] at h
  rw [h, pr_one (by simp)]
  rfl
theorem pr_first (x y z : List UInt8) : prH [x, y, z] 0 = [y, z] := by
  have h := pr_left (L := [x, y, z]) (i := 0) (by simp) (by show 0 < splitN 3; rw [sp_3]; decide)
  rw [show ([x, y, z] : List (List UInt8)).length = 3 from rfl, sp_3] at h
  rw [h]
  show prH [x, y] 0 ++ [z] = _
  rw [pr_two]
  rfl
theorem pr_last (x y z : List UInt8) : prH [x, y, z] 2 = [nodeL x y] := by
  have h := pr_right (L := [x, y, z]) (i := 2) (by simp) (by show ¬ 2 < splitN 3; rw [sp_3]; decide)
  rw [show ([x, y, z] : List (List UInt8)).length = 3 from rfl, sp_3] at h
  rw [h]
  show prH [z] 0 ++ [rootH [x, y]] = _
  have h2 : rootH [x, y] = nodeL (rootH ([x, y].take (splitN 2))) (rootH ([x, y].drop (splitN 2))) := root_node _ _ (by simp)
  rw [pr_one (by simp), h2, sp_2]
  rfl
theorem ld_none (x : List UInt8) : ldH x 0 2 [] = none := by
  have h := bes_left (i := 0) (s := 0) (e := 2) (by omega) (by show 0 < 0 + splitN 2; rw [sp_2]; decide)
  exact if_neg (by rw [h, List.length_append]; simp)
theorem ld_self (x : List UInt8) : ldH x 0 1 [] = some x := by
  have h : bes 0 0 1 = [] := bes_one (by omega)
  unfold ldH
  rw [h]
  rfl
/-- Two hashes that a slice is built of. -/
theorem two_hs (w : World) {x y : List UInt8} (hx : x.length = 32) (hy : y.length = 32) : HsAt (w.alloc (.cells (hv x ++ hv y) 23)) (.slice (some ⟨w.heap.size, 0, none⟩) 2 2) [x, y] := by
  have hs : (hv x).size = 32 := by rw [hv_size, hx]
  have hg := heap_alloc_last w (.cells (hv x ++ hv y) 23)
  refine ⟨_, _, rfl, fun i z hi => ?_⟩
  match i, hi with
  | 0, hi =>
    obtain rfl : x = z := by simpa using hi
    refine ⟨hx, _, 0, rfl, fun j v hj => ?_⟩
    have hl := (List.getElem?_eq_some_iff.1 hj).1
    rw [Array.length_toList] at hl
    rw [cell_of_row _ _ _ _ _ _ hg, Array.getElem?_append_left (by omega), ← Array.getElem?_toList]
    simpa using hj
  | 1, hi =>
    obtain rfl : y = z := by simpa using hi
    refine ⟨hy, _, 0, rfl, fun j v hj => ?_⟩
    rw [cell_of_row _ _ _ _ _ _ hg, Array.getElem?_append_right (by omega), ← Array.getElem?_toList, hs, show 0 + 1 * 32 + j - 32 = j by omega]
    exact hj
  | i + 2, hi => simp at hi
theorem nil_at (w : World) : HsAt w (.slice none 0 0) [] := ⟨none, 0, rfl, fun i x hi => by cases hi⟩
set_option maxRecDepth 100000 in
set_option maxHeartbeats 8000000 in
set_option linter.unusedSimpArgs false in
set_option linter.unusedVariables false in
theorem does11_any (w : World) (hK : TabL w) : Calls Tryd.prog 12 #[] w fun e w' => e = .returned (.bool true) ∧ Below w.heap.size w w' := by
  obtain ⟨x, y, z, hL⟩ : ∃ x y z, someL 3 4 = [x, y, z] := by
    have := some_length 3 4
    match h : someL 3 4, this with
    | [x, y, z], _ => exact ⟨x, y, z, rfl⟩
  have h32 := some_32 3 4
  have HSo : Hid (Calls Tryd.prog 15 #[.int .i64 3, .int .u32 4] w fun e w'' => ∃ a c, e = .returned (.slice a 3 c) ∧ Mh w w.heap.size (.slice a 3 c) [x, y, z] w'') := by
    have := some_any (w := w) 3 4 hK (by omega) (by omega)
    rw [hL] at this
    exact this
  rw [hL] at h32
  have hx : x.length = 32 := h32 x (by simp)
  have hy : y.length = 32 := h32 y (by simp)
  have hz : z.length = 32 := h32 z (by simp)
  have hn : (nodeL x y).length = 32 := shaL_length _
  have hr : (rootH [x, y, z]).length = 32 := rootH_32 h32
  have HTab : Hid (∀ W, Below w.heap.size w W → TabL W) := fun W hW => hK.below hW hK.lt
  clear hK
  go_enter Tryd.func12, Tryd.ntmps12
  go_wp2_with fail
  refine HSo.out.mono ?_
  rintro e w2 ⟨la, lc, rfl, hM⟩
  obtain ⟨a', c', hsl, hlc⟩ := hM.slice
  obtain ⟨rfl, -, rfl⟩ := Value.slice.inj hsl
  have hA2 := hM.at_
  obtain ⟨-, lb, lo, rfl, -⟩ := hA2.cells.2 0 x rfl
  have HB2 : Hid (Below w.heap.size w w2) := hM.below
  have HA2 : Hid (∀ W, Below w2.heap.size w2 W → HsAt W (.slice (some ⟨lb, lo, none⟩) 3 lc) [x, y, z] ∧ TabL W ∧ Below w.heap.size w W) := fun W hW =>
    ⟨hA2.below hW, HTab.out W (HB2.out.trans (hW.mono HB2.out.size)), HB2.out.trans (hW.mono HB2.out.size)⟩
  have hlc3 : (3 : Int) ≤ (lc : Int) := by simp at hlc; omega
  have hlcn : 3 ≤ lc := by simp at hlc; omega
  have HP0 : Hid (∀ W, Below w2.heap.size w2 W → Calls Tryd.prog 9 #[.slice (some ⟨lb, lo, none⟩) 3 lc, .int .i64 0] W fun e w' => ∃ a c, e = .returned (.tuple #[.slice a 2 c, .int .i64 0]) ∧ Mh W W.heap.size (.slice a 2 c) [y, z] w') := fun W hW => by
    have h := prove_any (L := [x, y, z]) 0 (by simp) (HA2.out W hW).2.1 (HA2.out W hW).1 hlcn (by simp)
    rw [pr_first] at h
    exact h
  have HP2 : Hid (∀ W, Below w2.heap.size w2 W → Calls Tryd.prog 9 #[.slice (some ⟨lb, lo, none⟩) 3 lc, .int .i64 2] W fun e w' => ∃ a c, e = .returned (.tuple #[.slice a 1 c, .int .i64 0]) ∧ Mh W W.heap.size (.slice a 1 c) [nodeL x y] w') := fun W hW => by
    have h := prove_any (L := [x, y, z]) 2 (by simp) (HA2.out W hW).2.1 (HA2.out W hW).1 hlcn (by simp)
    rw [pr_last] at h
    exact h
  have HP3 : Hid (∀ W, Calls Tryd.prog 9 #[.slice (some ⟨lb, lo, none⟩) 3 lc, .int .i64 3] W fun e w' => e = .returned (.tuple #[.slice none 0 0, .int .i64 2]) ∧ Below W.heap.size W w') := fun W => prove_no 3 (by omega)
  clear hM hsl hA2 HSo hL h32
  go_wp2_with fail
  refine (HP0.out _ (Below.refl _ _)).mono ?_
  rintro e w3 ⟨pa, pc, rfl, hMp⟩
  have HMp : Hid (Mh w2 w2.heap.size (.slice pa 2 pc) [y, z] w3) := hMp
  clear hMp
  go_wp2_with fail
  refine (HP2.out _ HMp.out.below).mono ?_
  rintro e w4 ⟨qa, qc, rfl, hMq⟩
  have HMq : Hid (Mh w3 w3.heap.size (.slice qa 1 qc) [nodeL x y] w4) := hMq
  clear hMq
  go_wp2_with fail
  refine (HP3.out _).mono ?_
  rintro e w5 ⟨rfl, b5⟩
  have hpc : 2 ≤ pc := by
    obtain ⟨a', c', hsl, hc⟩ := HMp.out.slice
    obtain ⟨-, -, rfl⟩ := Value.slice.inj hsl
    exact hc
  have H5 : Hid (∀ W, Below w5.heap.size w5 W → HsAt W (.slice (some ⟨lb, lo, none⟩) 3 lc) [x, y, z] ∧ HsAt W (.slice pa 2 pc) [y, z] ∧ HsAt W (.slice qa 1 qc) [nodeL x y] ∧ TabL W ∧ Below w.heap.size w W) := fun W hW => by
    have h45 : Below w4.heap.size w4 W := b5.trans (hW.mono b5.size)
    have h35 : Below w3.heap.size w3 W := HMq.out.below.trans (h45.mono HMq.out.below.size)
    have h25 : Below w2.heap.size w2 W := HMp.out.below.trans (h35.mono HMp.out.below.size)
    have h := HA2.out W h25
    exact ⟨h.1, HMp.out.at_.below h35, HMq.out.at_.below h45, h.2.1, h.2.2⟩
  have HX5 : Hid (Below w5.heap.size w5 w5) := Below.refl _ _
  have hxs : (hv x).size = 32 := by rw [hv_size, hx]
  have hys : (hv y).size = 32 := by rw [hv_size, hy]
  have hzs : (hv z).size = 32 := by rw [hv_size, hz]
  have hns : (hv (nodeL x y)).size = 32 := by rw [hv_size, hn]
  have icx : Hid ((Tryd.prog.info? 23).map (·.size) = some (hv x).toList.length) := by show _ = _; rw [info_h32, Array.length_toList, hxs]
  have icy : Hid ((Tryd.prog.info? 23).map (·.size) = some (hv y).toList.length) := by show _ = _; rw [info_h32, Array.length_toList, hys]
  have icz : Hid ((Tryd.prog.info? 23).map (·.size) = some (hv z).toList.length) := by show _ = _; rw [info_h32, Array.length_toList, hzs]
  have G0 : Hid (∀ W, Below w5.heap.size w5 W → W.rangeAt lb lo (hv x).toList) := fun W hW => by
    obtain ⟨-, b', o', e, hr⟩ := (H5.out W hW).1.cells.2 0 x rfl
    simp at e
    obtain ⟨rfl, rfl⟩ := e
    have := hr W (Below.refl _ _)
    rwa [Nat.zero_mul, Nat.add_zero] at this
  have G1 : Hid (∀ W, Below w5.heap.size w5 W → W.rangeAt lb (lo + 32) (hv y).toList) := fun W hW => by
    obtain ⟨-, b', o', e, hr⟩ := (H5.out W hW).1.cells.2 1 y rfl
    simp at e
    obtain ⟨rfl, rfl⟩ := e
    exact hr W (Below.refl _ _)
  have G2 : Hid (∀ W, Below w5.heap.size w5 W → W.rangeAt lb (lo + 64) (hv z).toList) := fun W hW => by
    obtain ⟨-, b', o', e, hr⟩ := (H5.out W hW).1.cells.2 2 z rfl
    simp at e
    obtain ⟨rfl, rfl⟩ := e
    exact hr W (Below.refl _ _)
  have HSm2 : Hid (∀ (W : World) (v1 v2 : Value), HsAt W v1 [y, z] → HsAt W v2 [y, z] → Calls Tryd.prog 11 #[v1, v2] W fun e w' => e = .returned (.bool true) ∧ Below W.heap.size W w') := fun W v1 v2 h1 h2 => same_hs h1 h2 (by simp)
  have HSm1 : Hid (∀ (W : World) (v1 v2 : Value), HsAt W v1 [nodeL x y] → HsAt W v2 [nodeL x y] → Calls Tryd.prog 11 #[v1, v2] W fun e w' => e = .returned (.bool true) ∧ Below W.heap.size W w') := fun W v1 v2 h1 h2 => same_hs h1 h2 (by simp)
  have HNd : Hid (∀ W, TabL W → Calls Tryd.prog 18 #[.agg (hv x), .agg (hv y)] W fun e w' => e = .returned (.agg (hv (nodeL x y))) ∧ Below W.heap.size W w') := fun W hW => node_any x y W hW hx hy
  have HRt : Hid (∀ W, TabL W → HsAt W (.slice (some ⟨lb, lo, none⟩) 3 lc) [x, y, z] → Calls Tryd.prog 16 #[.slice (some ⟨lb, lo, none⟩) 3 lc] W fun e w' => e = .returned (.agg (hv (rootH [x, y, z]))) ∧ Below W.heap.size W w') := fun W h1 h2 => root_any h1 h2 (fun a n c e => by have := Value.slice.inj e; omega) (by simp)
  have HC1 : Hid (∀ W, TabL W → HsAt W (.slice pa 2 pc) [y, z] → Calls Tryd.prog 13 #[.agg (hv x), .int .i64 0, .int .i64 3, .slice pa 2 pc, .agg (hv (rootH [x, y, z]))] W fun e w' => e = .returned (.int .i64 0) ∧ Below W.heap.size W w') := fun W h1 h2 => by
    have := check_any (P := [y, z]) (r := rootH [x, y, z]) 0 3 (by omega) hx hr h1 h2 hpc (by simp)
    have e : ckE x 0 3 [y, z] (rootH [x, y, z]) = 0 := by
      rw [ckE, if_pos (by omega), if_pos]
      have h := pr_checks (L := [x, y, z]) (i := 0) (x := x) rfl
      rw [pr_first] at h
      exact h
    rwa [e] at this
  have HC2 : Hid (∀ W, TabL W → Calls Tryd.prog 13 #[.agg (hv x), .int .i64 0, .int .i64 1, .slice none 0 0, .agg (hv x)] W fun e w' => e = .returned (.int .i64 0) ∧ Below W.heap.size W w') := fun W h1 => by
    have := check_any (P := []) (r := x) 0 1 (by omega) hx hx h1 (nil_at W) (Nat.le_refl _) (by simp)
    have e : ckE x 0 1 [] x = 0 := by rw [ckE, if_pos (by omega), if_pos]; exact ld_self x
    rwa [e] at this
  have HC3 : Hid (∀ W, TabL W → Calls Tryd.prog 13 #[.agg (hv x), .int .i64 0, .int .i64 2, .slice none 0 0, .agg (hv x)] W fun e w' => e = .returned (.int .i64 110) ∧ Below W.heap.size W w') := fun W h1 => by
    have := check_any (P := []) (r := x) 0 2 (by omega) hx hx h1 (nil_at W) (Nat.le_refl _) (by simp)
    have e : ckE x 0 2 [] x = 110 := by
      rw [ckE, if_pos (by omega), if_neg]
      intro h
      exact nomatch ((ld_none x).symm.trans h)
    rwa [e] at this
  have HC4 : Hid (∀ W, TabL W → Calls Tryd.prog 13 #[.agg (hv x), .int .i64 1, .int .i64 1, .slice none 0 0, .agg (hv x)] W fun e w' => e = .returned (.int .i64 2) ∧ Below W.heap.size W w') := fun W h1 => check_no 1 1 (by omega)
  have HMk : Hid (∀ W : World, HsAt (W.alloc (.cells (hv y ++ hv z) 23)) (.slice (some ⟨W.heap.size, 0, none⟩) 2 2) [y, z]) := fun W => two_hs W hy hz
  have HMd : Hid (∀ W : World, HsAt (W.alloc (.cells (hv (nodeL x y)) 23)) (.slice (some ⟨W.heap.size, 0, none⟩) 1 1) [nodeL x y]) := fun W => HsAt.made W _ hn
  have hbld := build_hash (hv (nodeL x y)) hns
  rw [zero_h32] at hbld
  clear b5 HMp HMq HA2 HB2 HP0 HP2 HP3 hx hy hz hn hr hpc HTab hlcn
  generalize hv x = X at *
  generalize hv y = Y at *
  generalize hv z = Z at *
  generalize hv (nodeL x y) = AB at *
  generalize hv (rootH [x, y, z]) = RR at *
  go_upto_region 5 with fail
  refine wp_region_held (S := Below w5.heap.size w5) (by kernel_rfl) ?_
  change wpAnyH _ _ _ _ _ _ _ _ (World.drew _)
  simp only [List.append_eq, List.cons_append, List.nil_append]
  have HX : Below w5.heap.size w5 w5.drew := HX5.out.drew
  clear HX5
  generalize World.drew _ = y0 at *
  refine wpAnyH_take (i := 0) (v := .int .i64 0) rfl (by kernel_rfl) (by kernel_rfl) (by kernel_rfl) (fun _ _ _ h => h) (Or.inl ⟨by rfl, by intro w9 _; go_simp⟩) HX ?_
  simp only [List.getElem_toArray, List.getElem_cons_succ, List.getElem_cons_zero, Act.put, List.setIfInBounds_toArray, List.set_cons_zero, List.set_cons_succ]
  refine wpAnyH_take (i := 1) (v := .bool true) rfl (by kernel_rfl) (by kernel_rfl) (by kernel_rfl) (fun _ _ _ h => h) (Or.inl ⟨by rfl, by intro w9 _; go_simp⟩) HX ?_
  simp only [List.getElem_toArray, List.getElem_cons_succ, List.getElem_cons_zero, Act.put, List.setIfInBounds_toArray, List.set_cons_zero, List.set_cons_succ]
  refine wpAnyH_take (i := 2) (v := .bool true) rfl (by kernel_rfl) (by kernel_rfl) (by kernel_rfl) (fun _ _ _ h => h) (Or.inl ⟨by rfl, by intro w9 _; go_simp⟩) HX ?_
  simp only [List.getElem_toArray, List.getElem_cons_succ, List.getElem_cons_zero, Act.put, List.setIfInBounds_toArray, List.set_cons_zero, List.set_cons_succ]
  refine wpAnyH_take (i := 3) (v := .slice pa 2 pc) rfl (by kernel_rfl) (by kernel_rfl) (by kernel_rfl) (fun _ _ _ h => h) (Or.inl ⟨by rfl, by intro w9 _; go_simp⟩) HX ?_
  simp only [List.getElem_toArray, List.getElem_cons_succ, List.getElem_cons_zero, Act.put, List.setIfInBounds_toArray, List.set_cons_zero, List.set_cons_succ]
  refine wpAnyH_take (i := 4) (v := .slice (some ⟨lb, lo, none⟩) 3 lc) rfl (by kernel_rfl) (by kernel_rfl) (by kernel_rfl) (fun _ _ _ h => h) (Or.inl ⟨by rfl, by intro w9 _; go_simp⟩) HX ?_
  simp only [List.getElem_toArray, List.getElem_cons_succ, List.getElem_cons_zero, Act.put, List.setIfInBounds_toArray, List.set_cons_zero, List.set_cons_succ]
  refine wpAnyH_take (i := 5) (v := .pointer (some ⟨lb, lo + 32, none⟩)) rfl (by kernel_rfl) (by kernel_rfl) (by kernel_rfl) (fun _ _ _ h => h) (Or.inl ⟨by rfl, by intro w9 _; go_simp⟩) HX ?_
  simp only [List.getElem_toArray, List.getElem_cons_succ, List.getElem_cons_zero, Act.put, List.setIfInBounds_toArray, List.set_cons_zero, List.set_cons_succ]
  refine wpAnyH_take (i := 6) (v := .agg Y) rfl (by kernel_rfl) (by kernel_rfl) (by kernel_rfl) (fun _ _ _ h => h) (yieldsIf_load_mid (by rfl) 23 _ rfl lb (lo + 32) rfl Y.toList _ (fun w' h => G1.out w' h) Tryd.underlying23 rfl icy.out) HX ?_
  simp only [List.getElem_toArray, List.getElem_cons_succ, List.getElem_cons_zero, Act.put, List.setIfInBounds_toArray, List.set_cons_zero, List.set_cons_succ]
  refine wpAnyH_take (i := 7) (v := .slice (some ⟨lb, lo, none⟩) 3 lc) rfl (by kernel_rfl) (by kernel_rfl) (by kernel_rfl) (fun _ _ _ h => h) (Or.inl ⟨by rfl, by intro w9 _; go_simp⟩) HX ?_
  simp only [List.getElem_toArray, List.getElem_cons_succ, List.getElem_cons_zero, Act.put, List.setIfInBounds_toArray, List.set_cons_zero, List.set_cons_succ]
  refine wpAnyH_take (i := 8) (v := .pointer (some ⟨lb, lo + 64, none⟩)) rfl (by kernel_rfl) (by kernel_rfl) (by kernel_rfl) (fun _ _ _ h => h) (Or.inl ⟨by rfl, by intro w9 _; go_simp⟩) HX ?_
  simp only [List.getElem_toArray, List.getElem_cons_succ, List.getElem_cons_zero, Act.put, List.setIfInBounds_toArray, List.set_cons_zero, List.set_cons_succ]
  refine wpAnyH_take (i := 9) (v := .agg Z) rfl (by kernel_rfl) (by kernel_rfl) (by kernel_rfl) (fun _ _ _ h => h) (yieldsIf_load_mid (by rfl) 23 _ rfl lb (lo + 64) rfl Z.toList _ (fun w' h => G2.out w' h) Tryd.underlying23 rfl icz.out) HX ?_
  simp only [List.getElem_toArray, List.getElem_cons_succ, List.getElem_cons_zero, Act.put, List.setIfInBounds_toArray, List.set_cons_zero, List.set_cons_succ]
  refine wpAnyH_ready (rs := [10]) (by kernel_rfl) (by simp) (AllReadyH.cons (by simp only [List.getElem?_toArray, List.getElem?_cons_succ, List.getElem?_cons_zero]; rfl) (fun K hK => ?_) AllReadyH.nil)
  refine step_want (by rfl) ?_
  refine wp_build_two _ _ rfl Y Z rfl rfl hys hzs ?_
  have hN := HMk.out y0
  obtain ⟨y1, hw⟩ : ∃ y1, y0.alloc (.cells (Y ++ Z) 23) = y1 := ⟨_, rfl⟩
  have bc : Below y0.heap.size y0 y1 := by rw [← hw]; exact (Below.refl _ _).alloc (Nat.le_refl _) _
  obtain ⟨e1, he0⟩ : ∃ e1, y0.heap.size = e1 := ⟨_, rfl⟩
  rw [hw, he0] at hN
  rw [hw, he0]
  have HX : Below w5.heap.size w5 y1 := HX.trans (bc.mono HX.size)
  clear bc hw he0
  refine hK.out _ _ HX (fun _ => ?_)
  clear hK K
  try simp only [List.getElem_toArray, List.getElem_cons_succ, List.getElem_cons_zero, Act.put, List.setIfInBounds_toArray, List.set_cons_zero, List.set_cons_succ]
  refine wpAnyH_ready (rs := [11]) (by kernel_rfl) (by simp) (AllReadyH.cons (by simp only [List.getElem?_toArray, List.getElem?_cons_succ, List.getElem?_cons_zero]; rfl) (fun K hK => ?_) AllReadyH.nil)
  refine step_want (by rfl) ?_
  go_simp
  refine (HSm2.out _ _ _ (H5.out _ HX).2.1 hN).mono ?_
  rintro e y2 ⟨rfl, bc⟩
  clear hN
  have HX : Below w5.heap.size w5 y2 := HX.trans (bc.mono HX.size)
  clear bc
  refine hK.out _ _ HX (fun _ => ?_)
  clear hK K
  try simp only [List.getElem_toArray, List.getElem_cons_succ, List.getElem_cons_zero, Act.put, List.setIfInBounds_toArray, List.set_cons_zero, List.set_cons_succ]
  refine wpAnyH_take (i := 12) (v := .bool true) rfl (by kernel_rfl) (by kernel_rfl) (by kernel_rfl) (fun _ _ _ h => h) (Or.inl ⟨by rfl, by intro w9 _; go_simp⟩) HX ?_
  simp only [List.getElem_toArray, List.getElem_cons_succ, List.getElem_cons_zero, Act.put, List.setIfInBounds_toArray, List.set_cons_zero, List.set_cons_succ]
  refine wpAnyH_take (i := 13) (v := .bool true) rfl (by kernel_rfl) (by kernel_rfl) (by kernel_rfl) (fun _ _ _ h => h) (Or.inl ⟨by rfl, by intro w9 _; go_simp⟩) HX ?_
  simp only [List.getElem_toArray, List.getElem_cons_succ, List.getElem_cons_zero, Act.put, List.setIfInBounds_toArray, List.set_cons_zero, List.set_cons_succ]
  refine wpAnyH_take (i := 14) (v := .int .i64 0) rfl (by kernel_rfl) (by kernel_rfl) (by kernel_rfl) (fun _ _ _ h => h) (Or.inl ⟨by rfl, by intro w9 _; go_simp⟩) HX ?_
  simp only [List.getElem_toArray, List.getElem_cons_succ, List.getElem_cons_zero, Act.put, List.setIfInBounds_toArray, List.set_cons_zero, List.set_cons_succ]
  refine wpAnyH_take (i := 15) (v := .bool true) rfl (by kernel_rfl) (by kernel_rfl) (by kernel_rfl) (fun _ _ _ h => h) (Or.inl ⟨by rfl, by intro w9 _; go_simp⟩) HX ?_
  simp only [List.getElem_toArray, List.getElem_cons_succ, List.getElem_cons_zero, Act.put, List.setIfInBounds_toArray, List.set_cons_zero, List.set_cons_succ]
  refine wpAnyH_take (i := 16) (v := .bool true) rfl (by kernel_rfl) (by kernel_rfl) (by kernel_rfl) (fun _ _ _ h => h) (Or.inl ⟨by rfl, by intro w9 _; go_simp⟩) HX ?_
  simp only [List.getElem_toArray, List.getElem_cons_succ, List.getElem_cons_zero, Act.put, List.setIfInBounds_toArray, List.set_cons_zero, List.set_cons_succ]
  refine wpAnyH_take (i := 17) (v := .bool true) rfl (by kernel_rfl) (by kernel_rfl) (by kernel_rfl) (fun _ _ _ h => h) (Or.inl ⟨by rfl, by intro w9 _; go_simp⟩) HX ?_
  simp only [List.getElem_toArray, List.getElem_cons_succ, List.getElem_cons_zero, Act.put, List.setIfInBounds_toArray, List.set_cons_zero, List.set_cons_succ]
  refine wpAnyH_take (i := 18) (v := .slice qa 1 qc) rfl (by kernel_rfl) (by kernel_rfl) (by kernel_rfl) (fun _ _ _ h => h) (Or.inl ⟨by rfl, by intro w9 _; go_simp⟩) HX ?_
  simp only [List.getElem_toArray, List.getElem_cons_succ, List.getElem_cons_zero, Act.put, List.setIfInBounds_toArray, List.set_cons_zero, List.set_cons_succ]
  refine wpAnyH_take (i := 19) (v := .slice (some ⟨lb, lo, none⟩) 3 lc) rfl (by kernel_rfl) (by kernel_rfl) (by kernel_rfl) (fun _ _ _ h => h) (Or.inl ⟨by rfl, by intro w9 _; go_simp⟩) HX ?_
  simp only [List.getElem_toArray, List.getElem_cons_succ, List.getElem_cons_zero, Act.put, List.setIfInBounds_toArray, List.set_cons_zero, List.set_cons_succ]
  refine wpAnyH_take (i := 20) (v := .pointer (some ⟨lb, lo, none⟩)) rfl (by kernel_rfl) (by kernel_rfl) (by kernel_rfl) (fun _ _ _ h => h) (Or.inl ⟨by rfl, by intro w9 _; go_simp⟩) HX ?_
  simp only [List.getElem_toArray, List.getElem_cons_succ, List.getElem_cons_zero, Act.put, List.setIfInBounds_toArray, List.set_cons_zero, List.set_cons_succ]
  refine wpAnyH_take (i := 21) (v := .agg X) rfl (by kernel_rfl) (by kernel_rfl) (by kernel_rfl) (fun _ _ _ h => h) (yieldsIf_load_mid (by rfl) 23 _ rfl lb (lo) rfl X.toList _ (fun w' h => G0.out w' h) Tryd.underlying23 rfl icx.out) HX ?_
  simp only [List.getElem_toArray, List.getElem_cons_succ, List.getElem_cons_zero, Act.put, List.setIfInBounds_toArray, List.set_cons_zero, List.set_cons_succ]
  refine wpAnyH_take (i := 22) (v := .slice (some ⟨lb, lo, none⟩) 3 lc) rfl (by kernel_rfl) (by kernel_rfl) (by kernel_rfl) (fun _ _ _ h => h) (Or.inl ⟨by rfl, by intro w9 _; go_simp⟩) HX ?_
  simp only [List.getElem_toArray, List.getElem_cons_succ, List.getElem_cons_zero, Act.put, List.setIfInBounds_toArray, List.set_cons_zero, List.set_cons_succ]
  refine wpAnyH_take (i := 23) (v := .pointer (some ⟨lb, lo + 32, none⟩)) rfl (by kernel_rfl) (by kernel_rfl) (by kernel_rfl) (fun _ _ _ h => h) (Or.inl ⟨by rfl, by intro w9 _; go_simp⟩) HX ?_
  simp only [List.getElem_toArray, List.getElem_cons_succ, List.getElem_cons_zero, Act.put, List.setIfInBounds_toArray, List.set_cons_zero, List.set_cons_succ]
  refine wpAnyH_take (i := 24) (v := .agg Y) rfl (by kernel_rfl) (by kernel_rfl) (by kernel_rfl) (fun _ _ _ h => h) (yieldsIf_load_mid (by rfl) 23 _ rfl lb (lo + 32) rfl Y.toList _ (fun w' h => G1.out w' h) Tryd.underlying23 rfl icy.out) HX ?_
  simp only [List.getElem_toArray, List.getElem_cons_succ, List.getElem_cons_zero, Act.put, List.setIfInBounds_toArray, List.set_cons_zero, List.set_cons_succ]
  refine wpAnyH_ready (rs := [25]) (by kernel_rfl) (by simp) (AllReadyH.cons (by simp only [List.getElem?_toArray, List.getElem?_cons_succ, List.getElem?_cons_zero]; rfl) (fun K hK => ?_) AllReadyH.nil)
  refine step_want (by rfl) ?_
  go_simp
  refine (HNd.out _ (H5.out _ HX).2.2.2.1).mono ?_
  rintro e y3 ⟨rfl, bc⟩
  have HX : Below w5.heap.size w5 y3 := HX.trans (bc.mono HX.size)
  clear bc
  refine hK.out _ _ HX (fun _ => ?_)
  clear hK K
  try simp only [List.getElem_toArray, List.getElem_cons_succ, List.getElem_cons_zero, Act.put, List.setIfInBounds_toArray, List.set_cons_zero, List.set_cons_succ]
  refine wpAnyH_ready (rs := [26]) (by kernel_rfl) (by simp) (AllReadyH.cons (by simp only [List.getElem?_toArray, List.getElem?_cons_succ, List.getElem?_cons_zero]; rfl) (fun K hK => ?_) AllReadyH.nil)
  refine step_want (by rfl) ?_
  go_simp
  have hN := HMd.out y3
  obtain ⟨y4, hw⟩ : ∃ y4, y3.alloc (.cells AB 23) = y4 := ⟨_, rfl⟩
  have bc : Below y3.heap.size y3 y4 := by rw [← hw]; exact (Below.refl _ _).alloc (Nat.le_refl _) _
  obtain ⟨e4, he0⟩ : ∃ e4, y3.heap.size = e4 := ⟨_, rfl⟩
  rw [hw, he0] at hN
  rw [hw, he0]
  have HX : Below w5.heap.size w5 y4 := HX.trans (bc.mono HX.size)
  clear bc hw he0
  refine hK.out _ _ HX (fun _ => ?_)
  clear hK K
  try simp only [List.getElem_toArray, List.getElem_cons_succ, List.getElem_cons_zero, Act.put, List.setIfInBounds_toArray, List.set_cons_zero, List.set_cons_succ]
  refine wpAnyH_ready (rs := [27]) (by kernel_rfl) (by simp) (AllReadyH.cons (by simp only [List.getElem?_toArray, List.getElem?_cons_succ, List.getElem?_cons_zero]; rfl) (fun K hK => ?_) AllReadyH.nil)
  refine step_want (by rfl) ?_
  go_simp
  refine (HSm1.out _ _ _ (H5.out _ HX).2.2.1 hN).mono ?_
  rintro e y5 ⟨rfl, bc⟩
  clear hN
  have HX : Below w5.heap.size w5 y5 := HX.trans (bc.mono HX.size)
  clear bc
  refine hK.out _ _ HX (fun _ => ?_)
  clear hK K
  try simp only [List.getElem_toArray, List.getElem_cons_succ, List.getElem_cons_zero, Act.put, List.setIfInBounds_toArray, List.set_cons_zero, List.set_cons_succ]
  refine wpAnyH_take (i := 28) (v := .bool true) rfl (by kernel_rfl) (by kernel_rfl) (by kernel_rfl) (fun _ _ _ h => h) (Or.inl ⟨by rfl, by intro w9 _; go_simp⟩) HX ?_
  simp only [List.getElem_toArray, List.getElem_cons_succ, List.getElem_cons_zero, Act.put, List.setIfInBounds_toArray, List.set_cons_zero, List.set_cons_succ]
  refine wpAnyH_take (i := 29) (v := .bool true) rfl (by kernel_rfl) (by kernel_rfl) (by kernel_rfl) (fun _ _ _ h => h) (Or.inl ⟨by rfl, by intro w9 _; go_simp⟩) HX ?_
  simp only [List.getElem_toArray, List.getElem_cons_succ, List.getElem_cons_zero, Act.put, List.setIfInBounds_toArray, List.set_cons_zero, List.set_cons_succ]
  refine wpAnyH_take (i := 30) (v := .int .i64 2) rfl (by kernel_rfl) (by kernel_rfl) (by kernel_rfl) (fun _ _ _ h => h) (Or.inl ⟨by rfl, by intro w9 _; go_simp⟩) HX ?_
  simp only [List.getElem_toArray, List.getElem_cons_succ, List.getElem_cons_zero, Act.put, List.setIfInBounds_toArray, List.set_cons_zero, List.set_cons_succ]
  refine wpAnyH_take (i := 31) (v := .bool true) rfl (by kernel_rfl) (by kernel_rfl) (by kernel_rfl) (fun _ _ _ h => h) (Or.inl ⟨by rfl, by intro w9 _; go_simp⟩) HX ?_
  simp only [List.getElem_toArray, List.getElem_cons_succ, List.getElem_cons_zero, Act.put, List.setIfInBounds_toArray, List.set_cons_zero, List.set_cons_succ]
  refine wpAnyH_take (i := 32) (v := .bool true) rfl (by kernel_rfl) (by kernel_rfl) (by kernel_rfl) (fun _ _ _ h => h) (Or.inl ⟨by rfl, by intro w9 _; go_simp⟩) HX ?_
  simp only [List.getElem_toArray, List.getElem_cons_succ, List.getElem_cons_zero, Act.put, List.setIfInBounds_toArray, List.set_cons_zero, List.set_cons_succ]
  refine wpAnyH_take (i := 33) (v := .bool true) rfl (by kernel_rfl) (by kernel_rfl) (by kernel_rfl) (fun _ _ _ h => h) (Or.inl ⟨by rfl, by intro w9 _; go_simp⟩) HX ?_
  simp only [List.getElem_toArray, List.getElem_cons_succ, List.getElem_cons_zero, Act.put, List.setIfInBounds_toArray, List.set_cons_zero, List.set_cons_succ]
  refine wpAnyH_take (i := 34) (v := .slice (some ⟨lb, lo, none⟩) 3 lc) rfl (by kernel_rfl) (by kernel_rfl) (by kernel_rfl) (fun _ _ _ h => h) (Or.inl ⟨by rfl, by intro w9 _; go_simp⟩) HX ?_
  simp only [List.getElem_toArray, List.getElem_cons_succ, List.getElem_cons_zero, Act.put, List.setIfInBounds_toArray, List.set_cons_zero, List.set_cons_succ]
  refine wpAnyH_take (i := 35) (v := .pointer (some ⟨lb, lo, none⟩)) rfl (by kernel_rfl) (by kernel_rfl) (by kernel_rfl) (fun _ _ _ h => h) (Or.inl ⟨by rfl, by intro w9 _; go_simp⟩) HX ?_
  simp only [List.getElem_toArray, List.getElem_cons_succ, List.getElem_cons_zero, Act.put, List.setIfInBounds_toArray, List.set_cons_zero, List.set_cons_succ]
  refine wpAnyH_take (i := 36) (v := .agg X) rfl (by kernel_rfl) (by kernel_rfl) (by kernel_rfl) (fun _ _ _ h => h) (yieldsIf_load_mid (by rfl) 23 _ rfl lb (lo) rfl X.toList _ (fun w' h => G0.out w' h) Tryd.underlying23 rfl icx.out) HX ?_
  simp only [List.getElem_toArray, List.getElem_cons_succ, List.getElem_cons_zero, Act.put, List.setIfInBounds_toArray, List.set_cons_zero, List.set_cons_succ]
  refine wpAnyH_take (i := 37) (v := .slice pa 2 pc) rfl (by kernel_rfl) (by kernel_rfl) (by kernel_rfl) (fun _ _ _ h => h) (Or.inl ⟨by rfl, by intro w9 _; go_simp⟩) HX ?_
  simp only [List.getElem_toArray, List.getElem_cons_succ, List.getElem_cons_zero, Act.put, List.setIfInBounds_toArray, List.set_cons_zero, List.set_cons_succ]
  refine wpAnyH_take (i := 38) (v := .slice (some ⟨lb, lo, none⟩) 3 lc) rfl (by kernel_rfl) (by kernel_rfl) (by kernel_rfl) (fun _ _ _ h => h) (Or.inl ⟨by rfl, by intro w9 _; go_simp⟩) HX ?_
  simp only [List.getElem_toArray, List.getElem_cons_succ, List.getElem_cons_zero, Act.put, List.setIfInBounds_toArray, List.set_cons_zero, List.set_cons_succ]
  refine wpAnyH_ready (rs := [39]) (by kernel_rfl) (by simp) (AllReadyH.cons (by simp only [List.getElem?_toArray, List.getElem?_cons_succ, List.getElem?_cons_zero]; rfl) (fun K hK => ?_) AllReadyH.nil)
  refine step_want (by rfl) ?_
  go_simp
  refine (HRt.out _ (H5.out _ HX).2.2.2.1 (H5.out _ HX).1).mono ?_
  rintro e y6 ⟨rfl, bc⟩
  have HX : Below w5.heap.size w5 y6 := HX.trans (bc.mono HX.size)
  clear bc
  refine hK.out _ _ HX (fun _ => ?_)
  clear hK K
  try simp only [List.getElem_toArray, List.getElem_cons_succ, List.getElem_cons_zero, Act.put, List.setIfInBounds_toArray, List.set_cons_zero, List.set_cons_succ]
  refine wpAnyH_ready (rs := [40]) (by kernel_rfl) (by simp) (AllReadyH.cons (by simp only [List.getElem?_toArray, List.getElem?_cons_succ, List.getElem?_cons_zero]; rfl) (fun K hK => ?_) AllReadyH.nil)
  refine step_want (by rfl) ?_
  go_simp
  refine (HC1.out _ (H5.out _ HX).2.2.2.1 (H5.out _ HX).2.1).mono ?_
  rintro e y7 ⟨rfl, bc⟩
  have HX : Below w5.heap.size w5 y7 := HX.trans (bc.mono HX.size)
  clear bc
  refine hK.out _ _ HX (fun _ => ?_)
  clear hK K
  try simp only [List.getElem_toArray, List.getElem_cons_succ, List.getElem_cons_zero, Act.put, List.setIfInBounds_toArray, List.set_cons_zero, List.set_cons_succ]
  refine wpAnyH_take (i := 41) (v := .bool true) rfl (by kernel_rfl) (by kernel_rfl) (by kernel_rfl) (fun _ _ _ h => h) (Or.inl ⟨by rfl, by intro w9 _; go_simp⟩) HX ?_
  simp only [List.getElem_toArray, List.getElem_cons_succ, List.getElem_cons_zero, Act.put, List.setIfInBounds_toArray, List.set_cons_zero, List.set_cons_succ]
  refine wpAnyH_take (i := 42) (v := .bool true) rfl (by kernel_rfl) (by kernel_rfl) (by kernel_rfl) (fun _ _ _ h => h) (Or.inl ⟨by rfl, by intro w9 _; go_simp⟩) HX ?_
  simp only [List.getElem_toArray, List.getElem_cons_succ, List.getElem_cons_zero, Act.put, List.setIfInBounds_toArray, List.set_cons_zero, List.set_cons_succ]
  refine wpAnyH_take (i := 43) (v := .bool true) rfl (by kernel_rfl) (by kernel_rfl) (by kernel_rfl) (fun _ _ _ h => h) (Or.inl ⟨by rfl, by intro w9 _; go_simp⟩) HX ?_
  simp only [List.getElem_toArray, List.getElem_cons_succ, List.getElem_cons_zero, Act.put, List.setIfInBounds_toArray, List.set_cons_zero, List.set_cons_succ]
  refine wpAnyH_take (i := 44) (v := .slice (some ⟨lb, lo, none⟩) 3 lc) rfl (by kernel_rfl) (by kernel_rfl) (by kernel_rfl) (fun _ _ _ h => h) (Or.inl ⟨by rfl, by intro w9 _; go_simp⟩) HX ?_
  simp only [List.getElem_toArray, List.getElem_cons_succ, List.getElem_cons_zero, Act.put, List.setIfInBounds_toArray, List.set_cons_zero, List.set_cons_succ]
  refine wpAnyH_take (i := 45) (v := .pointer (some ⟨lb, lo, none⟩)) rfl (by kernel_rfl) (by kernel_rfl) (by kernel_rfl) (fun _ _ _ h => h) (Or.inl ⟨by rfl, by intro w9 _; go_simp⟩) HX ?_
  simp only [List.getElem_toArray, List.getElem_cons_succ, List.getElem_cons_zero, Act.put, List.setIfInBounds_toArray, List.set_cons_zero, List.set_cons_succ]
  refine wpAnyH_take (i := 46) (v := .agg X) rfl (by kernel_rfl) (by kernel_rfl) (by kernel_rfl) (fun _ _ _ h => h) (yieldsIf_load_mid (by rfl) 23 _ rfl lb (lo) rfl X.toList _ (fun w' h => G0.out w' h) Tryd.underlying23 rfl icx.out) HX ?_
  simp only [List.getElem_toArray, List.getElem_cons_succ, List.getElem_cons_zero, Act.put, List.setIfInBounds_toArray, List.set_cons_zero, List.set_cons_succ]
  refine wpAnyH_take (i := 47) (v := .slice (some ⟨lb, lo, none⟩) 3 lc) rfl (by kernel_rfl) (by kernel_rfl) (by kernel_rfl) (fun _ _ _ h => h) (Or.inl ⟨by rfl, by intro w9 _; go_simp⟩) HX ?_
  simp only [List.getElem_toArray, List.getElem_cons_succ, List.getElem_cons_zero, Act.put, List.setIfInBounds_toArray, List.set_cons_zero, List.set_cons_succ]
  refine wpAnyH_take (i := 48) (v := .pointer (some ⟨lb, lo, none⟩)) rfl (by kernel_rfl) (by kernel_rfl) (by kernel_rfl) (fun _ _ _ h => h) (Or.inl ⟨by rfl, by intro w9 _; go_simp⟩) HX ?_
  simp only [List.getElem_toArray, List.getElem_cons_succ, List.getElem_cons_zero, Act.put, List.setIfInBounds_toArray, List.set_cons_zero, List.set_cons_succ]
  refine wpAnyH_take (i := 49) (v := .agg X) rfl (by kernel_rfl) (by kernel_rfl) (by kernel_rfl) (fun _ _ _ h => h) (yieldsIf_load_mid (by rfl) 23 _ rfl lb (lo) rfl X.toList _ (fun w' h => G0.out w' h) Tryd.underlying23 rfl icx.out) HX ?_
  simp only [List.getElem_toArray, List.getElem_cons_succ, List.getElem_cons_zero, Act.put, List.setIfInBounds_toArray, List.set_cons_zero, List.set_cons_succ]
  refine wpAnyH_ready (rs := [50]) (by kernel_rfl) (by simp) (AllReadyH.cons (by simp only [List.getElem?_toArray, List.getElem?_cons_succ, List.getElem?_cons_zero]; rfl) (fun K hK => ?_) AllReadyH.nil)
  refine step_want (by rfl) ?_
  go_simp
  refine (HC2.out _ (H5.out _ HX).2.2.2.1).mono ?_
  rintro e y8 ⟨rfl, bc⟩
  have HX : Below w5.heap.size w5 y8 := HX.trans (bc.mono HX.size)
  clear bc
  refine hK.out _ _ HX (fun _ => ?_)
  clear hK K
  try simp only [List.getElem_toArray, List.getElem_cons_succ, List.getElem_cons_zero, Act.put, List.setIfInBounds_toArray, List.set_cons_zero, List.set_cons_succ]
  refine wpAnyH_take (i := 51) (v := .bool true) rfl (by kernel_rfl) (by kernel_rfl) (by kernel_rfl) (fun _ _ _ h => h) (Or.inl ⟨by rfl, by intro w9 _; go_simp⟩) HX ?_
  simp only [List.getElem_toArray, List.getElem_cons_succ, List.getElem_cons_zero, Act.put, List.setIfInBounds_toArray, List.set_cons_zero, List.set_cons_succ]
  refine wpAnyH_take (i := 52) (v := .bool true) rfl (by kernel_rfl) (by kernel_rfl) (by kernel_rfl) (fun _ _ _ h => h) (Or.inl ⟨by rfl, by intro w9 _; go_simp⟩) HX ?_
  simp only [List.getElem_toArray, List.getElem_cons_succ, List.getElem_cons_zero, Act.put, List.setIfInBounds_toArray, List.set_cons_zero, List.set_cons_succ]
  refine wpAnyH_take (i := 53) (v := .bool true) rfl (by kernel_rfl) (by kernel_rfl) (by kernel_rfl) (fun _ _ _ h => h) (Or.inl ⟨by rfl, by intro w9 _; go_simp⟩) HX ?_
  simp only [List.getElem_toArray, List.getElem_cons_succ, List.getElem_cons_zero, Act.put, List.setIfInBounds_toArray, List.set_cons_zero, List.set_cons_succ]
  refine wpAnyH_take (i := 54) (v := .slice (some ⟨lb, lo, none⟩) 3 lc) rfl (by kernel_rfl) (by kernel_rfl) (by kernel_rfl) (fun _ _ _ h => h) (Or.inl ⟨by rfl, by intro w9 _; go_simp⟩) HX ?_
  simp only [List.getElem_toArray, List.getElem_cons_succ, List.getElem_cons_zero, Act.put, List.setIfInBounds_toArray, List.set_cons_zero, List.set_cons_succ]
  refine wpAnyH_take (i := 55) (v := .pointer (some ⟨lb, lo, none⟩)) rfl (by kernel_rfl) (by kernel_rfl) (by kernel_rfl) (fun _ _ _ h => h) (Or.inl ⟨by rfl, by intro w9 _; go_simp⟩) HX ?_
  simp only [List.getElem_toArray, List.getElem_cons_succ, List.getElem_cons_zero, Act.put, List.setIfInBounds_toArray, List.set_cons_zero, List.set_cons_succ]
  refine wpAnyH_take (i := 56) (v := .agg X) rfl (by kernel_rfl) (by kernel_rfl) (by kernel_rfl) (fun _ _ _ h => h) (yieldsIf_load_mid (by rfl) 23 _ rfl lb (lo) rfl X.toList _ (fun w' h => G0.out w' h) Tryd.underlying23 rfl icx.out) HX ?_
  simp only [List.getElem_toArray, List.getElem_cons_succ, List.getElem_cons_zero, Act.put, List.setIfInBounds_toArray, List.set_cons_zero, List.set_cons_succ]
  refine wpAnyH_take (i := 57) (v := .slice (some ⟨lb, lo, none⟩) 3 lc) rfl (by kernel_rfl) (by kernel_rfl) (by kernel_rfl) (fun _ _ _ h => h) (Or.inl ⟨by rfl, by intro w9 _; go_simp⟩) HX ?_
  simp only [List.getElem_toArray, List.getElem_cons_succ, List.getElem_cons_zero, Act.put, List.setIfInBounds_toArray, List.set_cons_zero, List.set_cons_succ]
  refine wpAnyH_take (i := 58) (v := .pointer (some ⟨lb, lo, none⟩)) rfl (by kernel_rfl) (by kernel_rfl) (by kernel_rfl) (fun _ _ _ h => h) (Or.inl ⟨by rfl, by intro w9 _; go_simp⟩) HX ?_
  simp only [List.getElem_toArray, List.getElem_cons_succ, List.getElem_cons_zero, Act.put, List.setIfInBounds_toArray, List.set_cons_zero, List.set_cons_succ]
  refine wpAnyH_take (i := 59) (v := .agg X) rfl (by kernel_rfl) (by kernel_rfl) (by kernel_rfl) (fun _ _ _ h => h) (yieldsIf_load_mid (by rfl) 23 _ rfl lb (lo) rfl X.toList _ (fun w' h => G0.out w' h) Tryd.underlying23 rfl icx.out) HX ?_
  simp only [List.getElem_toArray, List.getElem_cons_succ, List.getElem_cons_zero, Act.put, List.setIfInBounds_toArray, List.set_cons_zero, List.set_cons_succ]
  refine wpAnyH_ready (rs := [60]) (by kernel_rfl) (by simp) (AllReadyH.cons (by simp only [List.getElem?_toArray, List.getElem?_cons_succ, List.getElem?_cons_zero]; rfl) (fun K hK => ?_) AllReadyH.nil)
  refine step_want (by rfl) ?_
  go_simp
  refine (HC3.out _ (H5.out _ HX).2.2.2.1).mono ?_
  rintro e y9 ⟨rfl, bc⟩
  have HX : Below w5.heap.size w5 y9 := HX.trans (bc.mono HX.size)
  clear bc
  refine hK.out _ _ HX (fun _ => ?_)
  clear hK K
  try simp only [List.getElem_toArray, List.getElem_cons_succ, List.getElem_cons_zero, Act.put, List.setIfInBounds_toArray, List.set_cons_zero, List.set_cons_succ]
  refine wpAnyH_take (i := 61) (v := .bool true) rfl (by kernel_rfl) (by kernel_rfl) (by kernel_rfl) (fun _ _ _ h => h) (Or.inl ⟨by rfl, by intro w9 _; go_simp⟩) HX ?_
  simp only [List.getElem_toArray, List.getElem_cons_succ, List.getElem_cons_zero, Act.put, List.setIfInBounds_toArray, List.set_cons_zero, List.set_cons_succ]
  refine wpAnyH_take (i := 62) (v := .bool true) rfl (by kernel_rfl) (by kernel_rfl) (by kernel_rfl) (fun _ _ _ h => h) (Or.inl ⟨by rfl, by intro w9 _; go_simp⟩) HX ?_
  simp only [List.getElem_toArray, List.getElem_cons_succ, List.getElem_cons_zero, Act.put, List.setIfInBounds_toArray, List.set_cons_zero, List.set_cons_succ]
  refine wpAnyH_take (i := 63) (v := .bool true) rfl (by kernel_rfl) (by kernel_rfl) (by kernel_rfl) (fun _ _ _ h => h) (Or.inl ⟨by rfl, by intro w9 _; go_simp⟩) HX ?_
  simp only [List.getElem_toArray, List.getElem_cons_succ, List.getElem_cons_zero, Act.put, List.setIfInBounds_toArray, List.set_cons_zero, List.set_cons_succ]
  refine wpAnyH_take (i := 64) (v := .slice (some ⟨lb, lo, none⟩) 3 lc) rfl (by kernel_rfl) (by kernel_rfl) (by kernel_rfl) (fun _ _ _ h => h) (Or.inl ⟨by rfl, by intro w9 _; go_simp⟩) HX ?_
  simp only [List.getElem_toArray, List.getElem_cons_succ, List.getElem_cons_zero, Act.put, List.setIfInBounds_toArray, List.set_cons_zero, List.set_cons_succ]
  refine wpAnyH_take (i := 65) (v := .pointer (some ⟨lb, lo, none⟩)) rfl (by kernel_rfl) (by kernel_rfl) (by kernel_rfl) (fun _ _ _ h => h) (Or.inl ⟨by rfl, by intro w9 _; go_simp⟩) HX ?_
  simp only [List.getElem_toArray, List.getElem_cons_succ, List.getElem_cons_zero, Act.put, List.setIfInBounds_toArray, List.set_cons_zero, List.set_cons_succ]
  refine wpAnyH_take (i := 66) (v := .agg X) rfl (by kernel_rfl) (by kernel_rfl) (by kernel_rfl) (fun _ _ _ h => h) (yieldsIf_load_mid (by rfl) 23 _ rfl lb (lo) rfl X.toList _ (fun w' h => G0.out w' h) Tryd.underlying23 rfl icx.out) HX ?_
  simp only [List.getElem_toArray, List.getElem_cons_succ, List.getElem_cons_zero, Act.put, List.setIfInBounds_toArray, List.set_cons_zero, List.set_cons_succ]
  refine wpAnyH_take (i := 67) (v := .slice (some ⟨lb, lo, none⟩) 3 lc) rfl (by kernel_rfl) (by kernel_rfl) (by kernel_rfl) (fun _ _ _ h => h) (Or.inl ⟨by rfl, by intro w9 _; go_simp⟩) HX ?_
  simp only [List.getElem_toArray, List.getElem_cons_succ, List.getElem_cons_zero, Act.put, List.setIfInBounds_toArray, List.set_cons_zero, List.set_cons_succ]
  refine wpAnyH_take (i := 68) (v := .pointer (some ⟨lb, lo, none⟩)) rfl (by kernel_rfl) (by kernel_rfl) (by kernel_rfl) (fun _ _ _ h => h) (Or.inl ⟨by rfl, by intro w9 _; go_simp⟩) HX ?_
  simp only [List.getElem_toArray, List.getElem_cons_succ, List.getElem_cons_zero, Act.put, List.setIfInBounds_toArray, List.set_cons_zero, List.set_cons_succ]
  refine wpAnyH_take (i := 69) (v := .agg X) rfl (by kernel_rfl) (by kernel_rfl) (by kernel_rfl) (fun _ _ _ h => h) (yieldsIf_load_mid (by rfl) 23 _ rfl lb (lo) rfl X.toList _ (fun w' h => G0.out w' h) Tryd.underlying23 rfl icx.out) HX ?_
  simp only [List.getElem_toArray, List.getElem_cons_succ, List.getElem_cons_zero, Act.put, List.setIfInBounds_toArray, List.set_cons_zero, List.set_cons_succ]
  refine wpAnyH_ready (rs := [70]) (by kernel_rfl) (by simp) (AllReadyH.cons (by simp only [List.getElem?_toArray, List.getElem?_cons_succ, List.getElem?_cons_zero]; rfl) (fun K hK => ?_) AllReadyH.nil)
  refine step_want (by rfl) ?_
  go_simp
  refine (HC4.out _ (H5.out _ HX).2.2.2.1).mono ?_
  rintro e y10 ⟨rfl, bc⟩
  have HX : Below w5.heap.size w5 y10 := HX.trans (bc.mono HX.size)
  clear bc
  refine hK.out _ _ HX (fun _ => ?_)
  clear hK K
  try simp only [List.getElem_toArray, List.getElem_cons_succ, List.getElem_cons_zero, Act.put, List.setIfInBounds_toArray, List.set_cons_zero, List.set_cons_succ]
  refine wpAnyH_take (i := 71) (v := .bool true) rfl (by kernel_rfl) (by kernel_rfl) (by kernel_rfl) (fun _ _ _ h => h) (Or.inl ⟨by rfl, by intro w9 _; go_simp⟩) HX ?_
  simp only [List.getElem_toArray, List.getElem_cons_succ, List.getElem_cons_zero, Act.put, List.setIfInBounds_toArray, List.set_cons_zero, List.set_cons_succ]
  refine wpAnyH_take (i := 72) (v := .bool true) rfl (by kernel_rfl) (by kernel_rfl) (by kernel_rfl) (fun _ _ _ h => h) (Or.inl ⟨by rfl, by intro w9 _; go_simp⟩) HX ?_
  simp only [List.getElem_toArray, List.getElem_cons_succ, List.getElem_cons_zero, Act.put, List.setIfInBounds_toArray, List.set_cons_zero, List.set_cons_succ]
  refine wpAnyH_take (i := 73) (v := .bool true) rfl (by kernel_rfl) (by kernel_rfl) (by kernel_rfl) (fun _ _ _ h => h) (Or.inl ⟨by rfl, by intro w9 _; go_simp⟩) HX ?_
  simp only [List.getElem_toArray, List.getElem_cons_succ, List.getElem_cons_zero, Act.put, List.setIfInBounds_toArray, List.set_cons_zero, List.set_cons_succ]
  refine wpAnyH_done (by kernel_rfl) ?_ _
  have HF : Hid (Below w.heap.size w y10) := (H5.out _ HX).2.2.2.2
  clear HX
  go_wp2
  go_ret
  exact ⟨rfl, HF.out⟩
end Go.Proofs.YtficmbaffkkfhaaDoor
