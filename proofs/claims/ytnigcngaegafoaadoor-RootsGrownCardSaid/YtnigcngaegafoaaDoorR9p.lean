/- The law RootsGrown (layer 9). -/
import Derived.Test.YtnigcngaegafoaaDoorR9k
import Derived.Test.YtnigcngaegafoaaDoorR9q
namespace Go.Proofs.YtnigcngaegafoaaDoor
open Go.RowKit

theorem zero_step {w : World} (o : Obj) : Below w.heap.size w (w.alloc o) := (Below.refl _ _).alloc (Nat.le_refl _) o
theorem range_of_box {w : World} {b : Nat} {R : Array Value} (h : w.heap[b]? = some (.cells R 23 (0, 0))) : w.rangeAt b 0 R.toList := fun j v hj => by
  rw [cell_of_row _ _ _ _ _ _ h, Nat.zero_add, ← Array.getElem?_toList]; exact hj
set_option maxRecDepth 100000 in
set_option maxHeartbeats 8000000 in
set_option linter.unusedSimpArgs false in
theorem grown_walk (p : Int) (s : Nat) (x : List UInt8) (w : World) (hK : TabL w) (hp0 : 0 ≤ p) (hp1 : p ≤ 255) (hs : s < 4294967296) (hx : x.length = 32) : Calls Tryd.prog 7 #[.int .u8 p, .int .u32 s, .agg (hv x)] w fun e w' => e = .returned (.bool true) ∧ Below w.heap.size w w' := by
  obtain ⟨E, hE, hE6⟩ : ∃ E : Nat, p % 7 = (E : Int) ∧ E ≤ 6 := ⟨(p % 7).toNat, by omega, by omega⟩
  have hE0 : (0 : Int) ≤ (E : Int) := by omega
  have hE7 : (E : Int) ≤ 6 := by omega
  obtain ⟨n, hn⟩ : ∃ n : Nat, n = 2 ^ E := ⟨_, rfl⟩
  have hn1 : 0 < n := by rw [hn]; exact Nat.pow_pos (by decide)
  have hn2 : n ≤ 64 := by rw [hn]; exact Nat.pow_le_pow_right (n := 2) (by decide) hE6
  have HN : Hid (wrap64 ((2 : Int) ^ E) = (n : Int)) := by
    show _ = _
    rw [show (2 : Int) ^ E = ((2 ^ E : Nat) : Int) by simp, ← hn]
    unfold wrap64
    omega
  obtain ⟨w1, hw1⟩ : ∃ w1, w.alloc (.cells (hv x) 23) = w1 := ⟨_, rfl⟩
  have b1 : Below w.heap.size w w1 := by rw [← hw1]; exact zero_step _
  have g1 : w1.heap[w.heap.size]? = some (.cells (hv x) 23 (0, 0)) := by rw [← hw1]; exact heap_alloc_last w _
  have hs1 : w1.heap.size = w.heap.size + 1 := by rw [← hw1]; simp
  obtain ⟨L, hL⟩ : ∃ L, someL n s = L := ⟨_, rfl⟩
  have hlen : L.length = n := by rw [← hL]; exact some_length _ _
  have h32 : ∀ y ∈ L, y.length = 32 := by rw [← hL]; exact some_32 _ _
  have HSo : Hid (Calls Tryd.prog 16 #[.int .i64 (wrap64 ((2 : Int) ^ E)), .int .u32 s] w1 fun e w' => ∃ a c, e = .returned (.slice a n c) ∧ Mh w1 w1.heap.size (.slice a n c) L w') := by
    have := some_any (w := w1) n s (hK.below b1 hK.lt) (by omega) hs
    rw [hL] at this
    rwa [HN.out]
  have HK : Hid (∀ w', Below w.heap.size w w' → TabL w') := fun w' h => hK.below h hK.lt
  have HB1 : Hid (Below w.heap.size w w1) := b1
  have hroot : rootH (L ++ [x]) = nodeL (rootH L) x := root_grown _ _ (hlen.trans hn) x
  have r32 : (rootH L).length = 32 := rootH_32 h32
  have HNd : Hid (∀ w', Below w.heap.size w w' → Calls Tryd.prog 15 #[.agg (hv (rootH L)), .agg (hv x)] w' fun e w'' => e = .returned (.agg (hv (rootH (L ++ [x])))) ∧ Below w'.heap.size w' w'') := fun w' h => by
    rw [hroot]
    exact node_any _ _ w' (HK.out w' h) r32 hx
  have HR2 : Hid (∀ (w' : World) xa xc, Below w.heap.size w w' → HsAt w' (.slice xa (n + 1) xc) (L ++ [x]) → n + 1 ≤ xc → Calls Tryd.prog 9 #[.slice xa (n + 1) xc] w' fun e w'' => e = .returned (.agg (hv (rootH (L ++ [x])))) ∧ Below w'.heap.size w' w'') := fun w' xa xc h h2 h3 =>
    root_any (HK.out w' h) h2 (fun a n c e => by have := Value.slice.inj e; omega) (by simp; omega)
  have HR1 : Hid (∀ (w' : World) xa xc, Below w.heap.size w w' → HsAt w' (.slice xa n xc) L → n ≤ xc → Calls Tryd.prog 9 #[.slice xa n xc] w' fun e w'' => e = .returned (.agg (hv (rootH L))) ∧ Below w'.heap.size w' w'') := fun w' xa xc h h2 h3 =>
    root_any (HK.out w' h) h2 (fun a n c e => by have := Value.slice.inj e; omega) (by omega)
  have HD : Hid (∀ w', Below w.heap.size w w' → Calls Tryd.prog 12 #[] w' fun e w'' => e = .returned (.bool true) ∧ Below w'.heap.size w' w'') := fun w' h => does_any w' (HK.out w' h)
  have he : ∀ w' : World, (binOp .eql 23 (.agg (hv (rootH (L ++ [x])))) (.agg (hv (rootH (L ++ [x]))))).run Tryd.prog w' = .ok (.bool true) w' := fun w' => by simpa using eqH w' (rootH (L ++ [x])) (rootH (L ++ [x])) (by rw [hroot]; exact shaL_length _) (by rw [hroot]; exact shaL_length _)
  have HMd : Hid (∀ w' : World, HsAt (w'.alloc (.cells (hv x) 23)) (.slice (some ⟨w'.heap.size, 0, none⟩) 1 1) [x]) := fun w' => HsAt.made w' _ hx
  have hLx : (L ++ [x]).length = n + 1 := by simp [hlen]
  have eR : (hv x).size = 32 := by rw [hv_size, hx]
  have e4 : (hv (rootH L)).size = 32 := by rw [hv_size, r32]
  have e5 := hv_one (rootH L)
  have hbld := build_hash (hv x) eR
  rw [zero_h32] at hbld
  have icR : Hid ((Tryd.prog.info? 23).map (·.size) = some (hv x).toList.length) := by show _ = _; rw [info_h32, Array.length_toList, eR]
  have ic0 : Hid ((Tryd.prog.info? 23).map (·.size) = some (hv (rootH L)).toList.length) := by show _ = _; rw [info_h32, Array.length_toList, e4]
  clear hK HN hn hL hroot h32 b1
  generalize hv x = R at *
  generalize hv (rootH L) = R0 at *
  generalize hv (rootH (L ++ [x])) = RX at *
  go_enter Tryd.func7, Tryd.ntmps7
  go_wp2_with fail
  refine HSo.out.mono ?_
  rintro e w2 ⟨la, lc, rfl, hM⟩
  obtain ⟨a', c', hsl, hlc⟩ := hM.slice
  obtain ⟨rfl, -, rfl⟩ := Value.slice.inj hsl
  rw [hlen] at hlc
  have hA := hM.at_
  have hb2 : Below w.heap.size w w2 := HB1.out.trans (hM.below.mono HB1.out.size)
  have g2 := (hM.below.block _ (Array.getElem?_eq_some_iff.1 g1).1).trans g1
  obtain ⟨y, hy⟩ : ∃ y, L[0]? = some y := ⟨_, List.getElem?_eq_getElem (by omega)⟩
  obtain ⟨-, lb, lo, rfl, -⟩ := hA.cells.2 0 y hy
  have HA : Hid (HsAt w2 (.slice (some ⟨lb, lo, none⟩) n lc) L) := hA
  have HB2 : Hid (Below w.heap.size w w2) := hb2
  have HG2 : Hid (w2.heap[w.heap.size]? = some (.cells R 23 (0, 0))) := g2
  clear hM hsl hA hb2 g2 g1 hy hw1 HSo HB1 hs1
  go_wp2_with fail
  refine (HR1.out _ _ _ HB2.out HA.out hlc).mono ?_
  rintro e w3 ⟨rfl, b3⟩
  obtain ⟨w4, hw4, b4, g4⟩ := hash_box w3
  have b34 : Below w2.heap.size w2 w4 := b3.trans (b4.mono b3.size)
  have hA := HA.out.below b34
  have hB := HB2.out.trans (b34.mono HB2.out.size)
  have g := (b34.block _ (Array.getElem?_eq_some_iff.1 HG2.out).1).trans HG2.out
  have h34 : w.heap.size < w3.heap.size := Nat.lt_of_lt_of_le (Array.getElem?_eq_some_iff.1 HG2.out).1 b3.size
  have z1 : Hid ((hv (padTo 32 [])).size = 32) := hz_size
  obtain ⟨w5, hw5⟩ : ∃ w5, w4.setRow w3.heap.size R0 = w5 := ⟨_, rfl⟩
  have hsz : w5.heap.size = w4.heap.size := by rw [← hw5]; simp [World.setRow]
  have b5 : Below w3.heap.size w3 w5 := by rw [← hw5]; exact below_setRow b4 (Nat.le_refl _) _
  have g5 : w5.heap[w3.heap.size]? = some (.cells R0 23 (0, 0)) := by rw [← hw5]; exact heap_setRow_same g4
  have HA5 : Hid (HsAt w5 (.slice (some ⟨lb, lo, none⟩) n lc) L) := HA.out.below (b3.trans (b5.mono b3.size))
  have HB5 : Hid (Below w.heap.size w w5) := HB2.out.trans ((b3.trans (b5.mono b3.size)).mono HB2.out.size)
  have HGx : Hid (∀ w', Below w5.heap.size w5 w' → w'.rangeAt w.heap.size 0 R.toList) := fun w' h => range_stays (range_of_box ((b5.block _ h34).trans ((b3.block _ (Array.getElem?_eq_some_iff.1 HG2.out).1).trans HG2.out))) h
  have HG0 : Hid (∀ w', Below w5.heap.size w5 w' → w'.rangeAt w3.heap.size 0 R0.toList) := fun w' h => range_stays (range_of_box g5) h
  have HLs : Hid (∀ w', Below w5.heap.size w5 w' → HsAt w' (.slice (some ⟨lb, lo, none⟩) n lc) L) := fun w' h => HA5.out.below h
  have HW : Hid (∀ w', Below w5.heap.size w5 w' → Below w.heap.size w w') := fun w' h => HB5.out.trans (h.mono HB5.out.size)
  have hb0 : w3.heap.size ≤ w4.heap.size := b4.size
  clear hA hB g b5 g5 b34 b3 b4 h34 HG2 HB2 HA HA5 HB5 hsz hb0
  rw [zero_h32] at hw4 g4 z1
  generalize hbx : w3.heap.size = bx at *
  generalize hbR : w.heap.size = bR at *
  have HbR : Hid (w.heap.size = bR) := hbR
  clear hbR
  go_upto_region 3 with (first | (refine wpList_store_row rfl 23 (.tmp 8) _ rfl bx R0 rfl rfl _ _ g4 (by rw [info_h32, e4]) (by rw [z1.out, e4]) e5 ?_) | fail)
  refine wp_region_held (S := Below w5.heap.size w5) (by kernel_rfl) ?_
  change wpAnyH _ _ _ _ _ _ _ _ (World.drew _)
  rw [hw5]
  have HX0 : Below w5.heap.size w5 w5.drew := (Below.refl _ _).drew
  have HX := HX0
  clear HX0
  generalize World.drew _ = x0 at *
  refine wpAnyH_take (i := 1) (v := .slice (some ⟨lb, lo, none⟩) n lc) rfl (by kernel_rfl) (by kernel_rfl) (by kernel_rfl) (fun _ _ _ h => h) (Or.inl ⟨by rfl, by intro w9 _; go_simp⟩) HX ?_
  simp only [List.getElem_toArray, List.getElem_cons_succ, List.getElem_cons_zero, Act.put, List.setIfInBounds_toArray, List.set_cons_zero, List.set_cons_succ]
  refine wpAnyH_take (i := 3) (v := .agg R) rfl (by kernel_rfl) (by kernel_rfl) (by kernel_rfl) (fun _ _ _ h => h) (yieldsIf_load_mid (by rfl) 23 _ rfl bR 0 rfl R.toList _ (fun w' h => HGx.out w' h) Tryd.underlying23 rfl icR.out) HX ?_
  simp only [List.getElem_toArray, List.getElem_cons_succ, List.getElem_cons_zero, Act.put, List.setIfInBounds_toArray, List.set_cons_zero, List.set_cons_succ]
  refine wpAnyH_take (i := 7) (v := .agg R0) rfl (by kernel_rfl) (by kernel_rfl) (by kernel_rfl) (fun _ _ _ h => h) (yieldsIf_load_mid (by rfl) 23 _ rfl bx 0 rfl R0.toList _ (fun w' h => HG0.out w' h) Tryd.underlying23 rfl ic0.out) HX ?_
  simp only [List.getElem_toArray, List.getElem_cons_succ, List.getElem_cons_zero, Act.put, List.setIfInBounds_toArray, List.set_cons_zero, List.set_cons_succ]
  refine wpAnyH_take (i := 8) (v := .agg R) rfl (by kernel_rfl) (by kernel_rfl) (by kernel_rfl) (fun _ _ _ h => h) (yieldsIf_load_mid (by rfl) 23 _ rfl bR 0 rfl R.toList _ (fun w' h => HGx.out w' h) Tryd.underlying23 rfl icR.out) HX ?_
  simp only [List.getElem_toArray, List.getElem_cons_succ, List.getElem_cons_zero, Act.put, List.setIfInBounds_toArray, List.set_cons_zero, List.set_cons_succ]
  refine wpAnyH_ready (rs := [0, 4]) (by kernel_rfl) (by simp) (AllReadyH.cons (by simp only [List.getElem?_toArray, List.getElem?_cons_succ, List.getElem?_cons_zero]; rfl) (fun K hK => ?_) (AllReadyH.cons (by simp only [List.getElem?_toArray, List.getElem?_cons_succ, List.getElem?_cons_zero]; rfl) (fun K hK => ?_) AllReadyH.nil))
  · refine step_want (by rfl) ?_
    go_simp
    obtain ⟨x1, hw⟩ : ∃ x1, x0.alloc (.cells #[] 23) = x1 := ⟨_, rfl⟩
    have bc : Below x0.heap.size x0 x1 := by rw [← hw]; exact zero_step _
    obtain ⟨e1, he0⟩ : ∃ e1, x0.heap.size = e1 := ⟨_, rfl⟩
    rw [hw, he0]
    have HX : Below w5.heap.size w5 x1 := HX.trans (bc.mono HX.size)
    clear bc hw he0
    refine hK.out _ _ HX (fun _ => ?_)
    clear hK K
    try simp only [List.getElem_toArray, List.getElem_cons_succ, List.getElem_cons_zero, Act.put, List.setIfInBounds_toArray, List.set_cons_zero, List.set_cons_succ]
    refine wpAnyH_ready (rs := [2, 4]) (by kernel_rfl) (by simp) (AllReadyH.cons (by simp only [List.getElem?_toArray, List.getElem?_cons_succ, List.getElem?_cons_zero]; rfl) (fun K hK => ?_) (AllReadyH.cons (by simp only [List.getElem?_toArray, List.getElem?_cons_succ, List.getElem?_cons_zero]; rfl) (fun K hK => ?_) AllReadyH.nil))
    · refine step_want (by rfl) ?_
      refine wp_append_hs_new (.tmp 16) (.tmp 17) rfl ⟨e1, 0, none⟩ rfl ⟨lb, lo, none⟩ lc L n hlen rfl (HLs.out _ HX) hn1 (by omega) ?_
      intro xa xc x2 hxc hM
      have bc := hM.below
      have HXm : Hid (Below w5.heap.size w5 x1) := HX
      have HX : Below w5.heap.size w5 x2 := HX.trans (bc.mono HX.size)
      clear bc
      refine hK.out _ _ HX (fun _ => ?_)
      clear hK K
      try simp only [List.getElem_toArray, List.getElem_cons_succ, List.getElem_cons_zero, Act.put, List.setIfInBounds_toArray, List.set_cons_zero, List.set_cons_succ]
      refine wpAnyH_ready (rs := [4]) (by kernel_rfl) (by simp) (AllReadyH.cons (by simp only [List.getElem?_toArray, List.getElem?_cons_succ, List.getElem?_cons_zero]; rfl) (fun K hK => ?_) AllReadyH.nil)
      refine step_want (by rfl) ?_
      go_simp
      have hN := HMd.out x2
      obtain ⟨x3, hw⟩ : ∃ x3, x2.alloc (.cells R 23) = x3 := ⟨_, rfl⟩
      have bc : Below x2.heap.size x2 x3 := by rw [← hw]; exact zero_step _
      obtain ⟨n3, he0⟩ : ∃ n3, x2.heap.size = n3 := ⟨_, rfl⟩
      rw [hw, he0] at hN
      rw [hw, he0]
      have HX : Below w5.heap.size w5 x3 := HX.trans (bc.mono HX.size)
      have hM := hM.next bc
      clear bc hw he0
      refine hK.out _ _ HX (fun _ => ?_)
      clear hK K
      try simp only [List.getElem_toArray, List.getElem_cons_succ, List.getElem_cons_zero, Act.put, List.setIfInBounds_toArray, List.set_cons_zero, List.set_cons_succ]
      refine wpAnyH_ready (rs := [5]) (by kernel_rfl) (by simp) (AllReadyH.cons (by simp only [List.getElem?_toArray, List.getElem?_cons_succ, List.getElem?_cons_zero]; rfl) (fun K hK => ?_) AllReadyH.nil)
      refine step_want (by rfl) ?_
      refine wp_append_mh (L := L) (M := [x]) (.tmp 18) (.tmp 20) rfl hM ⟨n3, 0, none⟩ 1 rfl rfl hN (L ++ [x]) (n + 1) rfl hLx (by omega) ?_
      clear hM hN
      intro ya yc x4 hyc hM
      have HX : Below w5.heap.size w5 x4 := HXm.out.trans (hM.below.mono HXm.out.size)
      have hQ := hM.at_
      clear hM
      refine hK.out _ _ HX (fun _ => ?_)
      clear hK K
      try simp only [List.getElem_toArray, List.getElem_cons_succ, List.getElem_cons_zero, Act.put, List.setIfInBounds_toArray, List.set_cons_zero, List.set_cons_succ]
      refine wpAnyH_ready (rs := [6]) (by kernel_rfl) (by simp) (AllReadyH.cons (by simp only [List.getElem?_toArray, List.getElem?_cons_succ, List.getElem?_cons_zero]; rfl) (fun K hK => ?_) AllReadyH.nil)
      refine step_want (by rfl) ?_
      go_simp
      refine ((HR2.out _ _ _ (HW.out _ HX) hQ (by omega))).mono ?_
      rintro e x5 ⟨rfl, bc⟩
      have HX : Below w5.heap.size w5 x5 := HX.trans (bc.mono HX.size)
      clear bc
      refine hK.out _ _ HX (fun _ => ?_)
      clear hK K
      try simp only [List.getElem_toArray, List.getElem_cons_succ, List.getElem_cons_zero, Act.put, List.setIfInBounds_toArray, List.set_cons_zero, List.set_cons_succ]
      refine wpAnyH_ready (rs := [9]) (by kernel_rfl) (by simp) (AllReadyH.cons (by simp only [List.getElem?_toArray, List.getElem?_cons_succ, List.getElem?_cons_zero]; rfl) (fun K hK => ?_) AllReadyH.nil)
      refine step_want (by rfl) ?_
      go_simp
      refine ((HNd.out _ (HW.out _ HX))).mono ?_
      rintro e x6 ⟨rfl, bc⟩
      have HX : Below w5.heap.size w5 x6 := HX.trans (bc.mono HX.size)
      clear bc
      refine hK.out _ _ HX (fun _ => ?_)
      clear hK K
      try simp only [List.getElem_toArray, List.getElem_cons_succ, List.getElem_cons_zero, Act.put, List.setIfInBounds_toArray, List.set_cons_zero, List.set_cons_succ]
      refine wpAnyH_take (i := 10) (v := .bool true) rfl (by kernel_rfl) (by kernel_rfl) (by kernel_rfl) (fun _ _ _ h => h) (Or.inl ⟨by rfl, by intro w9 _; go_simp⟩) HX ?_
      simp only [List.getElem_toArray, List.getElem_cons_succ, List.getElem_cons_zero, Act.put, List.setIfInBounds_toArray, List.set_cons_zero, List.set_cons_succ]
      refine wpAnyH_take (i := 11) (v := .bool true) rfl (by kernel_rfl) (by kernel_rfl) (by kernel_rfl) (fun _ _ _ h => h) (Or.inl ⟨by rfl, by intro w9 _; go_simp⟩) HX ?_
      simp only [List.getElem_toArray, List.getElem_cons_succ, List.getElem_cons_zero, Act.put, List.setIfInBounds_toArray, List.set_cons_zero, List.set_cons_succ]
      refine wpAnyH_ready (rs := [12]) (by kernel_rfl) (by simp) (AllReadyH.cons (by simp only [List.getElem?_toArray, List.getElem?_cons_succ, List.getElem?_cons_zero]; rfl) (fun K hK => ?_) AllReadyH.nil)
      refine step_want (by rfl) ?_
      go_simp
      refine ((HD.out _ (HW.out _ HX))).mono ?_
      rintro e x7 ⟨rfl, bc⟩
      have HX : Below w5.heap.size w5 x7 := HX.trans (bc.mono HX.size)
      clear bc
      refine hK.out _ _ HX (fun _ => ?_)
      clear hK K
      try simp only [List.getElem_toArray, List.getElem_cons_succ, List.getElem_cons_zero, Act.put, List.setIfInBounds_toArray, List.set_cons_zero, List.set_cons_succ]
      refine wpAnyH_take (i := 13) (v := .bool true) rfl (by kernel_rfl) (by kernel_rfl) (by kernel_rfl) (fun _ _ _ h => h) (Or.inl ⟨by rfl, by intro w9 _; go_simp⟩) HX ?_
      simp only [List.getElem_toArray, List.getElem_cons_succ, List.getElem_cons_zero, Act.put, List.setIfInBounds_toArray, List.set_cons_zero, List.set_cons_succ]
      refine wpAnyH_take (i := 14) (v := .bool true) rfl (by kernel_rfl) (by kernel_rfl) (by kernel_rfl) (fun _ _ _ h => h) (Or.inl ⟨by rfl, by intro w9 _; go_simp⟩) HX ?_
      simp only [List.getElem_toArray, List.getElem_cons_succ, List.getElem_cons_zero, Act.put, List.setIfInBounds_toArray, List.set_cons_zero, List.set_cons_succ]
      refine wpAnyH_done (by kernel_rfl) ?_ _
      have HF : Hid _ := HW.out _ HX
      clear HX
      go_wp2
      go_ret
      exact ⟨rfl, by rw [HbR.out]; exact HF.out⟩
    · refine step_want (by rfl) ?_
      go_simp
      have hN := HMd.out x1
      obtain ⟨x2, hw⟩ : ∃ x2, x1.alloc (.cells R 23) = x2 := ⟨_, rfl⟩
      have bc : Below x1.heap.size x1 x2 := by rw [← hw]; exact zero_step _
      obtain ⟨n2, he0⟩ : ∃ n2, x1.heap.size = n2 := ⟨_, rfl⟩
      rw [hw, he0] at hN
      rw [hw, he0]
      have HX : Below w5.heap.size w5 x2 := HX.trans (bc.mono HX.size)
      clear bc hw he0
      refine hK.out _ _ HX (fun _ => ?_)
      clear hK K
      try simp only [List.getElem_toArray, List.getElem_cons_succ, List.getElem_cons_zero, Act.put, List.setIfInBounds_toArray, List.set_cons_zero, List.set_cons_succ]
      refine wpAnyH_ready (rs := [2]) (by kernel_rfl) (by simp) (AllReadyH.cons (by simp only [List.getElem?_toArray, List.getElem?_cons_succ, List.getElem?_cons_zero]; rfl) (fun K hK => ?_) AllReadyH.nil)
      refine step_want (by rfl) ?_
      refine wp_append_hs_new (.tmp 16) (.tmp 17) rfl ⟨e1, 0, none⟩ rfl ⟨lb, lo, none⟩ lc L n hlen rfl (HLs.out _ HX) hn1 (by omega) ?_
      intro xa xc x3 hxc hM
      have bc := hM.below
      have HXm : Hid (Below w5.heap.size w5 x2) := HX
      have HX : Below w5.heap.size w5 x3 := HX.trans (bc.mono HX.size)
      have hN := hN.below bc
      clear bc
      refine hK.out _ _ HX (fun _ => ?_)
      clear hK K
      try simp only [List.getElem_toArray, List.getElem_cons_succ, List.getElem_cons_zero, Act.put, List.setIfInBounds_toArray, List.set_cons_zero, List.set_cons_succ]
      refine wpAnyH_ready (rs := [5]) (by kernel_rfl) (by simp) (AllReadyH.cons (by simp only [List.getElem?_toArray, List.getElem?_cons_succ, List.getElem?_cons_zero]; rfl) (fun K hK => ?_) AllReadyH.nil)
      refine step_want (by rfl) ?_
      refine wp_append_mh (L := L) (M := [x]) (.tmp 18) (.tmp 20) rfl hM ⟨n2, 0, none⟩ 1 rfl rfl hN (L ++ [x]) (n + 1) rfl hLx (by omega) ?_
      clear hM hN
      intro ya yc x4 hyc hM
      have HX : Below w5.heap.size w5 x4 := HXm.out.trans (hM.below.mono HXm.out.size)
      have hQ := hM.at_
      clear hM
      refine hK.out _ _ HX (fun _ => ?_)
      clear hK K
      try simp only [List.getElem_toArray, List.getElem_cons_succ, List.getElem_cons_zero, Act.put, List.setIfInBounds_toArray, List.set_cons_zero, List.set_cons_succ]
      refine wpAnyH_ready (rs := [6]) (by kernel_rfl) (by simp) (AllReadyH.cons (by simp only [List.getElem?_toArray, List.getElem?_cons_succ, List.getElem?_cons_zero]; rfl) (fun K hK => ?_) AllReadyH.nil)
      refine step_want (by rfl) ?_
      go_simp
      refine ((HR2.out _ _ _ (HW.out _ HX) hQ (by omega))).mono ?_
      rintro e x5 ⟨rfl, bc⟩
      have HX : Below w5.heap.size w5 x5 := HX.trans (bc.mono HX.size)
      clear bc
      refine hK.out _ _ HX (fun _ => ?_)
      clear hK K
      try simp only [List.getElem_toArray, List.getElem_cons_succ, List.getElem_cons_zero, Act.put, List.setIfInBounds_toArray, List.set_cons_zero, List.set_cons_succ]
      refine wpAnyH_ready (rs := [9]) (by kernel_rfl) (by simp) (AllReadyH.cons (by simp only [List.getElem?_toArray, List.getElem?_cons_succ, List.getElem?_cons_zero]; rfl) (fun K hK => ?_) AllReadyH.nil)
      refine step_want (by rfl) ?_
      go_simp
      refine ((HNd.out _ (HW.out _ HX))).mono ?_
      rintro e x6 ⟨rfl, bc⟩
      have HX : Below w5.heap.size w5 x6 := HX.trans (bc.mono HX.size)
      clear bc
      refine hK.out _ _ HX (fun _ => ?_)
      clear hK K
      try simp only [List.getElem_toArray, List.getElem_cons_succ, List.getElem_cons_zero, Act.put, List.setIfInBounds_toArray, List.set_cons_zero, List.set_cons_succ]
      refine wpAnyH_take (i := 10) (v := .bool true) rfl (by kernel_rfl) (by kernel_rfl) (by kernel_rfl) (fun _ _ _ h => h) (Or.inl ⟨by rfl, by intro w9 _; go_simp⟩) HX ?_
      simp only [List.getElem_toArray, List.getElem_cons_succ, List.getElem_cons_zero, Act.put, List.setIfInBounds_toArray, List.set_cons_zero, List.set_cons_succ]
      refine wpAnyH_take (i := 11) (v := .bool true) rfl (by kernel_rfl) (by kernel_rfl) (by kernel_rfl) (fun _ _ _ h => h) (Or.inl ⟨by rfl, by intro w9 _; go_simp⟩) HX ?_
      simp only [List.getElem_toArray, List.getElem_cons_succ, List.getElem_cons_zero, Act.put, List.setIfInBounds_toArray, List.set_cons_zero, List.set_cons_succ]
      refine wpAnyH_ready (rs := [12]) (by kernel_rfl) (by simp) (AllReadyH.cons (by simp only [List.getElem?_toArray, List.getElem?_cons_succ, List.getElem?_cons_zero]; rfl) (fun K hK => ?_) AllReadyH.nil)
      refine step_want (by rfl) ?_
      go_simp
      refine ((HD.out _ (HW.out _ HX))).mono ?_
      rintro e x7 ⟨rfl, bc⟩
      have HX : Below w5.heap.size w5 x7 := HX.trans (bc.mono HX.size)
      clear bc
      refine hK.out _ _ HX (fun _ => ?_)
      clear hK K
      try simp only [List.getElem_toArray, List.getElem_cons_succ, List.getElem_cons_zero, Act.put, List.setIfInBounds_toArray, List.set_cons_zero, List.set_cons_succ]
      refine wpAnyH_take (i := 13) (v := .bool true) rfl (by kernel_rfl) (by kernel_rfl) (by kernel_rfl) (fun _ _ _ h => h) (Or.inl ⟨by rfl, by intro w9 _; go_simp⟩) HX ?_
      simp only [List.getElem_toArray, List.getElem_cons_succ, List.getElem_cons_zero, Act.put, List.setIfInBounds_toArray, List.set_cons_zero, List.set_cons_succ]
      refine wpAnyH_take (i := 14) (v := .bool true) rfl (by kernel_rfl) (by kernel_rfl) (by kernel_rfl) (fun _ _ _ h => h) (Or.inl ⟨by rfl, by intro w9 _; go_simp⟩) HX ?_
      simp only [List.getElem_toArray, List.getElem_cons_succ, List.getElem_cons_zero, Act.put, List.setIfInBounds_toArray, List.set_cons_zero, List.set_cons_succ]
      refine wpAnyH_done (by kernel_rfl) ?_ _
      have HF : Hid _ := HW.out _ HX
      clear HX
      go_wp2
      go_ret
      exact ⟨rfl, by rw [HbR.out]; exact HF.out⟩
  · refine step_want (by rfl) ?_
    go_simp
    have hN := HMd.out x0
    obtain ⟨x1, hw⟩ : ∃ x1, x0.alloc (.cells R 23) = x1 := ⟨_, rfl⟩
    have bc : Below x0.heap.size x0 x1 := by rw [← hw]; exact zero_step _
    obtain ⟨n1, he0⟩ : ∃ n1, x0.heap.size = n1 := ⟨_, rfl⟩
    rw [hw, he0] at hN
    rw [hw, he0]
    have HX : Below w5.heap.size w5 x1 := HX.trans (bc.mono HX.size)
    clear bc hw he0
    refine hK.out _ _ HX (fun _ => ?_)
    clear hK K
    try simp only [List.getElem_toArray, List.getElem_cons_succ, List.getElem_cons_zero, Act.put, List.setIfInBounds_toArray, List.set_cons_zero, List.set_cons_succ]
    refine wpAnyH_ready (rs := [0]) (by kernel_rfl) (by simp) (AllReadyH.cons (by simp only [List.getElem?_toArray, List.getElem?_cons_succ, List.getElem?_cons_zero]; rfl) (fun K hK => ?_) AllReadyH.nil)
    refine step_want (by rfl) ?_
    go_simp
    obtain ⟨x2, hw⟩ : ∃ x2, x1.alloc (.cells #[] 23) = x2 := ⟨_, rfl⟩
    have bc : Below x1.heap.size x1 x2 := by rw [← hw]; exact zero_step _
    obtain ⟨e2, he0⟩ : ∃ e2, x1.heap.size = e2 := ⟨_, rfl⟩
    rw [hw, he0]
    have HX : Below w5.heap.size w5 x2 := HX.trans (bc.mono HX.size)
    have hN := hN.below bc
    clear bc hw he0
    refine hK.out _ _ HX (fun _ => ?_)
    clear hK K
    try simp only [List.getElem_toArray, List.getElem_cons_succ, List.getElem_cons_zero, Act.put, List.setIfInBounds_toArray, List.set_cons_zero, List.set_cons_succ]
    refine wpAnyH_ready (rs := [2]) (by kernel_rfl) (by simp) (AllReadyH.cons (by simp only [List.getElem?_toArray, List.getElem?_cons_succ, List.getElem?_cons_zero]; rfl) (fun K hK => ?_) AllReadyH.nil)
    refine step_want (by rfl) ?_
    refine wp_append_hs_new (.tmp 16) (.tmp 17) rfl ⟨e2, 0, none⟩ rfl ⟨lb, lo, none⟩ lc L n hlen rfl (HLs.out _ HX) hn1 (by omega) ?_
    intro xa xc x3 hxc hM
    have bc := hM.below
    have HXm : Hid (Below w5.heap.size w5 x2) := HX
    have HX : Below w5.heap.size w5 x3 := HX.trans (bc.mono HX.size)
    have hN := hN.below bc
    clear bc
    refine hK.out _ _ HX (fun _ => ?_)
    clear hK K
    try simp only [List.getElem_toArray, List.getElem_cons_succ, List.getElem_cons_zero, Act.put, List.setIfInBounds_toArray, List.set_cons_zero, List.set_cons_succ]
    refine wpAnyH_ready (rs := [5]) (by kernel_rfl) (by simp) (AllReadyH.cons (by simp only [List.getElem?_toArray, List.getElem?_cons_succ, List.getElem?_cons_zero]; rfl) (fun K hK => ?_) AllReadyH.nil)
    refine step_want (by rfl) ?_
    refine wp_append_mh (L := L) (M := [x]) (.tmp 18) (.tmp 20) rfl hM ⟨n1, 0, none⟩ 1 rfl rfl hN (L ++ [x]) (n + 1) rfl hLx (by omega) ?_
    clear hM hN
    intro ya yc x4 hyc hM
    have HX : Below w5.heap.size w5 x4 := HXm.out.trans (hM.below.mono HXm.out.size)
    have hQ := hM.at_
    clear hM
    refine hK.out _ _ HX (fun _ => ?_)
    clear hK K
    try simp only [List.getElem_toArray, List.getElem_cons_succ, List.getElem_cons_zero, Act.put, List.setIfInBounds_toArray, List.set_cons_zero, List.set_cons_succ]
    refine wpAnyH_ready (rs := [6]) (by kernel_rfl) (by simp) (AllReadyH.cons (by simp only [List.getElem?_toArray, List.getElem?_cons_succ, List.getElem?_cons_zero]; rfl) (fun K hK => ?_) AllReadyH.nil)
    refine step_want (by rfl) ?_
    go_simp
    refine ((HR2.out _ _ _ (HW.out _ HX) hQ (by omega))).mono ?_
    rintro e x5 ⟨rfl, bc⟩
    have HX : Below w5.heap.size w5 x5 := HX.trans (bc.mono HX.size)
    clear bc
    refine hK.out _ _ HX (fun _ => ?_)
    clear hK K
    try simp only [List.getElem_toArray, List.getElem_cons_succ, List.getElem_cons_zero, Act.put, List.setIfInBounds_toArray, List.set_cons_zero, List.set_cons_succ]
    refine wpAnyH_ready (rs := [9]) (by kernel_rfl) (by simp) (AllReadyH.cons (by simp only [List.getElem?_toArray, List.getElem?_cons_succ, List.getElem?_cons_zero]; rfl) (fun K hK => ?_) AllReadyH.nil)
    refine step_want (by rfl) ?_
    go_simp
    refine ((HNd.out _ (HW.out _ HX))).mono ?_
    rintro e x6 ⟨rfl, bc⟩
    have HX : Below w5.heap.size w5 x6 := HX.trans (bc.mono HX.size)
    clear bc
    refine hK.out _ _ HX (fun _ => ?_)
    clear hK K
    try simp only [List.getElem_toArray, List.getElem_cons_succ, List.getElem_cons_zero, Act.put, List.setIfInBounds_toArray, List.set_cons_zero, List.set_cons_succ]
    refine wpAnyH_take (i := 10) (v := .bool true) rfl (by kernel_rfl) (by kernel_rfl) (by kernel_rfl) (fun _ _ _ h => h) (Or.inl ⟨by rfl, by intro w9 _; go_simp⟩) HX ?_
    simp only [List.getElem_toArray, List.getElem_cons_succ, List.getElem_cons_zero, Act.put, List.setIfInBounds_toArray, List.set_cons_zero, List.set_cons_succ]
    refine wpAnyH_take (i := 11) (v := .bool true) rfl (by kernel_rfl) (by kernel_rfl) (by kernel_rfl) (fun _ _ _ h => h) (Or.inl ⟨by rfl, by intro w9 _; go_simp⟩) HX ?_
    simp only [List.getElem_toArray, List.getElem_cons_succ, List.getElem_cons_zero, Act.put, List.setIfInBounds_toArray, List.set_cons_zero, List.set_cons_succ]
    refine wpAnyH_ready (rs := [12]) (by kernel_rfl) (by simp) (AllReadyH.cons (by simp only [List.getElem?_toArray, List.getElem?_cons_succ, List.getElem?_cons_zero]; rfl) (fun K hK => ?_) AllReadyH.nil)
    refine step_want (by rfl) ?_
    go_simp
    refine ((HD.out _ (HW.out _ HX))).mono ?_
    rintro e x7 ⟨rfl, bc⟩
    have HX : Below w5.heap.size w5 x7 := HX.trans (bc.mono HX.size)
    clear bc
    refine hK.out _ _ HX (fun _ => ?_)
    clear hK K
    try simp only [List.getElem_toArray, List.getElem_cons_succ, List.getElem_cons_zero, Act.put, List.setIfInBounds_toArray, List.set_cons_zero, List.set_cons_succ]
    refine wpAnyH_take (i := 13) (v := .bool true) rfl (by kernel_rfl) (by kernel_rfl) (by kernel_rfl) (fun _ _ _ h => h) (Or.inl ⟨by rfl, by intro w9 _; go_simp⟩) HX ?_
    simp only [List.getElem_toArray, List.getElem_cons_succ, List.getElem_cons_zero, Act.put, List.setIfInBounds_toArray, List.set_cons_zero, List.set_cons_succ]
    refine wpAnyH_take (i := 14) (v := .bool true) rfl (by kernel_rfl) (by kernel_rfl) (by kernel_rfl) (fun _ _ _ h => h) (Or.inl ⟨by rfl, by intro w9 _; go_simp⟩) HX ?_
    simp only [List.getElem_toArray, List.getElem_cons_succ, List.getElem_cons_zero, Act.put, List.setIfInBounds_toArray, List.set_cons_zero, List.set_cons_succ]
    refine wpAnyH_done (by kernel_rfl) ?_ _
    have HF : Hid _ := HW.out _ HX
    clear HX
    go_wp2
    go_ret
    exact ⟨rfl, by rw [HbR.out]; exact HF.out⟩
theorem grown_law (p s : Int) (x : List UInt8) (w : World) (hK : TabL w) (hp : 0 ≤ p ∧ p ≤ 255) (hs : 0 ≤ s ∧ s ≤ 4294967295) (hx : x.length = 32) : Calls Tryd.prog 7 #[.int .u8 p, .int .u32 s, .agg (hv x)] w fun e w' => e = .returned (.bool true) ∧ Below w.heap.size w w' := by
  obtain ⟨m, rfl⟩ := Int.eq_ofNat_of_zero_le hs.1
  exact grown_walk p m x w hK hp.1 hp.2 (by omega) hx
end Go.Proofs.YtnigcngaegafoaaDoor
