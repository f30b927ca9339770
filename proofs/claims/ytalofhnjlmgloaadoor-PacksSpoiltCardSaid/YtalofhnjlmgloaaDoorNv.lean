/- The walk of the law PacksSpoilt. -/
import Derived.Test.YtalofhnjlmgloaaDoorNh
import Derived.Test.YtalofhnjlmgloaaDoorNu
import Derived.Deep.RegionHeld3
import Derived.Deep.DeepCutAuto
namespace Go.Proofs.YtalofhnjlmgloaaDoor
open Go.RowKit

theorem zeros_torn (b : List UInt8) (h : (S b).size = 128) : S (List.replicate 32 0) ++ (S b).extract 32 (S b).size = S (tornL b) := by
  have hl : b.length = 128 := by rwa [S_size] at h
  rw [S_ext, S_app, S_toList, S_size, hl]
  unfold tornL cut
  rw [List.take_of_length_le (by simp; omega)]
set_option maxRecDepth 100000 in
set_option maxHeartbeats 8000000 in
set_option linter.unusedSimpArgs false in
theorem packspoilt_any (d : List UInt8) (nx ny nz : Nat) (w : World) (hT : Tab w) (hT4 : Tab4 w) (hx : nx ≤ 255) (hy : ny ≤ 255) (hz : nz ≤ 255) :
    Calls Tryd.prog 7 #[.string (S d), .agg #[.int .u8 nx, .int .u8 ny, .int .u8 nz]] w fun e w' => e = .returned (.bool true) ∧ Below w.heap.size w w' := by
  have HA : Hid (Below w.heap.size w (w.alloc (.cells #[.int .u8 nx, .int .u8 ny, .int .u8 nz] 43))) := (Below.refl _ _).alloc (Nat.le_refl _) _
  by_cases hl : 3000 < d.length
  · have hsz : (3000 : Int) < ((S d).size : Int) := by rw [S_size]; omega
    generalize S d = D at *
    go_enter Tryd.func7, Tryd.ntmps7
    go_wp2
    go_ret
    exact ⟨rfl, HA.out⟩
  have hsz : ¬ (3000 : Int) < ((S d).size : Int) := by rw [S_size]; omega
  have hc : cntN d.length ≤ 28 := by unfold cntN; split <;> omega
  have hE : splitE 68 7 d = 0 := splitE_ok.2 ⟨by omega, by decide⟩
  have hB : splitL 68 7 d = blkL 68 7 d := splitL_ok hE
  have HSp : Hid (∀ w1 b x y z, P3 w [] b x y z w1 → Calls Tryd.prog 9 #[.int .u8 68, .int .i64 7, .string (S d)] w1 fun r w' => ∃ lb lo lc, r = .returned (.tuple #[.slice (some ⟨lb, lo, none⟩) (cntN d.length) lc, .int .i64 0]) ∧ cntN d.length ≤ lc ∧ P3 w [(.slice (some ⟨lb, lo, none⟩) (cntN d.length) lc, blkL 68 7 d)] b x y z w') := fun w1 b x y z h =>
    (split_any 68 7 d w1 h.ts.tab h.ts.tab4 (by omega)).mono fun r w' hh => by
      obtain ⟨v, rfl, ho, hb⟩ := hh
      obtain ⟨a, c, rfl⟩ := owns_slice ho
      have hcap := owns_cap ho
      have ht := (texts_of_owns ho).1
      have h2 := h.next hb
      simp only [hB, blkL_length, hE] at ht hcap ⊢
      obtain ⟨lb, lo, rfl, _⟩ := ht.cell 0 _ (blkL_get (cntN_pos _))
      exact ⟨lb, lo, c, rfl, hcap, h2.ts.add ht, h2.c0, h2.c1, h2.c2⟩
  have HJ : Hid (∀ (w1 : World) v R ts, Ts w ((v, R) :: ts) w1 → R.length ≤ 1000 → joinB R 68 7 = false → Calls Tryd.prog 16 #[v, .int .u8 68, .int .i64 7] w1 fun r w' => r = .returned (.tuple #[.string ⟨#[]⟩, .int .i64 10]) ∧ Ts w ts w') := fun w1 v R ts h hl hj => by
    have := ts_join h h.head 68 7 (by omega)
    rw [(join_no hj).1, (join_no hj).2] at this
    exact this.mono fun _ _ hh => ⟨hh.1, hh.2.drop⟩
  have HDo : Hid (∀ w1, Tab w1 → Tab4 w1 → Calls Tryd.prog 14 #[] w1 fun e w' => e = .returned (.bool true) ∧ Below w1.heap.size w1 w') := fun w1 a b => pdoes_any w1 a b
  have HX0 : Hid (P3 w [] w.heap.size nx ny nz (w.alloc (.cells #[.int .u8 nx, .int .u8 ny, .int .u8 nz] 43))) := by
    refine ⟨(Ts.start hT hT4).next HA.out, ?_, ?_, ?_⟩ <;> rw [cell_of_row _ _ _ _ _ _ (heap_alloc_last w _)] <;> rfl
  have hpos := cntN_pos d.length
  have HGet : Hid (∀ i, i < cntN d.length → (blkL 68 7 d)[i]? = some (encL (frP 68 7 d i))) := fun i hi => blkL_get hi
  have HLn : Hid (∀ i, i < cntN d.length → (S (encL (frP 68 7 d i))).size = 128) := fun i hi => by rw [S_size, encL_length (frP_ok (splitE_ok.1 hE).2 (by omega))]
  have HLL : Hid ((blkL 68 7 d).length = cntN d.length) := blkL_length _ _ _
  have HS0 : Hid (∀ i, i < cntN d.length → joinB (((blkL 68 7 d).take i ++ [tornL (encL (frP 68 7 d i))]) ++ (blkL 68 7 d).drop (i + 1)) 68 7 = false) := fun i hi => spoil0 hE hi
  have HS1 : Hid (∀ i, i + 1 < cntN d.length → joinB ((blkL 68 7 d).take i ++ (blkL 68 7 d).drop (i + 1)) 68 7 = false) := fun i hi => spoil1 hE hi
  have HS2 : Hid (∀ i, i < cntN d.length → joinB ((blkL 68 7 d).take (i + 1) ++ (blkL 68 7 d).drop i) 68 7 = false) := fun i hi => spoil2 hE hi
  have HS3 : Hid (∀ i j, i < cntN d.length → j < cntN d.length → i ≠ j → joinB (((blkL 68 7 d).set i (encL (frP 68 7 d j))).set j (encL (frP 68 7 d i))) 68 7 = false) := fun i j hi hj hne => spoil3 hE hi hj hne
  obtain ⟨i, hi⟩ : ∃ i, nx % cntN d.length = i := ⟨_, rfl⟩
  obtain ⟨j, hj⟩ : ∃ j, ny % cntN d.length = j := ⟨_, rfl⟩
  have hiC : i < cntN d.length := by rw [← hi]; exact Nat.mod_lt _ hpos
  have hjC : j < cntN d.length := by rw [← hj]; exact Nat.mod_lt _ hpos
  have hzc : nz % 4 = 0 ∨ nz % 4 = 1 ∨ nz % 4 = 2 ∨ nz % 4 = 3 := by omega
  clear hE hB hT hT4 hl
  generalize blkL 68 7 d = L at *
  generalize cntN d.length = C at *
  have hmi : (nx : Int) % (C : Int) = (i : Int) := by rw [← hi]; simp
  have hmj : (ny : Int) % (C : Int) = (j : Int) := by rw [← hj]; simp
  have hC0 : (0 : Int) < (C : Int) := by omega
  have hCne : ((C : Int) == 0) = false := by simp; omega
  clear hi hj
  generalize S d = D at *
  go_enter Tryd.func7, Tryd.ntmps7
  go_wp2_with fail
  refine (HSp.out _ _ _ _ _ HX0.out).mono ?_
  rintro r w1 ⟨lb, lo, lc, rfl, hcap, hx1⟩
  have hnil : ¬ C = 0 := by omega
  have n0 := hx1.c0
  have n1 := hx1.c1
  have n2 := hx1.c2
  have HX : Hid _ := hx1
  clear hx1 HX0 HSp HA
  go_wp2
  go_quiet (fail)
  have HXq : Hid _ := HX.out.drewN nq
  generalize w1.drewN nq = w2 at *
  have n2 := HXq.out.c2
  have HT : Hid (Ts w [(.slice (some ⟨lb, lo, none⟩) C lc, L)] w2) := HXq.out.ts
  have HIL : Hid (i + 1 ≤ lc) := by show _ ≤ _; omega
  clear HX HXq n0 n1
  have b0 : (i : Int) ≤ (C : Int) := by omega
  have b1 : (C : Int) ≤ (lc : Int) := by omega
  have b2 : (i : Int) ≤ (lc : Int) := by omega
  have b3 : (i : Int) + 1 ≤ (C : Int) := by omega
  have b4 : (i : Int) + 1 ≤ (lc : Int) := by omega
  have b5 : (i : Int) < (C : Int) := by omega
  have hwr : IntKind.i64.wrap ((i : Int) + 1) = (i : Int) + 1 := by rw [IntKind.wrap_i64]; omega
  have b8 : (0 : Int) ≤ (i : Int) + 1 := by omega
  have b9 : ¬ ((i : Int) + 1 < 0) := by omega
  have b6 : (j : Int) < (C : Int) := by omega
  have b7 : i ≤ lc := by omega
  have hti : Hid ((L.take i).length = i) := by show _ = _; rw [List.length_take, HLL.out]; omega
  have hti1 : Hid ((L.take (i + 1)).length = i + 1) := by show _ = _; rw [List.length_take, HLL.out]; omega
  rcases hzc with hzc | hzc | hzc | hzc
  · have hz4 : (nz : Int) % 4 = 0 := by omega
    have hLi : Hid (L[i]? = some (encL (frP 68 7 d i))) := HGet.out i hiC
    have hxz : (S (encL (frP 68 7 d i))).size = 128 := HLn.out i hiC
    have hbad : Hid (joinB ((L.take i ++ [tornL (encL (frP 68 7 d i))]) ++ L.drop (i + 1)) 68 7 = false) := HS0.out i hiC
    clear HGet HLn HS0 HS1 HS2 HS3 hzc
    generalize encL (frP 68 7 d i) = x at *
    have hlenR : Hid (((L.take i ++ [tornL x]) ++ L.drop (i + 1)).length = C) := by
      show _ = _
      rw [List.length_append, List.length_append, hti.out, List.length_drop, HLL.out]; simp; omega
    have hlen1 : Hid ((L.take i ++ [tornL x]).length = i + 1) := by show _ = _; rw [List.length_append, hti.out]; rfl
    have HcL : Hid (∀ w', Ts w [(.slice (some ⟨lb, lo, none⟩) C lc, L)] w' → w'.cell? ⟨lb, lo + i, none⟩ = some (.string (S x))) := fun w' h => by
      obtain ⟨b', o', e, hc⟩ := h.head.cell i x hLi.out
      simp at e
      obtain ⟨rfl, rfl⟩ := e
      exact hc
    have HTo : Hid (S (List.replicate 32 0) ++ (S x).extract 32 128 = S (tornL x)) := by
      have := zeros_torn x hxz
      rw [hxz] at this
      exact this
    have hEz : ((S x).extract 32 128).size = 96 := by rw [S_ext, S_size, cut_length x 32 (128 - 32) (by rw [S_size] at hxz; omega)]
    have hZz : (S (List.replicate 32 0)).size = 32 := by rw [S_size]; simp
    have HMk : Hid (∀ W : World, (Instr.makeSlice 44 (.int .i64 32) (.int .i64 32)).run Tryd.prog W = .ok (.slice (some ⟨W.heap.size, 0, none⟩) 32 32) (W.alloc (.cells (hv (List.replicate 32 0)) 5))) := fun W => mkZ 32 (by omega) W
    have HCv : Hid (∀ (w' : World) (g : Nat), w'.heap[g]? = some (.cells (hv (List.replicate 32 0)) 5 (0, 0)) → (convert 44 9 (.slice (some ⟨g, 0, none⟩) 32 32)).run Tryd.prog w' = .ok (.string (S (List.replicate 32 0))) w') := fun w' g h => cvZ 32 w' g h
    have HRm : Hid (∀ W : World, TextsAt (W.alloc (.cells #[.string (S (tornL x))] 9)) (.slice (some ⟨W.heap.size, 0, none⟩) 1 1) [tornL x]) := fun W => TextsAt.made W [tornL x] 1 1 rfl
    generalize S (tornL x) = Tn at *
    generalize hX : S x = X at *
    generalize S (List.replicate 32 0) = Z at *
    generalize hv (List.replicate 32 0) = Zc at *
    clear hX
    go_upto_region 10 with fail
    simp only [hmi, hmj, hz4]
    go_cut [9] (fun cv wx => ∃ ya yc B, cv = .slice ya (i + 1) yc ∧ Mo w B [(.slice (some ⟨lb, lo, none⟩) C lc, L)] cv (L.take i ++ [tornL x]) wx)
    case first =>
      refine wp_region_held (S := Ts w [(.slice (some ⟨lb, lo, none⟩) C lc, L)]) (by kernel_rfl) ?_
      change wpAnyH _ _ _ _ _ _ _ _ (World.drew _)
      have HX := HT.out.drew
      generalize World.drew _ = w3 at *
      have HM : Mo w w3.heap.size [(.slice (some ⟨lb, lo, none⟩) C lc, L)] (.slice none 0 0) [] w3 := Mo.start HX
      refine wpAnyH_take (i := 0) (v := .slice none 0 0) rfl (by kernel_rfl) (by kernel_rfl) (by kernel_rfl) (fun _ _ _ h => h) (Or.inl ⟨by rfl, by intro w _; go_simp⟩) HX ?_
      simp only [List.getElem_toArray, List.getElem_cons_succ, List.getElem_cons_zero, Act.put, List.setIfInBounds_toArray, List.set_cons_zero, List.set_cons_succ]
      refine wpAnyH_take (i := 1) (v := .slice (some ⟨lb, lo, none⟩) C lc) rfl (by kernel_rfl) (by kernel_rfl) (by kernel_rfl) (fun _ _ _ h => h) (Or.inl ⟨by rfl, by intro w _; go_simp⟩) HX ?_
      simp only [List.getElem_toArray, List.getElem_cons_succ, List.getElem_cons_zero, Act.put, List.setIfInBounds_toArray, List.set_cons_zero, List.set_cons_succ]
      refine wpAnyH_take (i := 2) (v := .int .i64 i) rfl (by kernel_rfl) (by kernel_rfl) (by kernel_rfl) (fun _ _ _ h => h) (Or.inl ⟨by rfl, by intro w _; go_simp⟩) HX ?_
      simp only [List.getElem_toArray, List.getElem_cons_succ, List.getElem_cons_zero, Act.put, List.setIfInBounds_toArray, List.set_cons_zero, List.set_cons_succ]
      refine wpAnyH_take (i := 3) (v := .slice (some ⟨lb, lo, none⟩) i lc) rfl (by kernel_rfl) (by kernel_rfl) (by kernel_rfl) (fun _ _ _ h => h) (Or.inl ⟨by rfl, by intro w _; go_simp⟩) HX ?_
      simp only [List.getElem_toArray, List.getElem_cons_succ, List.getElem_cons_zero, Act.put, List.setIfInBounds_toArray, List.set_cons_zero, List.set_cons_succ]
      refine wpAnyH_take (i := 7) (v := .slice (some ⟨lb, lo, none⟩) C lc) rfl (by kernel_rfl) (by kernel_rfl) (by kernel_rfl) (fun _ _ _ h => h) (Or.inl ⟨by rfl, by intro w _; go_simp⟩) HX ?_
      simp only [List.getElem_toArray, List.getElem_cons_succ, List.getElem_cons_zero, Act.put, List.setIfInBounds_toArray, List.set_cons_zero, List.set_cons_succ]
      refine wpAnyH_take (i := 8) (v := .int .i64 i) rfl (by kernel_rfl) (by kernel_rfl) (by kernel_rfl) (fun _ _ _ h => h) (Or.inl ⟨by rfl, by intro w _; go_simp⟩) HX ?_
      simp only [List.getElem_toArray, List.getElem_cons_succ, List.getElem_cons_zero, Act.put, List.setIfInBounds_toArray, List.set_cons_zero, List.set_cons_succ]
      refine wpAnyH_take (i := 9) (v := .pointer (some ⟨lb, lo + i, none⟩)) rfl (by kernel_rfl) (by kernel_rfl) (by kernel_rfl) (fun _ _ _ h => h) (Or.inl ⟨by rfl, by intro w _; go_simp⟩) HX ?_
      simp only [List.getElem_toArray, List.getElem_cons_succ, List.getElem_cons_zero, Act.put, List.setIfInBounds_toArray, List.set_cons_zero, List.set_cons_succ]
      refine wpAnyH_take (i := 10) (v := .string X) rfl (by kernel_rfl) (by kernel_rfl) (by kernel_rfl) (fun _ _ _ h => h) (Or.inl ⟨by rfl, by intro w hw; have hc := HcL.out _ hw; go_simp⟩) HX ?_
      simp only [List.getElem_toArray, List.getElem_cons_succ, List.getElem_cons_zero, Act.put, List.setIfInBounds_toArray, List.set_cons_zero, List.set_cons_succ]
      refine wpAnyH_take (i := 11) (v := .string (X.extract 32 128)) rfl (by kernel_rfl) (by kernel_rfl) (by kernel_rfl) (fun _ _ _ h => h) (Or.inl ⟨by rfl, by intro w _; go_simp⟩) HX ?_
      simp only [List.getElem_toArray, List.getElem_cons_succ, List.getElem_cons_zero, Act.put, List.setIfInBounds_toArray, List.set_cons_zero, List.set_cons_succ]
      generalize X.extract 32 128 = E at *
      refine wpAnyH_ready (rs := [4, 5]) (by kernel_rfl) (by simp) (AllReadyH.cons (by simp only [List.getElem?_toArray, List.getElem?_cons_succ, List.getElem?_cons_zero]; rfl) (fun K hK => ?_) (AllReadyH.cons (by simp only [List.getElem?_toArray, List.getElem?_cons_succ, List.getElem?_cons_zero]; rfl) (fun K hK => ?_) AllReadyH.nil))
      · refine step_plain rfl ?_
        refine wp_append_new (.tmp 44) (.tmp 47) rfl HM (.slice (some ⟨lb, lo, none⟩) i lc) (L.take i) i rfl rfl (HX.head.take i (by omega)) ⟨_, _, _, _, rfl⟩ hti.out (by omega) ?_
        intro xa xc u1 _ HM bb
        have HX : Ts w [(.slice (some ⟨lb, lo, none⟩) C lc, L)] u1 := HM.all.drop
        clear bb
        refine hK.out _ _ HX (fun _ => ?_)
        clear hK K
        try simp only [List.getElem_toArray, List.getElem_cons_succ, List.getElem_cons_zero, Act.put, List.setIfInBounds_toArray, List.set_cons_zero, List.set_cons_succ]
        refine wpAnyH_ready (rs := [5]) (by kernel_rfl) (by simp) (AllReadyH.cons (by simp only [List.getElem?_toArray, List.getElem?_cons_succ, List.getElem?_cons_zero]; rfl) (fun K hK => ?_) AllReadyH.nil)
        refine step_plain rfl ?_
        have hmk := HMk.out u1
        go_simp
        clear hmk
        have HX := HX.alloc (.cells Zc 5)
        have HM := HM.alloc (.cells Zc 5)
        refine hK.out _ _ HX (fun _ => ?_)
        clear hK K
        try simp only [List.getElem_toArray, List.getElem_cons_succ, List.getElem_cons_zero, Act.put, List.setIfInBounds_toArray, List.set_cons_zero, List.set_cons_succ]
        have HZ := heap_alloc_last u1 (.cells Zc 5)
        have hzl : u1.heap.size < (u1.alloc (.cells Zc 5)).heap.size := by simp
        generalize u1.alloc (.cells Zc 5) = u2 at *
        generalize u1.heap.size = zg at *
        refine wpAnyH_ready (rs := [6]) (by kernel_rfl) (by simp) (AllReadyH.cons (by simp only [List.getElem?_toArray, List.getElem?_cons_succ, List.getElem?_cons_zero]; rfl) (fun K hK => ?_) AllReadyH.nil)
        refine step_plain rfl ?_
        have hcv := HCv.out _ _ HZ
        go_simp
        clear hcv
        refine hK.out _ _ HX (fun _ => ?_)
        clear hK K
        try simp only [List.getElem_toArray, List.getElem_cons_succ, List.getElem_cons_zero, Act.put, List.setIfInBounds_toArray, List.set_cons_zero, List.set_cons_succ]
        clear HZ
        refine wpAnyH_take (i := 12) (v := .string Tn) rfl (by kernel_rfl) (by kernel_rfl) (by kernel_rfl) (fun _ _ _ h => h) (Or.inl ⟨by rfl, by intro w _; go_simp; rw [HTo.out]⟩) HX ?_
        simp only [List.getElem_toArray, List.getElem_cons_succ, List.getElem_cons_zero, Act.put, List.setIfInBounds_toArray, List.set_cons_zero, List.set_cons_succ]
        refine wpAnyH_ready (rs := [13]) (by kernel_rfl) (by simp) (AllReadyH.cons (by simp only [List.getElem?_toArray, List.getElem?_cons_succ, List.getElem?_cons_zero]; rfl) (fun K hK => ?_) AllReadyH.nil)
        refine step_plain rfl ?_
        go_simp
        have HX := HX.alloc (.cells #[.string Tn] 9)
        have HM := HM.alloc (.cells #[.string Tn] 9)
        refine hK.out _ _ HX (fun _ => ?_)
        clear hK K
        try simp only [List.getElem_toArray, List.getElem_cons_succ, List.getElem_cons_zero, Act.put, List.setIfInBounds_toArray, List.set_cons_zero, List.set_cons_succ]
        have HR := HRm.out u2
        generalize u2.alloc (.cells #[.string Tn] 9) = u4 at *
        generalize u2.heap.size = rg at *
        refine wpAnyH_ready (rs := [14]) (by kernel_rfl) (by simp) (AllReadyH.cons (by simp only [List.getElem?_toArray, List.getElem?_cons_succ, List.getElem?_cons_zero]; rfl) (fun K hK => ?_) AllReadyH.nil)
        refine step_plain rfl ?_
        refine wp_append_mo (.tmp 48) (.tmp 57) rfl HM (.slice (some ⟨rg, 0, none⟩) 1 1) [tornL x] (L.take i ++ [tornL x]) (i + 1) rfl rfl HR (Or.inl ⟨_, _, _, _, rfl⟩) rfl hlen1.out (by omega) ?_
        intro ya yc u5 _ HM
        have HX : Ts w [(.slice (some ⟨lb, lo, none⟩) C lc, L)] u5 := HM.all.drop
        refine hK.out _ _ HX (fun _ => ?_)
        clear hK K
        try simp only [List.getElem_toArray, List.getElem_cons_succ, List.getElem_cons_zero, Act.put, List.setIfInBounds_toArray, List.set_cons_zero, List.set_cons_succ]
        refine wpAnyH_take (i := 15) (v := .slice ya (i + 1) yc) rfl (by kernel_rfl) (by kernel_rfl) (by kernel_rfl) (fun _ _ _ h => h) (Or.inl ⟨by rfl, by intro w _; go_simp⟩) HX ?_
        simp only [List.getElem_toArray, List.getElem_cons_succ, List.getElem_cons_zero, Act.put, List.setIfInBounds_toArray, List.set_cons_zero, List.set_cons_succ]
        refine wpAnyH_done (by kernel_rfl) ?_ _
        go_wp2_with fail
        go_meet
        exact ⟨ya, yc, _, rfl, HM⟩
      · refine step_plain rfl ?_
        have hmk := HMk.out w3
        go_simp
        clear hmk
        have HX := HX.alloc (.cells Zc 5)
        have HM := HM.alloc (.cells Zc 5)
        refine hK.out _ _ HX (fun _ => ?_)
        clear hK K
        try simp only [List.getElem_toArray, List.getElem_cons_succ, List.getElem_cons_zero, Act.put, List.setIfInBounds_toArray, List.set_cons_zero, List.set_cons_succ]
        have HZ := heap_alloc_last w3 (.cells Zc 5)
        have hzl : w3.heap.size < (w3.alloc (.cells Zc 5)).heap.size := by simp
        generalize w3.alloc (.cells Zc 5) = u6 at *
        generalize w3.heap.size = zg at *
        refine wpAnyH_ready (rs := [4, 6]) (by kernel_rfl) (by simp) (AllReadyH.cons (by simp only [List.getElem?_toArray, List.getElem?_cons_succ, List.getElem?_cons_zero]; rfl) (fun K hK => ?_) (AllReadyH.cons (by simp only [List.getElem?_toArray, List.getElem?_cons_succ, List.getElem?_cons_zero]; rfl) (fun K hK => ?_) AllReadyH.nil))
        · refine step_plain rfl ?_
          refine wp_append_new (.tmp 44) (.tmp 47) rfl HM (.slice (some ⟨lb, lo, none⟩) i lc) (L.take i) i rfl rfl (HX.head.take i (by omega)) ⟨_, _, _, _, rfl⟩ hti.out (by omega) ?_
          intro xa xc u7 _ HM bb
          have HX : Ts w [(.slice (some ⟨lb, lo, none⟩) C lc, L)] u7 := HM.all.drop
          have HZ := (bb.block zg hzl).trans HZ
          clear bb
          refine hK.out _ _ HX (fun _ => ?_)
          clear hK K
          try simp only [List.getElem_toArray, List.getElem_cons_succ, List.getElem_cons_zero, Act.put, List.setIfInBounds_toArray, List.set_cons_zero, List.set_cons_succ]
          refine wpAnyH_ready (rs := [6]) (by kernel_rfl) (by simp) (AllReadyH.cons (by simp only [List.getElem?_toArray, List.getElem?_cons_succ, List.getElem?_cons_zero]; rfl) (fun K hK => ?_) AllReadyH.nil)
          refine step_plain rfl ?_
          have hcv := HCv.out _ _ HZ
          go_simp
          clear hcv
          refine hK.out _ _ HX (fun _ => ?_)
          clear hK K
          try simp only [List.getElem_toArray, List.getElem_cons_succ, List.getElem_cons_zero, Act.put, List.setIfInBounds_toArray, List.set_cons_zero, List.set_cons_succ]
          clear HZ
          refine wpAnyH_take (i := 12) (v := .string Tn) rfl (by kernel_rfl) (by kernel_rfl) (by kernel_rfl) (fun _ _ _ h => h) (Or.inl ⟨by rfl, by intro w _; go_simp; rw [HTo.out]⟩) HX ?_
          simp only [List.getElem_toArray, List.getElem_cons_succ, List.getElem_cons_zero, Act.put, List.setIfInBounds_toArray, List.set_cons_zero, List.set_cons_succ]
          refine wpAnyH_ready (rs := [13]) (by kernel_rfl) (by simp) (AllReadyH.cons (by simp only [List.getElem?_toArray, List.getElem?_cons_succ, List.getElem?_cons_zero]; rfl) (fun K hK => ?_) AllReadyH.nil)
          refine step_plain rfl ?_
          go_simp
          have HX := HX.alloc (.cells #[.string Tn] 9)
          have HM := HM.alloc (.cells #[.string Tn] 9)
          refine hK.out _ _ HX (fun _ => ?_)
          clear hK K
          try simp only [List.getElem_toArray, List.getElem_cons_succ, List.getElem_cons_zero, Act.put, List.setIfInBounds_toArray, List.set_cons_zero, List.set_cons_succ]
          have HR := HRm.out u7
          generalize u7.alloc (.cells #[.string Tn] 9) = u9 at *
          generalize u7.heap.size = rg at *
          refine wpAnyH_ready (rs := [14]) (by kernel_rfl) (by simp) (AllReadyH.cons (by simp only [List.getElem?_toArray, List.getElem?_cons_succ, List.getElem?_cons_zero]; rfl) (fun K hK => ?_) AllReadyH.nil)
          refine step_plain rfl ?_
          refine wp_append_mo (.tmp 48) (.tmp 57) rfl HM (.slice (some ⟨rg, 0, none⟩) 1 1) [tornL x] (L.take i ++ [tornL x]) (i + 1) rfl rfl HR (Or.inl ⟨_, _, _, _, rfl⟩) rfl hlen1.out (by omega) ?_
          intro ya yc u10 _ HM
          have HX : Ts w [(.slice (some ⟨lb, lo, none⟩) C lc, L)] u10 := HM.all.drop
          refine hK.out _ _ HX (fun _ => ?_)
          clear hK K
          try simp only [List.getElem_toArray, List.getElem_cons_succ, List.getElem_cons_zero, Act.put, List.setIfInBounds_toArray, List.set_cons_zero, List.set_cons_succ]
          refine wpAnyH_take (i := 15) (v := .slice ya (i + 1) yc) rfl (by kernel_rfl) (by kernel_rfl) (by kernel_rfl) (fun _ _ _ h => h) (Or.inl ⟨by rfl, by intro w _; go_simp⟩) HX ?_
          simp only [List.getElem_toArray, List.getElem_cons_succ, List.getElem_cons_zero, Act.put, List.setIfInBounds_toArray, List.set_cons_zero, List.set_cons_succ]
          refine wpAnyH_done (by kernel_rfl) ?_ _
          go_wp2_with fail
          go_meet
          exact ⟨ya, yc, _, rfl, HM⟩
        · refine step_plain rfl ?_
          have hcv := HCv.out _ _ HZ
          go_simp
          clear hcv
          refine hK.out _ _ HX (fun _ => ?_)
          clear hK K
          try simp only [List.getElem_toArray, List.getElem_cons_succ, List.getElem_cons_zero, Act.put, List.setIfInBounds_toArray, List.set_cons_zero, List.set_cons_succ]
          clear HZ
          refine wpAnyH_take (i := 12) (v := .string Tn) rfl (by kernel_rfl) (by kernel_rfl) (by kernel_rfl) (fun _ _ _ h => h) (Or.inl ⟨by rfl, by intro w _; go_simp; rw [HTo.out]⟩) HX ?_
          simp only [List.getElem_toArray, List.getElem_cons_succ, List.getElem_cons_zero, Act.put, List.setIfInBounds_toArray, List.set_cons_zero, List.set_cons_succ]
          refine wpAnyH_ready (rs := [4, 13]) (by kernel_rfl) (by simp) (AllReadyH.cons (by simp only [List.getElem?_toArray, List.getElem?_cons_succ, List.getElem?_cons_zero]; rfl) (fun K hK => ?_) (AllReadyH.cons (by simp only [List.getElem?_toArray, List.getElem?_cons_succ, List.getElem?_cons_zero]; rfl) (fun K hK => ?_) AllReadyH.nil))
          · refine step_plain rfl ?_
            refine wp_append_new (.tmp 44) (.tmp 47) rfl HM (.slice (some ⟨lb, lo, none⟩) i lc) (L.take i) i rfl rfl (HX.head.take i (by omega)) ⟨_, _, _, _, rfl⟩ hti.out (by omega) ?_
            intro xa xc u12 _ HM bb
            have HX : Ts w [(.slice (some ⟨lb, lo, none⟩) C lc, L)] u12 := HM.all.drop
            clear bb
            refine hK.out _ _ HX (fun _ => ?_)
            clear hK K
            try simp only [List.getElem_toArray, List.getElem_cons_succ, List.getElem_cons_zero, Act.put, List.setIfInBounds_toArray, List.set_cons_zero, List.set_cons_succ]
            refine wpAnyH_ready (rs := [13]) (by kernel_rfl) (by simp) (AllReadyH.cons (by simp only [List.getElem?_toArray, List.getElem?_cons_succ, List.getElem?_cons_zero]; rfl) (fun K hK => ?_) AllReadyH.nil)
            refine step_plain rfl ?_
            go_simp
            have HX := HX.alloc (.cells #[.string Tn] 9)
            have HM := HM.alloc (.cells #[.string Tn] 9)
            refine hK.out _ _ HX (fun _ => ?_)
            clear hK K
            try simp only [List.getElem_toArray, List.getElem_cons_succ, List.getElem_cons_zero, Act.put, List.setIfInBounds_toArray, List.set_cons_zero, List.set_cons_succ]
            have HR := HRm.out u12
            generalize u12.alloc (.cells #[.string Tn] 9) = u13 at *
            generalize u12.heap.size = rg at *
            refine wpAnyH_ready (rs := [14]) (by kernel_rfl) (by simp) (AllReadyH.cons (by simp only [List.getElem?_toArray, List.getElem?_cons_succ, List.getElem?_cons_zero]; rfl) (fun K hK => ?_) AllReadyH.nil)
            refine step_plain rfl ?_
            refine wp_append_mo (.tmp 48) (.tmp 57) rfl HM (.slice (some ⟨rg, 0, none⟩) 1 1) [tornL x] (L.take i ++ [tornL x]) (i + 1) rfl rfl HR (Or.inl ⟨_, _, _, _, rfl⟩) rfl hlen1.out (by omega) ?_
            intro ya yc u14 _ HM
            have HX : Ts w [(.slice (some ⟨lb, lo, none⟩) C lc, L)] u14 := HM.all.drop
            refine hK.out _ _ HX (fun _ => ?_)
            clear hK K
            try simp only [List.getElem_toArray, List.getElem_cons_succ, List.getElem_cons_zero, Act.put, List.setIfInBounds_toArray, List.set_cons_zero, List.set_cons_succ]
            refine wpAnyH_take (i := 15) (v := .slice ya (i + 1) yc) rfl (by kernel_rfl) (by kernel_rfl) (by kernel_rfl) (fun _ _ _ h => h) (Or.inl ⟨by rfl, by intro w _; go_simp⟩) HX ?_
            simp only [List.getElem_toArray, List.getElem_cons_succ, List.getElem_cons_zero, Act.put, List.setIfInBounds_toArray, List.set_cons_zero, List.set_cons_succ]
            refine wpAnyH_done (by kernel_rfl) ?_ _
            go_wp2_with fail
            go_meet
            exact ⟨ya, yc, _, rfl, HM⟩
          · refine step_plain rfl ?_
            go_simp
            have HX := HX.alloc (.cells #[.string Tn] 9)
            have HM := HM.alloc (.cells #[.string Tn] 9)
            refine hK.out _ _ HX (fun _ => ?_)
            clear hK K
            try simp only [List.getElem_toArray, List.getElem_cons_succ, List.getElem_cons_zero, Act.put, List.setIfInBounds_toArray, List.set_cons_zero, List.set_cons_succ]
            have HR := HRm.out u6
            generalize u6.alloc (.cells #[.string Tn] 9) = u15 at *
            generalize u6.heap.size = rg at *
            refine wpAnyH_ready (rs := [4]) (by kernel_rfl) (by simp) (AllReadyH.cons (by simp only [List.getElem?_toArray, List.getElem?_cons_succ, List.getElem?_cons_zero]; rfl) (fun K hK => ?_) AllReadyH.nil)
            refine step_plain rfl ?_
            refine wp_append_new (.tmp 44) (.tmp 47) rfl HM (.slice (some ⟨lb, lo, none⟩) i lc) (L.take i) i rfl rfl (HX.head.take i (by omega)) ⟨_, _, _, _, rfl⟩ hti.out (by omega) ?_
            intro xa xc u16 _ HM bb
            have HX : Ts w [(.slice (some ⟨lb, lo, none⟩) C lc, L)] u16 := HM.all.drop
            have HR := HR.below bb
            clear bb
            refine hK.out _ _ HX (fun _ => ?_)
            clear hK K
            try simp only [List.getElem_toArray, List.getElem_cons_succ, List.getElem_cons_zero, Act.put, List.setIfInBounds_toArray, List.set_cons_zero, List.set_cons_succ]
            refine wpAnyH_ready (rs := [14]) (by kernel_rfl) (by simp) (AllReadyH.cons (by simp only [List.getElem?_toArray, List.getElem?_cons_succ, List.getElem?_cons_zero]; rfl) (fun K hK => ?_) AllReadyH.nil)
            refine step_plain rfl ?_
            refine wp_append_mo (.tmp 48) (.tmp 57) rfl HM (.slice (some ⟨rg, 0, none⟩) 1 1) [tornL x] (L.take i ++ [tornL x]) (i + 1) rfl rfl HR (Or.inl ⟨_, _, _, _, rfl⟩) rfl hlen1.out (by omega) ?_
            intro ya yc u17 _ HM
            have HX : Ts w [(.slice (some ⟨lb, lo, none⟩) C lc, L)] u17 := HM.all.drop
            refine hK.out _ _ HX (fun _ => ?_)
            clear hK K
            try simp only [List.getElem_toArray, List.getElem_cons_succ, List.getElem_cons_zero, Act.put, List.setIfInBounds_toArray, List.set_cons_zero, List.set_cons_succ]
            refine wpAnyH_take (i := 15) (v := .slice ya (i + 1) yc) rfl (by kernel_rfl) (by kernel_rfl) (by kernel_rfl) (fun _ _ _ h => h) (Or.inl ⟨by rfl, by intro w _; go_simp⟩) HX ?_
            simp only [List.getElem_toArray, List.getElem_cons_succ, List.getElem_cons_zero, Act.put, List.setIfInBounds_toArray, List.set_cons_zero, List.set_cons_succ]
            refine wpAnyH_done (by kernel_rfl) ?_ _
            go_wp2_with fail
            go_meet
            exact ⟨ya, yc, _, rfl, HM⟩
    case rest =>
      obtain ⟨ya, yc, B, rfl, HM⟩ := hcut
      generalize wc = w8 at *
      have hN : TextsAt w8 (.slice (some ⟨lb, lo, none⟩) C lc) L := HM.all.drop.head
      have hN2 := hN.rest (i + 1) (by omega) hcap
      go_wp2_with (first
        | (refine wpList_append_mo rfl (.tmp 59) (.tmp 63) rfl HM (.slice (if lc = i + 1 then some ⟨lb, lo, none⟩ else some ⟨lb, lo + (i + 1), none⟩) (C - (i + 1)) (lc - (i + 1))) (L.drop (i + 1)) _ C rfl rfl hN2 (Or.inl rest_some) rfl hlenR.out (by omega) ?_; intro za zc w9 _ HM9; have HTs : Hid _ := HM9.all; clear HM9 hN hN2)
        | fail)
      all_goals
        clear HM
        refine (HJ.out _ _ _ _ HTs.out (by rw [hlenR.out]; omega) hbad.out).mono ?_
        rintro r wj ⟨rfl, ht⟩
        have HTj : Hid _ := ht
        clear ht
        go_wp2_with fail
        refine (HDo.out _ HTj.out.tab HTj.out.tab4).mono ?_
        rintro r wk ⟨rfl, hb⟩
        have HF : Hid _ := (HTj.out.next hb).below
        clear hb
        go_wp2
        go_ret
        exact ⟨rfl, HF.out⟩
  · have hz4 : (nz : Int) % 4 = 1 := by omega
    clear hzc
    by_cases hlast : i + 1 = C
    · have hl1 : ((i : Int) == (C : Int) - 1) = true := by simp; omega
      clear hlast
      go_wp2_with fail
      refine (HDo.out _ HT.out.tab HT.out.tab4).mono ?_
      rintro r wk ⟨rfl, hb⟩
      have HF : Hid _ := (HT.out.next hb).below
      clear hb
      go_wp2
      go_ret
      exact ⟨rfl, HF.out⟩
    · have hl1 : ((i : Int) == (C : Int) - 1) = false := by simp; omega
      have hbad : Hid (joinB (L.take i ++ L.drop (i + 1)) 68 7 = false) := HS1.out i (by omega)
      have hlenR : Hid ((L.take i ++ L.drop (i + 1)).length = C - 1) := by
        show _ = _
        rw [List.length_append, hti.out, List.length_drop, HLL.out]; omega
      go_upto_region 15 with fail
      refine wp_region_held (S := Ts w [(.slice (some ⟨lb, lo, none⟩) C lc, L)]) (by kernel_rfl) ?_
      change wpAnyH _ _ _ _ _ _ _ _ (World.drew _)
      have HX := HT.out.drew
      generalize World.drew _ = w3 at *
      have HM : Mo w w3.heap.size [(.slice (some ⟨lb, lo, none⟩) C lc, L)] (.slice none 0 0) [] w3 := Mo.start HX
      refine wpAnyH_take (i := 0) (v := .slice none 0 0) rfl (by kernel_rfl) (by kernel_rfl) (by kernel_rfl) (fun _ _ _ h => h) (Or.inl ⟨by rfl, by intro w _; go_simp⟩) HX ?_
      simp only [List.getElem_toArray, List.getElem_cons_succ, List.getElem_cons_zero, Act.put, List.setIfInBounds_toArray, List.set_cons_zero, List.set_cons_succ]
      refine wpAnyH_take (i := 1) (v := .slice (some ⟨lb, lo, none⟩) C lc) rfl (by kernel_rfl) (by kernel_rfl) (by kernel_rfl) (fun _ _ _ h => h) (Or.inl ⟨by rfl, by intro w _; go_simp⟩) HX ?_
      simp only [List.getElem_toArray, List.getElem_cons_succ, List.getElem_cons_zero, Act.put, List.setIfInBounds_toArray, List.set_cons_zero, List.set_cons_succ]
      refine wpAnyH_take (i := 2) (v := .int .i64 i) rfl (by kernel_rfl) (by kernel_rfl) (by kernel_rfl) (fun _ _ _ h => h) (Or.inl ⟨by rfl, by intro w _; go_simp⟩) HX ?_
      simp only [List.getElem_toArray, List.getElem_cons_succ, List.getElem_cons_zero, Act.put, List.setIfInBounds_toArray, List.set_cons_zero, List.set_cons_succ]
      refine wpAnyH_take (i := 3) (v := .slice (some ⟨lb, lo, none⟩) i lc) rfl (by kernel_rfl) (by kernel_rfl) (by kernel_rfl) (fun _ _ _ h => h) (Or.inl ⟨by rfl, by intro w _; go_simp⟩) HX ?_
      simp only [List.getElem_toArray, List.getElem_cons_succ, List.getElem_cons_zero, Act.put, List.setIfInBounds_toArray, List.set_cons_zero, List.set_cons_succ]
      refine wpAnyH_take (i := 5) (v := .slice (some ⟨lb, lo, none⟩) C lc) rfl (by kernel_rfl) (by kernel_rfl) (by kernel_rfl) (fun _ _ _ h => h) (Or.inl ⟨by rfl, by intro w _; go_simp⟩) HX ?_
      simp only [List.getElem_toArray, List.getElem_cons_succ, List.getElem_cons_zero, Act.put, List.setIfInBounds_toArray, List.set_cons_zero, List.set_cons_succ]
      refine wpAnyH_take (i := 6) (v := .int .i64 i) rfl (by kernel_rfl) (by kernel_rfl) (by kernel_rfl) (fun _ _ _ h => h) (Or.inl ⟨by rfl, by intro w _; go_simp⟩) HX ?_
      simp only [List.getElem_toArray, List.getElem_cons_succ, List.getElem_cons_zero, Act.put, List.setIfInBounds_toArray, List.set_cons_zero, List.set_cons_succ]
      refine wpAnyH_take (i := 7) (v := .int .i64 ((i : Int) + 1)) rfl (by kernel_rfl) (by kernel_rfl) (by kernel_rfl) (fun _ _ _ h => h) (Or.inl ⟨by rfl, by intro w _; go_simp⟩) HX ?_
      simp only [List.getElem_toArray, List.getElem_cons_succ, List.getElem_cons_zero, Act.put, List.setIfInBounds_toArray, List.set_cons_zero, List.set_cons_succ]
      refine wpAnyH_take (i := 8) (v := .slice (if lc = i + 1 then some ⟨lb, lo, none⟩ else some ⟨lb, lo + (i + 1), none⟩) (C - (i + 1)) (lc - (i + 1))) rfl (by kernel_rfl) (by kernel_rfl) (by kernel_rfl) (fun _ _ _ h => h) (Or.inl ⟨by rfl, by intro w _; go_simp⟩) HX ?_
      simp only [List.getElem_toArray, List.getElem_cons_succ, List.getElem_cons_zero, Act.put, List.setIfInBounds_toArray, List.set_cons_zero, List.set_cons_succ]
      refine wpAnyH_ready (rs := [4]) (by kernel_rfl) (by simp) (AllReadyH.cons (by simp only [List.getElem?_toArray, List.getElem?_cons_succ, List.getElem?_cons_zero]; rfl) (fun K hK => ?_) AllReadyH.nil)
      refine step_plain rfl ?_
      refine wp_append_new (.tmp 73) (.tmp 76) rfl HM (.slice (some ⟨lb, lo, none⟩) i lc) (L.take i) (i) rfl rfl (HX.head.take i (by omega)) ⟨_, _, _, _, rfl⟩ hti.out (by omega) ?_
      intro xa xc w5 _ HM bb
      have HX : Ts w [(.slice (some ⟨lb, lo, none⟩) C lc, L)] w5 := HM.all.drop
      clear bb
      refine hK.out _ _ HX (fun _ => ?_)
      clear hK K
      try simp only [List.getElem_toArray, List.getElem_cons_succ, List.getElem_cons_zero, Act.put, List.setIfInBounds_toArray, List.set_cons_zero, List.set_cons_succ]
      refine wpAnyH_ready (rs := [9]) (by kernel_rfl) (by simp) (AllReadyH.cons (by simp only [List.getElem?_toArray, List.getElem?_cons_succ, List.getElem?_cons_zero]; rfl) (fun K hK => ?_) AllReadyH.nil)
      refine step_plain rfl ?_
      refine wp_append_mo (.tmp 77) (.tmp 81) rfl HM (.slice (if lc = i + 1 then some ⟨lb, lo, none⟩ else some ⟨lb, lo + (i + 1), none⟩) (C - (i + 1)) (lc - (i + 1))) (L.drop (i + 1)) (L.take i ++ L.drop (i + 1)) (C - 1) rfl rfl (HX.head.rest (i + 1) (by omega) hcap) (Or.inl rest_some) rfl hlenR.out (by omega) ?_
      intro ya yc w6 _ HM
      have HX : Ts w [(.slice (some ⟨lb, lo, none⟩) C lc, L)] w6 := HM.all.drop
      refine hK.out _ _ HX (fun _ => ?_)
      clear hK K
      try simp only [List.getElem_toArray, List.getElem_cons_succ, List.getElem_cons_zero, Act.put, List.setIfInBounds_toArray, List.set_cons_zero, List.set_cons_succ]
      refine wpAnyH_take (i := 10) (v := .slice ya (C - 1) yc) rfl (by kernel_rfl) (by kernel_rfl) (by kernel_rfl) (fun _ _ _ h => h) (Or.inl ⟨by rfl, by intro w _; go_simp⟩) HX ?_
      simp only [List.getElem_toArray, List.getElem_cons_succ, List.getElem_cons_zero, Act.put, List.setIfInBounds_toArray, List.set_cons_zero, List.set_cons_succ]
      refine wpAnyH_done (by kernel_rfl) ?_ _
      have HTs : Hid _ := HM.all
      go_wp2_with fail
      clear HM
      refine (HJ.out _ _ _ _ HTs.out (by rw [hlenR.out]; omega) hbad.out).mono ?_
      rintro r wj ⟨rfl, ht⟩
      have HTj : Hid _ := ht
      clear ht
      go_wp2_with fail
      refine (HDo.out _ HTj.out.tab HTj.out.tab4).mono ?_
      rintro r wk ⟨rfl, hb⟩
      have HF : Hid _ := (HTj.out.next hb).below
      clear hb
      go_wp2
      go_ret
      exact ⟨rfl, HF.out⟩
  · have hz4 : (nz : Int) % 4 = 2 := by omega
    clear hzc
    have hbad : Hid (joinB (L.take (i + 1) ++ L.drop i) 68 7 = false) := HS2.out i hiC
    have hlenR : Hid ((L.take (i + 1) ++ L.drop i).length = C + 1) := by
      show _ = _
      rw [List.length_append, hti1.out, List.length_drop, HLL.out]; omega
    have hne : ¬ lc = i := by omega
    go_upto_region 17 with fail
    refine wp_region_held (S := Ts w [(.slice (some ⟨lb, lo, none⟩) C lc, L)]) (by kernel_rfl) ?_
    change wpAnyH _ _ _ _ _ _ _ _ (World.drew _)
    have HX := HT.out.drew
    generalize World.drew _ = w3 at *
    have HM : Mo w w3.heap.size [(.slice (some ⟨lb, lo, none⟩) C lc, L)] (.slice none 0 0) [] w3 := Mo.start HX
    refine wpAnyH_take (i := 0) (v := .slice none 0 0) rfl (by kernel_rfl) (by kernel_rfl) (by kernel_rfl) (fun _ _ _ h => h) (Or.inl ⟨by rfl, by intro w _; go_simp⟩) HX ?_
    simp only [List.getElem_toArray, List.getElem_cons_succ, List.getElem_cons_zero, Act.put, List.setIfInBounds_toArray, List.set_cons_zero, List.set_cons_succ]
    refine wpAnyH_take (i := 1) (v := .slice (some ⟨lb, lo, none⟩) C lc) rfl (by kernel_rfl) (by kernel_rfl) (by kernel_rfl) (fun _ _ _ h => h) (Or.inl ⟨by rfl, by intro w _; go_simp⟩) HX ?_
    simp only [List.getElem_toArray, List.getElem_cons_succ, List.getElem_cons_zero, Act.put, List.setIfInBounds_toArray, List.set_cons_zero, List.set_cons_succ]
    refine wpAnyH_take (i := 2) (v := .int .i64 i) rfl (by kernel_rfl) (by kernel_rfl) (by kernel_rfl) (fun _ _ _ h => h) (Or.inl ⟨by rfl, by intro w _; go_simp⟩) HX ?_
    simp only [List.getElem_toArray, List.getElem_cons_succ, List.getElem_cons_zero, Act.put, List.setIfInBounds_toArray, List.set_cons_zero, List.set_cons_succ]
    refine wpAnyH_take (i := 3) (v := .int .i64 ((i : Int) + 1)) rfl (by kernel_rfl) (by kernel_rfl) (by kernel_rfl) (fun _ _ _ h => h) (Or.inl ⟨by rfl, by intro w _; go_simp⟩) HX ?_
    simp only [List.getElem_toArray, List.getElem_cons_succ, List.getElem_cons_zero, Act.put, List.setIfInBounds_toArray, List.set_cons_zero, List.set_cons_succ]
    refine wpAnyH_take (i := 4) (v := .slice (some ⟨lb, lo, none⟩) (i + 1) lc) rfl (by kernel_rfl) (by kernel_rfl) (by kernel_rfl) (fun _ _ _ h => h) (Or.inl ⟨by rfl, by intro w _; go_simp⟩) HX ?_
    simp only [List.getElem_toArray, List.getElem_cons_succ, List.getElem_cons_zero, Act.put, List.setIfInBounds_toArray, List.set_cons_zero, List.set_cons_succ]
    refine wpAnyH_take (i := 6) (v := .slice (some ⟨lb, lo, none⟩) C lc) rfl (by kernel_rfl) (by kernel_rfl) (by kernel_rfl) (fun _ _ _ h => h) (Or.inl ⟨by rfl, by intro w _; go_simp⟩) HX ?_
    simp only [List.getElem_toArray, List.getElem_cons_succ, List.getElem_cons_zero, Act.put, List.setIfInBounds_toArray, List.set_cons_zero, List.set_cons_succ]
    refine wpAnyH_take (i := 7) (v := .int .i64 i) rfl (by kernel_rfl) (by kernel_rfl) (by kernel_rfl) (fun _ _ _ h => h) (Or.inl ⟨by rfl, by intro w _; go_simp⟩) HX ?_
    simp only [List.getElem_toArray, List.getElem_cons_succ, List.getElem_cons_zero, Act.put, List.setIfInBounds_toArray, List.set_cons_zero, List.set_cons_succ]
    refine wpAnyH_take (i := 8) (v := .slice (some ⟨lb, lo + i, none⟩) (C - i) (lc - i)) rfl (by kernel_rfl) (by kernel_rfl) (by kernel_rfl) (fun _ _ _ h => h) (Or.inl ⟨by rfl, by intro w _; go_simp⟩) HX ?_
    simp only [List.getElem_toArray, List.getElem_cons_succ, List.getElem_cons_zero, Act.put, List.setIfInBounds_toArray, List.set_cons_zero, List.set_cons_succ]
    refine wpAnyH_ready (rs := [5]) (by kernel_rfl) (by simp) (AllReadyH.cons (by simp only [List.getElem?_toArray, List.getElem?_cons_succ, List.getElem?_cons_zero]; rfl) (fun K hK => ?_) AllReadyH.nil)
    refine step_plain rfl ?_
    refine wp_append_new (.tmp 85) (.tmp 89) rfl HM (.slice (some ⟨lb, lo, none⟩) (i + 1) lc) (L.take (i + 1)) (i + 1) rfl rfl (HX.head.take (i + 1) (by omega)) ⟨_, _, _, _, rfl⟩ hti1.out (by omega) ?_
    intro xa xc w5 _ HM bb
    have HX : Ts w [(.slice (some ⟨lb, lo, none⟩) C lc, L)] w5 := HM.all.drop
    clear bb
    refine hK.out _ _ HX (fun _ => ?_)
    clear hK K
    try simp only [List.getElem_toArray, List.getElem_cons_succ, List.getElem_cons_zero, Act.put, List.setIfInBounds_toArray, List.set_cons_zero, List.set_cons_succ]
    refine wpAnyH_ready (rs := [9]) (by kernel_rfl) (by simp) (AllReadyH.cons (by simp only [List.getElem?_toArray, List.getElem?_cons_succ, List.getElem?_cons_zero]; rfl) (fun K hK => ?_) AllReadyH.nil)
    refine step_plain rfl ?_
    refine wp_append_mo (.tmp 90) (.tmp 93) rfl HM (.slice (some ⟨lb, lo + i, none⟩) (C - i) (lc - i)) (L.drop i) (L.take (i + 1) ++ L.drop i) (C + 1) rfl rfl (by have := HX.head.rest i (by omega) hcap; rwa [if_neg hne] at this) (Or.inl ⟨_, _, _, _, rfl⟩) rfl hlenR.out (by omega) ?_
    intro ya yc w6 _ HM
    have HX : Ts w [(.slice (some ⟨lb, lo, none⟩) C lc, L)] w6 := HM.all.drop
    refine hK.out _ _ HX (fun _ => ?_)
    clear hK K
    try simp only [List.getElem_toArray, List.getElem_cons_succ, List.getElem_cons_zero, Act.put, List.setIfInBounds_toArray, List.set_cons_zero, List.set_cons_succ]
    refine wpAnyH_take (i := 10) (v := .slice ya (C + 1) yc) rfl (by kernel_rfl) (by kernel_rfl) (by kernel_rfl) (fun _ _ _ h => h) (Or.inl ⟨by rfl, by intro w _; go_simp⟩) HX ?_
    simp only [List.getElem_toArray, List.getElem_cons_succ, List.getElem_cons_zero, Act.put, List.setIfInBounds_toArray, List.set_cons_zero, List.set_cons_succ]
    refine wpAnyH_done (by kernel_rfl) ?_ _
    have HTs : Hid _ := HM.all
    go_wp2_with fail
    clear HM
    refine (HJ.out _ _ _ _ HTs.out (by rw [hlenR.out]; omega) hbad.out).mono ?_
    rintro r wj ⟨rfl, ht⟩
    have HTj : Hid _ := ht
    clear ht
    go_wp2_with fail
    refine (HDo.out _ HTj.out.tab HTj.out.tab4).mono ?_
    rintro r wk ⟨rfl, hb⟩
    have HF : Hid _ := (HTj.out.next hb).below
    clear hb
    go_wp2
    go_ret
    exact ⟨rfl, HF.out⟩
  · have hz4 : (nz : Int) % 4 = 3 := by omega
    clear hzc
    by_cases hij : i = j
    · have hl1 : ((i : Int) == (j : Int)) = true := by simp; omega
      clear hij
      go_wp2_with fail
      refine (HDo.out _ HT.out.tab HT.out.tab4).mono ?_
      rintro r wk ⟨rfl, hb⟩
      have HF : Hid _ := (HT.out.next hb).below
      clear hb
      go_wp2
      go_ret
      exact ⟨rfl, HF.out⟩
    · have hl1 : ((i : Int) == (j : Int)) = false := by simp; omega
      have hbad : Hid (joinB ((L.set i (encL (frP 68 7 d j))).set j (encL (frP 68 7 d i))) 68 7 = false) := HS3.out i j hiC hjC hij
      have hLi : Hid (L[i]? = some (encL (frP 68 7 d i))) := HGet.out i hiC
      have hLj : Hid (L[j]? = some (encL (frP 68 7 d j))) := HGet.out j hjC
      clear HGet HLn HS0 HS1 HS2 HS3
      generalize encL (frP 68 7 d i) = x at *
      generalize encL (frP 68 7 d j) = y at *
      have hlenR : Hid (((L.set i y).set j x).length = C) := by show _ = _; simp; exact HLL.out
      have HM : Mo w w2.heap.size [(.slice (some ⟨lb, lo, none⟩) C lc, L)] (.slice none 0 0) [] w2 := Mo.start HT.out
      have hN : TextsAt w2 (.slice (some ⟨lb, lo, none⟩) C lc) L := HT.out.head
      go_wp2_with (first
        | (refine wpList_append_mo rfl (.tmp 101) (.tmp 102) rfl HM (.slice (some ⟨lb, lo, none⟩) C lc) L L C rfl rfl hN (Or.inl ⟨_, _, _, _, rfl⟩) rfl HLL.out (by omega) ?_; intro ya yc w4 hyc HM4; obtain ⟨g, rfl⟩ := HM4.addr hpos; clear HM hN)
        | fail)
      go_upto_region 22 with fail
      refine wp_region_held (S := Ts w [(.slice (some ⟨lb, lo, none⟩) C lc, L)]) (by kernel_rfl) ?_
      change wpAnyH _ _ _ _ _ _ _ _ (World.drew _)
      have HM := HM4.drew
      clear HM4
      generalize World.drew _ = w5 at *
      have HX : Ts w [(.slice (some ⟨lb, lo, none⟩) C lc, L)] w5 := HM.all.drop
      have ci := HM.cell i x hLi.out
      have cj := HM.cell j y hLj.out
      have hne : ¬ i = j := hij
      have hne2 : ¬ j = i := fun h => hij h.symm
      refine wpAnyH_take (i := 0) (v := .slice (some ⟨g, 0, none⟩) C yc) rfl (by kernel_rfl) (by kernel_rfl) (by kernel_rfl) (fun _ _ _ h => h) (Or.inl ⟨by rfl, by intro w _; go_simp⟩) HX ?_
      simp only [List.getElem_toArray, List.getElem_cons_succ, List.getElem_cons_zero, Act.put, List.setIfInBounds_toArray, List.set_cons_zero, List.set_cons_succ]
      refine wpAnyH_take (i := 1) (v := .int .i64 i) rfl (by kernel_rfl) (by kernel_rfl) (by kernel_rfl) (fun _ _ _ h => h) (Or.inl ⟨by rfl, by intro w _; go_simp⟩) HX ?_
      simp only [List.getElem_toArray, List.getElem_cons_succ, List.getElem_cons_zero, Act.put, List.setIfInBounds_toArray, List.set_cons_zero, List.set_cons_succ]
      refine wpAnyH_take (i := 2) (v := .slice (some ⟨g, 0, none⟩) C yc) rfl (by kernel_rfl) (by kernel_rfl) (by kernel_rfl) (fun _ _ _ h => h) (Or.inl ⟨by rfl, by intro w _; go_simp⟩) HX ?_
      simp only [List.getElem_toArray, List.getElem_cons_succ, List.getElem_cons_zero, Act.put, List.setIfInBounds_toArray, List.set_cons_zero, List.set_cons_succ]
      refine wpAnyH_take (i := 3) (v := .int .i64 j) rfl (by kernel_rfl) (by kernel_rfl) (by kernel_rfl) (fun _ _ _ h => h) (Or.inl ⟨by rfl, by intro w _; go_simp⟩) HX ?_
      simp only [List.getElem_toArray, List.getElem_cons_succ, List.getElem_cons_zero, Act.put, List.setIfInBounds_toArray, List.set_cons_zero, List.set_cons_succ]
      refine wpAnyH_take (i := 4) (v := .slice (some ⟨g, 0, none⟩) C yc) rfl (by kernel_rfl) (by kernel_rfl) (by kernel_rfl) (fun _ _ _ h => h) (Or.inl ⟨by rfl, by intro w _; go_simp⟩) HX ?_
      simp only [List.getElem_toArray, List.getElem_cons_succ, List.getElem_cons_zero, Act.put, List.setIfInBounds_toArray, List.set_cons_zero, List.set_cons_succ]
      refine wpAnyH_take (i := 5) (v := .int .i64 j) rfl (by kernel_rfl) (by kernel_rfl) (by kernel_rfl) (fun _ _ _ h => h) (Or.inl ⟨by rfl, by intro w _; go_simp⟩) HX ?_
      simp only [List.getElem_toArray, List.getElem_cons_succ, List.getElem_cons_zero, Act.put, List.setIfInBounds_toArray, List.set_cons_zero, List.set_cons_succ]
      refine wpAnyH_take (i := 6) (v := .pointer (some ⟨g, j, none⟩)) rfl (by kernel_rfl) (by kernel_rfl) (by kernel_rfl) (fun _ _ _ h => h) (Or.inl ⟨by rfl, by intro w _; go_simp⟩) HX ?_
      simp only [List.getElem_toArray, List.getElem_cons_succ, List.getElem_cons_zero, Act.put, List.setIfInBounds_toArray, List.set_cons_zero, List.set_cons_succ]
      refine wpAnyH_take (i := 8) (v := .slice (some ⟨g, 0, none⟩) C yc) rfl (by kernel_rfl) (by kernel_rfl) (by kernel_rfl) (fun _ _ _ h => h) (Or.inl ⟨by rfl, by intro w _; go_simp⟩) HX ?_
      simp only [List.getElem_toArray, List.getElem_cons_succ, List.getElem_cons_zero, Act.put, List.setIfInBounds_toArray, List.set_cons_zero, List.set_cons_succ]
      refine wpAnyH_take (i := 9) (v := .int .i64 i) rfl (by kernel_rfl) (by kernel_rfl) (by kernel_rfl) (fun _ _ _ h => h) (Or.inl ⟨by rfl, by intro w _; go_simp⟩) HX ?_
      simp only [List.getElem_toArray, List.getElem_cons_succ, List.getElem_cons_zero, Act.put, List.setIfInBounds_toArray, List.set_cons_zero, List.set_cons_succ]
      refine wpAnyH_take (i := 10) (v := .pointer (some ⟨g, i, none⟩)) rfl (by kernel_rfl) (by kernel_rfl) (by kernel_rfl) (fun _ _ _ h => h) (Or.inl ⟨by rfl, by intro w _; go_simp⟩) HX ?_
      simp only [List.getElem_toArray, List.getElem_cons_succ, List.getElem_cons_zero, Act.put, List.setIfInBounds_toArray, List.set_cons_zero, List.set_cons_succ]
      refine wpAnyH_ready (rs := [7, 11]) (by kernel_rfl) (by simp) (AllReadyH.cons (by simp only [List.getElem?_toArray, List.getElem?_cons_succ, List.getElem?_cons_zero]; rfl) (fun K hK => ?_) (AllReadyH.cons (by simp only [List.getElem?_toArray, List.getElem?_cons_succ, List.getElem?_cons_zero]; rfl) (fun K hK => ?_) AllReadyH.nil))
      · refine step_plain rfl ?_
        go_simp
        refine hK.out _ _ HX (fun _ => ?_)
        clear hK K
        try simp only [List.getElem_toArray, List.getElem_cons_succ, List.getElem_cons_zero, Act.put, List.setIfInBounds_toArray, List.set_cons_zero, List.set_cons_succ]
        refine wpAnyH_ready (rs := [11]) (by kernel_rfl) (by simp) (AllReadyH.cons (by simp only [List.getElem?_toArray, List.getElem?_cons_succ, List.getElem?_cons_zero]; rfl) (fun K hK => ?_) AllReadyH.nil)
        refine step_plain rfl ?_
        go_simp
        refine hK.out _ _ HX (fun _ => ?_)
        clear hK K
        try simp only [List.getElem_toArray, List.getElem_cons_succ, List.getElem_cons_zero, Act.put, List.setIfInBounds_toArray, List.set_cons_zero, List.set_cons_succ]
        refine wpAnyH_take (i := 12) (v := .pointer (some ⟨g, i, none⟩)) rfl (by kernel_rfl) (by kernel_rfl) (by kernel_rfl) (fun _ _ _ h => h) (Or.inl ⟨by rfl, by intro w _; go_simp⟩) HX ?_
        simp only [List.getElem_toArray, List.getElem_cons_succ, List.getElem_cons_zero, Act.put, List.setIfInBounds_toArray, List.set_cons_zero, List.set_cons_succ]
        obtain ⟨⟨v1, d1⟩, f1, HM1⟩ := HM.set i hiC y
        obtain ⟨⟨v2, d2⟩, f2, HM2⟩ := HM1.set j hjC x
        have HX1 : Ts w [(.slice (some ⟨lb, lo, none⟩) C lc, L)] _ := HM1.all.drop
        have HX2 : Ts w [(.slice (some ⟨lb, lo, none⟩) C lc, L)] _ := HM2.all.drop
        refine wpAnyH_ready (rs := [13]) (by kernel_rfl) (by simp) (AllReadyH.cons (by simp only [List.getElem?_toArray, List.getElem?_cons_succ, List.getElem?_cons_zero]; rfl) (fun K hK => ?_) AllReadyH.nil)
        refine step_plain rfl ?_
        go_simp
        refine hK.out _ _ HX1 (fun _ => ?_)
        clear hK K
        try simp only [List.getElem_toArray, List.getElem_cons_succ, List.getElem_cons_zero, Act.put, List.setIfInBounds_toArray, List.set_cons_zero, List.set_cons_succ]
        refine wpAnyH_take (i := 14) (v := .pointer (some ⟨g, j, none⟩)) rfl (by kernel_rfl) (by kernel_rfl) (by kernel_rfl) (fun _ _ _ h => h) (Or.inl ⟨by rfl, by intro w _; go_simp⟩) HX1 ?_
        simp only [List.getElem_toArray, List.getElem_cons_succ, List.getElem_cons_zero, Act.put, List.setIfInBounds_toArray, List.set_cons_zero, List.set_cons_succ]
        refine wpAnyH_ready (rs := [15]) (by kernel_rfl) (by simp) (AllReadyH.cons (by simp only [List.getElem?_toArray, List.getElem?_cons_succ, List.getElem?_cons_zero]; rfl) (fun K hK => ?_) AllReadyH.nil)
        refine step_plain rfl ?_
        go_simp
        refine hK.out _ _ HX2 (fun _ => ?_)
        clear hK K
        try simp only [List.getElem_toArray, List.getElem_cons_succ, List.getElem_cons_zero, Act.put, List.setIfInBounds_toArray, List.set_cons_zero, List.set_cons_succ]
        refine wpAnyH_done (by kernel_rfl) ?_ _
        have HTs : Hid _ := HM2.all
        clear HX1 HX2 HM1 HM2 d1 d2 f1 f2 ci cj
        go_wp2_with fail
        clear HM
        refine (HJ.out _ _ _ _ HTs.out (by rw [hlenR.out]; omega) hbad.out).mono ?_
        rintro r wj ⟨rfl, ht⟩
        have HTj : Hid _ := ht
        clear ht
        go_wp2_with fail
        refine (HDo.out _ HTj.out.tab HTj.out.tab4).mono ?_
        rintro r wk ⟨rfl, hb⟩
        have HF : Hid _ := (HTj.out.next hb).below
        clear hb
        go_wp2
        go_ret
        exact ⟨rfl, HF.out⟩
      · refine step_plain rfl ?_
        go_simp
        refine hK.out _ _ HX (fun _ => ?_)
        clear hK K
        try simp only [List.getElem_toArray, List.getElem_cons_succ, List.getElem_cons_zero, Act.put, List.setIfInBounds_toArray, List.set_cons_zero, List.set_cons_succ]
        refine wpAnyH_ready (rs := [7]) (by kernel_rfl) (by simp) (AllReadyH.cons (by simp only [List.getElem?_toArray, List.getElem?_cons_succ, List.getElem?_cons_zero]; rfl) (fun K hK => ?_) AllReadyH.nil)
        refine step_plain rfl ?_
        go_simp
        refine hK.out _ _ HX (fun _ => ?_)
        clear hK K
        try simp only [List.getElem_toArray, List.getElem_cons_succ, List.getElem_cons_zero, Act.put, List.setIfInBounds_toArray, List.set_cons_zero, List.set_cons_succ]
        refine wpAnyH_take (i := 12) (v := .pointer (some ⟨g, i, none⟩)) rfl (by kernel_rfl) (by kernel_rfl) (by kernel_rfl) (fun _ _ _ h => h) (Or.inl ⟨by rfl, by intro w _; go_simp⟩) HX ?_
        simp only [List.getElem_toArray, List.getElem_cons_succ, List.getElem_cons_zero, Act.put, List.setIfInBounds_toArray, List.set_cons_zero, List.set_cons_succ]
        obtain ⟨⟨v1, d1⟩, f1, HM1⟩ := HM.set i hiC y
        obtain ⟨⟨v2, d2⟩, f2, HM2⟩ := HM1.set j hjC x
        have HX1 : Ts w [(.slice (some ⟨lb, lo, none⟩) C lc, L)] _ := HM1.all.drop
        have HX2 : Ts w [(.slice (some ⟨lb, lo, none⟩) C lc, L)] _ := HM2.all.drop
        refine wpAnyH_ready (rs := [13]) (by kernel_rfl) (by simp) (AllReadyH.cons (by simp only [List.getElem?_toArray, List.getElem?_cons_succ, List.getElem?_cons_zero]; rfl) (fun K hK => ?_) AllReadyH.nil)
        refine step_plain rfl ?_
        go_simp
        refine hK.out _ _ HX1 (fun _ => ?_)
        clear hK K
        try simp only [List.getElem_toArray, List.getElem_cons_succ, List.getElem_cons_zero, Act.put, List.setIfInBounds_toArray, List.set_cons_zero, List.set_cons_succ]
        refine wpAnyH_take (i := 14) (v := .pointer (some ⟨g, j, none⟩)) rfl (by kernel_rfl) (by kernel_rfl) (by kernel_rfl) (fun _ _ _ h => h) (Or.inl ⟨by rfl, by intro w _; go_simp⟩) HX1 ?_
        simp only [List.getElem_toArray, List.getElem_cons_succ, List.getElem_cons_zero, Act.put, List.setIfInBounds_toArray, List.set_cons_zero, List.set_cons_succ]
        refine wpAnyH_ready (rs := [15]) (by kernel_rfl) (by simp) (AllReadyH.cons (by simp only [List.getElem?_toArray, List.getElem?_cons_succ, List.getElem?_cons_zero]; rfl) (fun K hK => ?_) AllReadyH.nil)
        refine step_plain rfl ?_
        go_simp
        refine hK.out _ _ HX2 (fun _ => ?_)
        clear hK K
        try simp only [List.getElem_toArray, List.getElem_cons_succ, List.getElem_cons_zero, Act.put, List.setIfInBounds_toArray, List.set_cons_zero, List.set_cons_succ]
        refine wpAnyH_done (by kernel_rfl) ?_ _
        have HTs : Hid _ := HM2.all
        clear HX1 HX2 HM1 HM2 d1 d2 f1 f2 ci cj
        go_wp2_with fail
        clear HM
        refine (HJ.out _ _ _ _ HTs.out (by rw [hlenR.out]; omega) hbad.out).mono ?_
        rintro r wj ⟨rfl, ht⟩
        have HTj : Hid _ := ht
        clear ht
        go_wp2_with fail
        refine (HDo.out _ HTj.out.tab HTj.out.tab4).mono ?_
        rintro r wk ⟨rfl, hb⟩
        have HF : Hid _ := (HTj.out.next hb).below
        clear hb
        go_wp2
        go_ret
        exact ⟨rfl, HF.out⟩
theorem packspoilt_int (d : List UInt8) (x y z : Int) (w : World) (hT : Tab w) (hT4 : Tab4 w) (hx : 0 ≤ x ∧ x ≤ 255) (hy : 0 ≤ y ∧ y ≤ 255) (hz : 0 ≤ z ∧ z ≤ 255) :
    Calls Tryd.prog 7 #[.string (S d), .agg #[.int .u8 x, .int .u8 y, .int .u8 z]] w fun e w' => e = .returned (.bool true) ∧ Below w.heap.size w w' := by
  obtain ⟨nx, rfl⟩ := Int.eq_ofNat_of_zero_le hx.1
  obtain ⟨ny, rfl⟩ := Int.eq_ofNat_of_zero_le hy.1
  obtain ⟨nz, rfl⟩ := Int.eq_ofNat_of_zero_le hz.1
  exact packspoilt_any d nx ny nz w hT hT4 (by omega) (by omega) (by omega)
end Go.Proofs.YtalofhnjlmgloaaDoor
