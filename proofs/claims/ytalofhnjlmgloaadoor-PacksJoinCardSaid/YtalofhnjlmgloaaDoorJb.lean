/- The document's own Encode. -/
import Derived.Test.YtalofhnjlmgloaaDoorJa0
import Derived.Deep.RegionHeld3
namespace Go.Proofs.YtalofhnjlmgloaaDoor
open Go.RowKit

/-- The first m parts of a text, each with its mark. -/
def markN (t : List UInt8) : Nat → List UInt8
  | 0 => []
  | m + 1 => markN t m ++ cut t (31 * m) 31 ++ [165]
theorem markN_length (t : List UInt8) (ht : t.length = 124) : ∀ m, m ≤ 4 → (markN t m).length = 32 * m
  | 0, _ => rfl
  | m + 1, h => by
    rw [markN, List.length_append, List.length_append, markN_length t ht m (by omega), cut_length t (31 * m) 31 (by omega)]
    simp; omega
theorem markN_all (t : List UInt8) : markN t 4 = markL t := by
  simp only [markN, markL, List.nil_append]
  simp [List.append_assoc]
theorem cv_one (k : Int) (b : UInt8) (hk : k = (b.toNat : Int)) (w : World) (g : Nat) (h : w.heap[g]? = some (.cells #[.int .u8 k] 5 (0, 0))) : (convert 44 9 (.slice (some ⟨g, 0, none⟩) 1 1)).run Tryd.prog w = .ok (.string (S [b])) w := by
  subst hk
  exact conv_row [b] w g 1 _ _ h
set_option maxRecDepth 100000 in
set_option maxHeartbeats 8000000 in
set_option linter.unusedSimpArgs false in
theorem rencode_ok (f : Fr) (w : World) (hT : Tab w) (hT4 : Tab4 w) (h : mayB f = true) (hl : f.d.length ≤ 112) :
    Calls Tryd.prog 22 #[frV f] w fun e w' => e = .returned (.tuple #[.string (S (markL (textL f))), .int .i64 0]) ∧ Below w.heap.size w w' := by
  obtain ⟨hk, he, hi⟩ := mayB_of h
  have htl := textL_length hl
  have HMk : Hid (S (markN (textL f) 4) = S (markL (textL f))) := by show _ = _; rw [markN_all]
  have HMl : Hid (∀ m, m ≤ 4 → (markN (textL f) m).length = 32 * m) := markN_length (textL f) htl
  have HMs : Hid (∀ m, S (markN (textL f) m) ++ S (cut (textL f) (31 * m) 31) ++ S [165] = S (markN (textL f) (m + 1))) := fun m => by rw [S_append, S_append]; rfl
  have HMc : Hid (∀ m, m < 4 → (S (cut (textL f) (31 * m) 31)).size = 31) := fun m hm => by rw [S_size, cut_length _ _ _ (by omega)]
  have HMx : Hid (∀ m, (S (textL f)).extract (31 * m) (31 * m + 31) = S (cut (textL f) (31 * m) 31)) := fun m => by rw [S_ext]; congr 2; omega
  have hTz : (S (textL f)).size = 124 := by rw [S_size, htl]
  obtain ⟨k, ep, i, d⟩ := f
  simp only at hk he hi hl
  obtain ⟨kb, hkb⟩ : ∃ kb : UInt8, k = (kb.toNat : Int) := ⟨UInt8.ofNat k.toNat, by
    have : (UInt8.ofNat k.toNat).toNat = k.toNat % 256 := by simp
    omega⟩
  have hP2 : Hid (∀ w : World, Calls Tryd.prog 31 #[.int .i64 ep, .int .i64 4] w fun e w' => e = .returned (.string (S (bytesOf ep 4))) ∧ Below w.heap.size w w') := fun w => by
    have := rput_any ep 4 w (by omega); rwa [putL_4 (by omega) (by omega)] at this
  have hP3 : Hid (∀ w : World, Calls Tryd.prog 31 #[.int .i64 i, .int .i64 2] w fun e w' => e = .returned (.string (S (bytesOf i 2))) ∧ Below w.heap.size w w') := fun w => by
    have := rput_any i 2 w (by omega); rwa [putL_2 (by omega) (by omega)] at this
  have hP4 : Hid (∀ w : World, Calls Tryd.prog 31 #[.int .i64 (d.length : Int), .int .i64 1] w fun e w' => e = .returned (.string (S (bytesOf d.length 1))) ∧ Below w.heap.size w w') := fun w => by
    have := rput_any d.length 1 w (by omega); rwa [putL_1 (by omega) (by omega)] at this
  have hP5 : Hid (∀ w : World, Calls Tryd.prog 31 #[.int .i64 (iw (sumF ⟨k, ep, i, d⟩)), .int .i64 4] w fun e' w' => e' = .returned (.string (S (bytesOf (iw (sumF ⟨k, ep, i, d⟩)) 4))) ∧ Below w.heap.size w w') := fun w => by
    have a0 := iw_nonneg (sumF ⟨k, ep, i, d⟩)
    have a1 := iw_lt (sumF ⟨k, ep, i, d⟩)
    have := rput_any (iw (sumF ⟨k, ep, i, d⟩)) 4 w (by omega); rwa [putL_4 (by omega) (by omega)] at this
  have hb1 : S [kb] = S (bytesOf k 1) := by
    congr 1
    simp only [bytesOf, List.nil_append]
    congr 1
    apply UInt8.toNat_inj.1
    have := by8_num k
    have := u8_lt kb
    omega
  have hH : Hid (S [kb] ++ S (bytesOf ep 4) ++ S (bytesOf i 2) ++ S (bytesOf d.length 1) = S (headL ⟨k, ep, i, d⟩)) := by
    show _ = _
    rw [hb1, S_append, S_append, S_append]; simp [headL, List.append_assoc]
  have hS1 : Hid (∀ w : World, Calls Tryd.prog 32 #[.string (S (headL ⟨k, ep, i, d⟩) ++ S d)] w fun e' w' => e' = .returned (.int .u32 (iw (sumF ⟨k, ep, i, d⟩))) ∧ w' = w) := fun w => by
    have := rsum_any (S (headL ⟨k, ep, i, d⟩) ++ S d) w (by rw [S_append, S_size, List.length_append, headL_length]; omega)
    rw [S_append, S_toList] at this
    rw [S_append]
    exact this
  have hE : Hid (S (headL ⟨k, ep, i, d⟩) ++ S (bytesOf (iw (sumF ⟨k, ep, i, d⟩)) 4) ++ S d ++ S (List.replicate (112 - d.length) 0) = S (textL ⟨k, ep, i, d⟩)) := by
    show _ = _
    rw [S_append, S_append, S_append]; simp [textL, List.append_assoc]
  have hcv1 : Hid (∀ (W : World) (g : Nat), W.heap[g]? = some (.cells #[.int .u8 k] 5 (0, 0)) → (convert 44 9 (.slice (some ⟨g, 0, none⟩) 1 1)).run Tryd.prog W = .ok (.string (S [kb])) W) := fun W g hg => cv_one k kb hkb W g hg
  have hcvm : ∀ W : World, (convert 44 9 (.slice (some ⟨W.heap.size, 0, none⟩) 1 1)).run Tryd.prog (W.alloc (.cells #[.int .u8 165] 5)) = .ok (.string (S [165])) (W.alloc (.cells #[.int .u8 165] 5)) := fun W => cv_one 165 165 rfl _ _ (heap_alloc_last _ _)
  have hmk : ∀ W : World, (Instr.makeSlice 44 (.int .i64 (124 - (12 + (d.length : Int)))) (.int .i64 (124 - (12 + (d.length : Int))))).run Tryd.prog W = .ok (.slice (some ⟨W.heap.size, 0, none⟩) (112 - d.length) (112 - d.length)) (W.alloc (.cells (hv (List.replicate (112 - d.length) 0)) 5)) := fun W => by
    rw [show (124 : Int) - (12 + (d.length : Int)) = ((112 - d.length : Nat) : Int) by omega]
    exact mkZ _ (by omega) W
  have hcv : ∀ W : World, (convert 44 9 (.slice (some ⟨W.heap.size, 0, none⟩) (112 - d.length) (112 - d.length))).run Tryd.prog (W.alloc (.cells (hv (List.replicate (112 - d.length) 0)) 5)) = .ok (.string (S (List.replicate (112 - d.length) 0))) (W.alloc (.cells (hv (List.replicate (112 - d.length) 0)) 5)) := fun W => cvZ _ _ _ (heap_alloc_last _ _)
  have z1 : (S [kb]).size = 1 := by simp
  have z2 : (S (bytesOf ep 4)).size = 4 := by simp
  have z3 : (S (bytesOf i 2)).size = 2 := by simp
  have z4 : (S (bytesOf d.length 1)).size = 1 := by simp
  have z5 : (S (bytesOf (iw (sumF ⟨k, ep, i, d⟩)) 4)).size = 4 := by simp
  have z6 : (S d).size = d.length := by simp
  have z7 : (S (List.replicate (112 - d.length) 0)).size = 112 - d.length := by simp
  have z8 : (S (headL ⟨k, ep, i, d⟩)).size = 8 := by rw [S_size, headL_length]
  have z9 : (S [165]).size = 1 := rfl
  have g0 := iw_nonneg (sumF ⟨k, ep, i, d⟩)
  have g1 := iw_lt (sumF ⟨k, ep, i, d⟩)
  have HX := TS.start (k := k) (e := ep) (i := i) (D := S d) (t := 39) hT hT4
  show Calls Tryd.prog 22 #[.agg #[.int .u8 k, .int .i64 ep, .int .i64 i, .string (S d)]] w _
  obtain ⟨T, hTT⟩ : ∃ T, textL ⟨k, ep, i, d⟩ = T := ⟨_, rfl⟩
  rw [hTT] at HMk HMl HMs HMc HMx hTz hE ⊢
  generalize iw (sumF ⟨k, ep, i, d⟩) = G at *
  generalize S (headL ⟨k, ep, i, d⟩) = H at *
  generalize S [kb] = A1 at *
  generalize S (bytesOf ep 4) = A2 at *
  generalize S (bytesOf i 2) = A3 at *
  generalize S (bytesOf d.length 1) = A4 at *
  generalize S (bytesOf G 4) = A5 at *
  generalize S (List.replicate (112 - d.length) 0) = A6 at *
  generalize hv (List.replicate (112 - d.length) 0) = C6 at *
  generalize S d = D at *
  clear htl hTT hb1 hkb h hT hT4
  generalize d.length = dn at *
  have q1 : ¬ ep < 1 := by omega
  have q2 : ¬ 1073741824 < ep := by omega
  have q3 : ¬ i < 0 := by omega
  have q4 : ¬ 65535 < i := by omega
  have q5 : ¬ (112 : Int) < (dn : Int) := by omega
  have y0 : 8 + dn ≤ 9223372036854775807 := by omega
  have y1 : 12 + dn ≤ 9223372036854775807 := by omega
  have wg : IntKind.i64.wrap G = G := by rw [IntKind.wrap_i64]; omega
  have Hk : Hid (k = 68 ∨ k = 80 ∨ k = 83) := hk
  have HB0 : Hid (Below w.heap.size w (w.alloc (.cells #[.int .u8 k, .int .i64 ep, .int .i64 i, .string D] 39))) := (Below.refl _ _).alloc (Nat.le_refl _) _
  clear hk
  go_enter Tryd.func22, Tryd.ntmps22
  go_upto_region 1 with fail
  go_cut [4] (fun c wx => c = .bool true ∧ wx = w.alloc (.cells #[.int .u8 k, .int .i64 ep, .int .i64 i, .string D] 39))
  case first =>
    rcases Hk.out with e | e | e
    · have n1 : (k == 68) = true := by simpa using e
      clear e
      go_wp2_with fail; go_meet; exact ⟨rfl, rfl⟩
    · have n1 : (k == 68) = false := by simp; omega
      have n2 : (k == 80) = true := by simpa using e
      clear e
      go_wp2_with fail; go_meet; exact ⟨rfl, rfl⟩
    · have n1 : (k == 68) = false := by simp; omega
      have n2 : (k == 80) = false := by simp; omega
      have n3 : (k == 83) = true := by simpa using e
      clear e
      go_wp2_with fail; go_meet; exact ⟨by first | rfl | rw [n3], rfl⟩
  case rest =>
    obtain ⟨rfl, rfl⟩ := hcut
    go_upto_region 6 with fail
    generalize w.alloc _ = W0 at *
    go_cut [5] (fun c wx => c = .string H ∧ TS w w.heap.size k ep i D wx)
    case first =>
      refine wp_region_held (S := fun w' => TS w w.heap.size k ep i D w') (by kernel_rfl) ?_
      change wpAnyH _ _ _ _ _ _ _ _ (World.drew _)
      have HX := HX.drew
      generalize World.drew _ = W1 at *
      refine wpAnyH_take (i := 0) (v := .pointer (some ⟨w.heap.size, 0, none⟩)) rfl (by kernel_rfl) (by kernel_rfl) (by kernel_rfl) (fun _ _ _ h => h) (Or.inl ⟨by first | rfl | kernel_rfl, by intro w _; go_simp⟩) HX ?_
      simp only [List.getElem_toArray, List.getElem_cons_succ, List.getElem_cons_zero, Act.put, List.setIfInBounds_toArray, List.set_cons_zero, List.set_cons_succ]
      refine wpAnyH_take (i := 1) (v := .int .u8 k) rfl (by kernel_rfl) (by kernel_rfl) (by kernel_rfl) (fun _ _ _ h => h) (Or.inl ⟨by first | rfl | kernel_rfl, by intro w hw; have c0 := TS.c0 hw; have c1 := TS.c1 hw; have c2 := TS.c2 hw; have c3 := TS.c3 hw; go_simp⟩) HX ?_
      simp only [List.getElem_toArray, List.getElem_cons_succ, List.getElem_cons_zero, Act.put, List.setIfInBounds_toArray, List.set_cons_zero, List.set_cons_succ]
      refine wpAnyH_take (i := 4) (v := .pointer (some ⟨w.heap.size, 1, none⟩)) rfl (by kernel_rfl) (by kernel_rfl) (by kernel_rfl) (fun _ _ _ h => h) (Or.inl ⟨by first | rfl | kernel_rfl, by intro w _; go_simp⟩) HX ?_
      simp only [List.getElem_toArray, List.getElem_cons_succ, List.getElem_cons_zero, Act.put, List.setIfInBounds_toArray, List.set_cons_zero, List.set_cons_succ]
      refine wpAnyH_take (i := 5) (v := .int .i64 ep) rfl (by kernel_rfl) (by kernel_rfl) (by kernel_rfl) (fun _ _ _ h => h) (Or.inl ⟨by first | rfl | kernel_rfl, by intro w hw; have c0 := TS.c0 hw; have c1 := TS.c1 hw; have c2 := TS.c2 hw; have c3 := TS.c3 hw; go_simp⟩) HX ?_
      simp only [List.getElem_toArray, List.getElem_cons_succ, List.getElem_cons_zero, Act.put, List.setIfInBounds_toArray, List.set_cons_zero, List.set_cons_succ]
      refine wpAnyH_take (i := 8) (v := .pointer (some ⟨w.heap.size, 2, none⟩)) rfl (by kernel_rfl) (by kernel_rfl) (by kernel_rfl) (fun _ _ _ h => h) (Or.inl ⟨by first | rfl | kernel_rfl, by intro w _; go_simp⟩) HX ?_
      simp only [List.getElem_toArray, List.getElem_cons_succ, List.getElem_cons_zero, Act.put, List.setIfInBounds_toArray, List.set_cons_zero, List.set_cons_succ]
      refine wpAnyH_take (i := 9) (v := .int .i64 i) rfl (by kernel_rfl) (by kernel_rfl) (by kernel_rfl) (fun _ _ _ h => h) (Or.inl ⟨by first | rfl | kernel_rfl, by intro w hw; have c0 := TS.c0 hw; have c1 := TS.c1 hw; have c2 := TS.c2 hw; have c3 := TS.c3 hw; go_simp⟩) HX ?_
      simp only [List.getElem_toArray, List.getElem_cons_succ, List.getElem_cons_zero, Act.put, List.setIfInBounds_toArray, List.set_cons_zero, List.set_cons_succ]
      refine wpAnyH_take (i := 12) (v := .pointer (some ⟨w.heap.size, 3, none⟩)) rfl (by kernel_rfl) (by kernel_rfl) (by kernel_rfl) (fun _ _ _ h => h) (Or.inl ⟨by first | rfl | kernel_rfl, by intro w _; go_simp⟩) HX ?_
      simp only [List.getElem_toArray, List.getElem_cons_succ, List.getElem_cons_zero, Act.put, List.setIfInBounds_toArray, List.set_cons_zero, List.set_cons_succ]
      refine wpAnyH_take (i := 13) (v := .string D) rfl (by kernel_rfl) (by kernel_rfl) (by kernel_rfl) (fun _ _ _ h => h) (Or.inl ⟨by first | rfl | kernel_rfl, by intro w hw; have c0 := TS.c0 hw; have c1 := TS.c1 hw; have c2 := TS.c2 hw; have c3 := TS.c3 hw; go_simp⟩) HX ?_
      simp only [List.getElem_toArray, List.getElem_cons_succ, List.getElem_cons_zero, Act.put, List.setIfInBounds_toArray, List.set_cons_zero, List.set_cons_succ]
      refine wpAnyH_take (i := 14) (v := .int .i64 dn) rfl (by kernel_rfl) (by kernel_rfl) (by kernel_rfl) (fun _ _ _ h => h) (Or.inl ⟨by first | rfl | kernel_rfl, by intro w _; go_simp⟩) HX ?_
      simp only [List.getElem_toArray, List.getElem_cons_succ, List.getElem_cons_zero, Act.put, List.setIfInBounds_toArray, List.set_cons_zero, List.set_cons_succ]
      refine wpAnyH_ready (rs := [2, 6]) (by kernel_rfl) (by simp) (AllReadyH.cons (by simp only [List.getElem?_toArray, List.getElem?_cons_succ, List.getElem?_cons_zero]; rfl) (fun K hK => ?_) (AllReadyH.cons (by simp only [List.getElem?_toArray, List.getElem?_cons_succ, List.getElem?_cons_zero]; rfl) (fun K hK => ?_) AllReadyH.nil))
      · refine step_want (by first | rfl | kernel_rfl) ?_
        go_simp
        have HX := HX.next ((Below.refl _ _).alloc (Nat.le_refl _) (.cells #[.int .u8 k] 5))
        refine hK.out _ _ HX (fun _ => ?_)
        clear hK K
        try simp only [List.getElem_toArray, List.getElem_cons_succ, List.getElem_cons_zero, Act.put, List.setIfInBounds_toArray, List.set_cons_zero, List.set_cons_succ]
        have HR := heap_alloc_last W1 (.cells #[.int .u8 k] 5)
        have hlt : W1.heap.size < (W1.alloc (.cells #[.int .u8 k] 5)).heap.size := by simp
        generalize W1.heap.size = gB at *
        generalize W1.alloc (.cells #[.int .u8 k] 5) = x1 at *
        refine wpAnyH_ready (rs := [3, 6]) (by kernel_rfl) (by simp) (AllReadyH.cons (by simp only [List.getElem?_toArray, List.getElem?_cons_succ, List.getElem?_cons_zero]; rfl) (fun K hK => ?_) (AllReadyH.cons (by simp only [List.getElem?_toArray, List.getElem?_cons_succ, List.getElem?_cons_zero]; rfl) (fun K hK => ?_) AllReadyH.nil))
        · have hcv0 := hcv1.out _ _ HR
          refine step_want (by first | rfl | kernel_rfl) ?_
          go_simp
          refine hK.out _ _ HX (fun _ => ?_)
          clear hK K
          try simp only [List.getElem_toArray, List.getElem_cons_succ, List.getElem_cons_zero, Act.put, List.setIfInBounds_toArray, List.set_cons_zero, List.set_cons_succ]
          refine wpAnyH_ready (rs := [6]) (by kernel_rfl) (by simp) (AllReadyH.cons (by simp only [List.getElem?_toArray, List.getElem?_cons_succ, List.getElem?_cons_zero]; rfl) (fun K hK => ?_) AllReadyH.nil)
          refine step_want (by first | rfl | kernel_rfl) ?_
          go_simp
          refine (hP2.out _).mono ?_
          rintro e' v2 ⟨rfl, bb⟩
          have HX := HX.next bb
          clear bb
          refine hK.out _ _ HX (fun _ => ?_)
          clear hK K
          try simp only [List.getElem_toArray, List.getElem_cons_succ, List.getElem_cons_zero, Act.put, List.setIfInBounds_toArray, List.set_cons_zero, List.set_cons_succ]
          refine wpAnyH_take (i := 7) (v := .string (A1 ++ A2)) rfl (by kernel_rfl) (by kernel_rfl) (by kernel_rfl) (fun _ _ _ h => h) (Or.inl ⟨by first | rfl | kernel_rfl, by intro w _; go_simp⟩) HX ?_
          simp only [List.getElem_toArray, List.getElem_cons_succ, List.getElem_cons_zero, Act.put, List.setIfInBounds_toArray, List.set_cons_zero, List.set_cons_succ]
          refine wpAnyH_ready (rs := [10]) (by kernel_rfl) (by simp) (AllReadyH.cons (by simp only [List.getElem?_toArray, List.getElem?_cons_succ, List.getElem?_cons_zero]; rfl) (fun K hK => ?_) AllReadyH.nil)
          refine step_want (by first | rfl | kernel_rfl) ?_
          go_simp
          refine (hP3.out _).mono ?_
          rintro e' v3 ⟨rfl, bb⟩
          have HX := HX.next bb
          clear bb
          refine hK.out _ _ HX (fun _ => ?_)
          clear hK K
          try simp only [List.getElem_toArray, List.getElem_cons_succ, List.getElem_cons_zero, Act.put, List.setIfInBounds_toArray, List.set_cons_zero, List.set_cons_succ]
          refine wpAnyH_take (i := 11) (v := .string (A1 ++ A2 ++ A3)) rfl (by kernel_rfl) (by kernel_rfl) (by kernel_rfl) (fun _ _ _ h => h) (Or.inl ⟨by first | rfl | kernel_rfl, by intro w _; go_simp⟩) HX ?_
          simp only [List.getElem_toArray, List.getElem_cons_succ, List.getElem_cons_zero, Act.put, List.setIfInBounds_toArray, List.set_cons_zero, List.set_cons_succ]
          refine wpAnyH_ready (rs := [15]) (by kernel_rfl) (by simp) (AllReadyH.cons (by simp only [List.getElem?_toArray, List.getElem?_cons_succ, List.getElem?_cons_zero]; rfl) (fun K hK => ?_) AllReadyH.nil)
          refine step_want (by first | rfl | kernel_rfl) ?_
          go_simp
          refine (hP4.out _).mono ?_
          rintro e' v4 ⟨rfl, bb⟩
          have HX := HX.next bb
          clear bb
          refine hK.out _ _ HX (fun _ => ?_)
          clear hK K
          try simp only [List.getElem_toArray, List.getElem_cons_succ, List.getElem_cons_zero, Act.put, List.setIfInBounds_toArray, List.set_cons_zero, List.set_cons_succ]
          refine wpAnyH_take (i := 16) (v := .string H) rfl (by kernel_rfl) (by kernel_rfl) (by kernel_rfl) (fun _ _ _ h => h) (Or.inl ⟨by first | rfl | kernel_rfl, by intro w _; go_simp; rw [hH.out]⟩) HX ?_
          simp only [List.getElem_toArray, List.getElem_cons_succ, List.getElem_cons_zero, Act.put, List.setIfInBounds_toArray, List.set_cons_zero, List.set_cons_succ]
          refine wpAnyH_take (i := 17) (v := .string H) rfl (by kernel_rfl) (by kernel_rfl) (by kernel_rfl) (fun _ _ _ h => h) (Or.inl ⟨by first | rfl | kernel_rfl, by intro w _; go_simp⟩) HX ?_
          simp only [List.getElem_toArray, List.getElem_cons_succ, List.getElem_cons_zero, Act.put, List.setIfInBounds_toArray, List.set_cons_zero, List.set_cons_succ]
          refine wpAnyH_done (by kernel_rfl) ?_ _
          go_wp2_with fail
          go_meet
          exact ⟨rfl, HX⟩
        · refine step_want (by first | rfl | kernel_rfl) ?_
          go_simp
          refine (hP2.out _).mono ?_
          rintro e' v5 ⟨rfl, bb⟩
          have HX := HX.next bb
          have HR := (bb.block gB hlt).trans HR
          have hlt := Nat.lt_of_lt_of_le hlt bb.size
          clear bb
          refine hK.out _ _ HX (fun _ => ?_)
          clear hK K
          try simp only [List.getElem_toArray, List.getElem_cons_succ, List.getElem_cons_zero, Act.put, List.setIfInBounds_toArray, List.set_cons_zero, List.set_cons_succ]
          refine wpAnyH_ready (rs := [3, 10]) (by kernel_rfl) (by simp) (AllReadyH.cons (by simp only [List.getElem?_toArray, List.getElem?_cons_succ, List.getElem?_cons_zero]; rfl) (fun K hK => ?_) (AllReadyH.cons (by simp only [List.getElem?_toArray, List.getElem?_cons_succ, List.getElem?_cons_zero]; rfl) (fun K hK => ?_) AllReadyH.nil))
          · have hcv0 := hcv1.out _ _ HR
            refine step_want (by first | rfl | kernel_rfl) ?_
            go_simp
            refine hK.out _ _ HX (fun _ => ?_)
            clear hK K
            try simp only [List.getElem_toArray, List.getElem_cons_succ, List.getElem_cons_zero, Act.put, List.setIfInBounds_toArray, List.set_cons_zero, List.set_cons_succ]
            refine wpAnyH_take (i := 7) (v := .string (A1 ++ A2)) rfl (by kernel_rfl) (by kernel_rfl) (by kernel_rfl) (fun _ _ _ h => h) (Or.inl ⟨by first | rfl | kernel_rfl, by intro w _; go_simp⟩) HX ?_
            simp only [List.getElem_toArray, List.getElem_cons_succ, List.getElem_cons_zero, Act.put, List.setIfInBounds_toArray, List.set_cons_zero, List.set_cons_succ]
            refine wpAnyH_ready (rs := [10]) (by kernel_rfl) (by simp) (AllReadyH.cons (by simp only [List.getElem?_toArray, List.getElem?_cons_succ, List.getElem?_cons_zero]; rfl) (fun K hK => ?_) AllReadyH.nil)
            refine step_want (by first | rfl | kernel_rfl) ?_
            go_simp
            refine (hP3.out _).mono ?_
            rintro e' v6 ⟨rfl, bb⟩
            have HX := HX.next bb
            clear bb
            refine hK.out _ _ HX (fun _ => ?_)
            clear hK K
            try simp only [List.getElem_toArray, List.getElem_cons_succ, List.getElem_cons_zero, Act.put, List.setIfInBounds_toArray, List.set_cons_zero, List.set_cons_succ]
            refine wpAnyH_take (i := 11) (v := .string (A1 ++ A2 ++ A3)) rfl (by kernel_rfl) (by kernel_rfl) (by kernel_rfl) (fun _ _ _ h => h) (Or.inl ⟨by first | rfl | kernel_rfl, by intro w _; go_simp⟩) HX ?_
            simp only [List.getElem_toArray, List.getElem_cons_succ, List.getElem_cons_zero, Act.put, List.setIfInBounds_toArray, List.set_cons_zero, List.set_cons_succ]
            refine wpAnyH_ready (rs := [15]) (by kernel_rfl) (by simp) (AllReadyH.cons (by simp only [List.getElem?_toArray, List.getElem?_cons_succ, List.getElem?_cons_zero]; rfl) (fun K hK => ?_) AllReadyH.nil)
            refine step_want (by first | rfl | kernel_rfl) ?_
            go_simp
            refine (hP4.out _).mono ?_
            rintro e' v7 ⟨rfl, bb⟩
            have HX := HX.next bb
            clear bb
            refine hK.out _ _ HX (fun _ => ?_)
            clear hK K
            try simp only [List.getElem_toArray, List.getElem_cons_succ, List.getElem_cons_zero, Act.put, List.setIfInBounds_toArray, List.set_cons_zero, List.set_cons_succ]
            refine wpAnyH_take (i := 16) (v := .string H) rfl (by kernel_rfl) (by kernel_rfl) (by kernel_rfl) (fun _ _ _ h => h) (Or.inl ⟨by first | rfl | kernel_rfl, by intro w _; go_simp; rw [hH.out]⟩) HX ?_
            simp only [List.getElem_toArray, List.getElem_cons_succ, List.getElem_cons_zero, Act.put, List.setIfInBounds_toArray, List.set_cons_zero, List.set_cons_succ]
            refine wpAnyH_take (i := 17) (v := .string H) rfl (by kernel_rfl) (by kernel_rfl) (by kernel_rfl) (fun _ _ _ h => h) (Or.inl ⟨by first | rfl | kernel_rfl, by intro w _; go_simp⟩) HX ?_
            simp only [List.getElem_toArray, List.getElem_cons_succ, List.getElem_cons_zero, Act.put, List.setIfInBounds_toArray, List.set_cons_zero, List.set_cons_succ]
            refine wpAnyH_done (by kernel_rfl) ?_ _
            go_wp2_with fail
            go_meet
            exact ⟨rfl, HX⟩
          · refine step_want (by first | rfl | kernel_rfl) ?_
            go_simp
            refine (hP3.out _).mono ?_
            rintro e' v8 ⟨rfl, bb⟩
            have HX := HX.next bb
            have HR := (bb.block gB hlt).trans HR
            have hlt := Nat.lt_of_lt_of_le hlt bb.size
            clear bb
            refine hK.out _ _ HX (fun _ => ?_)
            clear hK K
            try simp only [List.getElem_toArray, List.getElem_cons_succ, List.getElem_cons_zero, Act.put, List.setIfInBounds_toArray, List.set_cons_zero, List.set_cons_succ]
            refine wpAnyH_ready (rs := [3, 15]) (by kernel_rfl) (by simp) (AllReadyH.cons (by simp only [List.getElem?_toArray, List.getElem?_cons_succ, List.getElem?_cons_zero]; rfl) (fun K hK => ?_) (AllReadyH.cons (by simp only [List.getElem?_toArray, List.getElem?_cons_succ, List.getElem?_cons_zero]; rfl) (fun K hK => ?_) AllReadyH.nil))
            · have hcv0 := hcv1.out _ _ HR
              refine step_want (by first | rfl | kernel_rfl) ?_
              go_simp
              refine hK.out _ _ HX (fun _ => ?_)
              clear hK K
              try simp only [List.getElem_toArray, List.getElem_cons_succ, List.getElem_cons_zero, Act.put, List.setIfInBounds_toArray, List.set_cons_zero, List.set_cons_succ]
              refine wpAnyH_take (i := 7) (v := .string (A1 ++ A2)) rfl (by kernel_rfl) (by kernel_rfl) (by kernel_rfl) (fun _ _ _ h => h) (Or.inl ⟨by first | rfl | kernel_rfl, by intro w _; go_simp⟩) HX ?_
              simp only [List.getElem_toArray, List.getElem_cons_succ, List.getElem_cons_zero, Act.put, List.setIfInBounds_toArray, List.set_cons_zero, List.set_cons_succ]
              refine wpAnyH_take (i := 11) (v := .string (A1 ++ A2 ++ A3)) rfl (by kernel_rfl) (by kernel_rfl) (by kernel_rfl) (fun _ _ _ h => h) (Or.inl ⟨by first | rfl | kernel_rfl, by intro w _; go_simp⟩) HX ?_
              simp only [List.getElem_toArray, List.getElem_cons_succ, List.getElem_cons_zero, Act.put, List.setIfInBounds_toArray, List.set_cons_zero, List.set_cons_succ]
              refine wpAnyH_ready (rs := [15]) (by kernel_rfl) (by simp) (AllReadyH.cons (by simp only [List.getElem?_toArray, List.getElem?_cons_succ, List.getElem?_cons_zero]; rfl) (fun K hK => ?_) AllReadyH.nil)
              refine step_want (by first | rfl | kernel_rfl) ?_
              go_simp
              refine (hP4.out _).mono ?_
              rintro e' v9 ⟨rfl, bb⟩
              have HX := HX.next bb
              clear bb
              refine hK.out _ _ HX (fun _ => ?_)
              clear hK K
              try simp only [List.getElem_toArray, List.getElem_cons_succ, List.getElem_cons_zero, Act.put, List.setIfInBounds_toArray, List.set_cons_zero, List.set_cons_succ]
              refine wpAnyH_take (i := 16) (v := .string H) rfl (by kernel_rfl) (by kernel_rfl) (by kernel_rfl) (fun _ _ _ h => h) (Or.inl ⟨by first | rfl | kernel_rfl, by intro w _; go_simp; rw [hH.out]⟩) HX ?_
              simp only [List.getElem_toArray, List.getElem_cons_succ, List.getElem_cons_zero, Act.put, List.setIfInBounds_toArray, List.set_cons_zero, List.set_cons_succ]
              refine wpAnyH_take (i := 17) (v := .string H) rfl (by kernel_rfl) (by kernel_rfl) (by kernel_rfl) (fun _ _ _ h => h) (Or.inl ⟨by first | rfl | kernel_rfl, by intro w _; go_simp⟩) HX ?_
              simp only [List.getElem_toArray, List.getElem_cons_succ, List.getElem_cons_zero, Act.put, List.setIfInBounds_toArray, List.set_cons_zero, List.set_cons_succ]
              refine wpAnyH_done (by kernel_rfl) ?_ _
              go_wp2_with fail
              go_meet
              exact ⟨rfl, HX⟩
            · refine step_want (by first | rfl | kernel_rfl) ?_
              go_simp
              refine (hP4.out _).mono ?_
              rintro e' v10 ⟨rfl, bb⟩
              have HX := HX.next bb
              have HR := (bb.block gB hlt).trans HR
              have hlt := Nat.lt_of_lt_of_le hlt bb.size
              clear bb
              refine hK.out _ _ HX (fun _ => ?_)
              clear hK K
              try simp only [List.getElem_toArray, List.getElem_cons_succ, List.getElem_cons_zero, Act.put, List.setIfInBounds_toArray, List.set_cons_zero, List.set_cons_succ]
              refine wpAnyH_ready (rs := [3]) (by kernel_rfl) (by simp) (AllReadyH.cons (by simp only [List.getElem?_toArray, List.getElem?_cons_succ, List.getElem?_cons_zero]; rfl) (fun K hK => ?_) AllReadyH.nil)
              have hcv0 := hcv1.out _ _ HR
              refine step_want (by first | rfl | kernel_rfl) ?_
              go_simp
              refine hK.out _ _ HX (fun _ => ?_)
              clear hK K
              try simp only [List.getElem_toArray, List.getElem_cons_succ, List.getElem_cons_zero, Act.put, List.setIfInBounds_toArray, List.set_cons_zero, List.set_cons_succ]
              refine wpAnyH_take (i := 7) (v := .string (A1 ++ A2)) rfl (by kernel_rfl) (by kernel_rfl) (by kernel_rfl) (fun _ _ _ h => h) (Or.inl ⟨by first | rfl | kernel_rfl, by intro w _; go_simp⟩) HX ?_
              simp only [List.getElem_toArray, List.getElem_cons_succ, List.getElem_cons_zero, Act.put, List.setIfInBounds_toArray, List.set_cons_zero, List.set_cons_succ]
              refine wpAnyH_take (i := 11) (v := .string (A1 ++ A2 ++ A3)) rfl (by kernel_rfl) (by kernel_rfl) (by kernel_rfl) (fun _ _ _ h => h) (Or.inl ⟨by first | rfl | kernel_rfl, by intro w _; go_simp⟩) HX ?_
              simp only [List.getElem_toArray, List.getElem_cons_succ, List.getElem_cons_zero, Act.put, List.setIfInBounds_toArray, List.set_cons_zero, List.set_cons_succ]
              refine wpAnyH_take (i := 16) (v := .string H) rfl (by kernel_rfl) (by kernel_rfl) (by kernel_rfl) (fun _ _ _ h => h) (Or.inl ⟨by first | rfl | kernel_rfl, by intro w _; go_simp; rw [hH.out]⟩) HX ?_
              simp only [List.getElem_toArray, List.getElem_cons_succ, List.getElem_cons_zero, Act.put, List.setIfInBounds_toArray, List.set_cons_zero, List.set_cons_succ]
              refine wpAnyH_take (i := 17) (v := .string H) rfl (by kernel_rfl) (by kernel_rfl) (by kernel_rfl) (fun _ _ _ h => h) (Or.inl ⟨by first | rfl | kernel_rfl, by intro w _; go_simp⟩) HX ?_
              simp only [List.getElem_toArray, List.getElem_cons_succ, List.getElem_cons_zero, Act.put, List.setIfInBounds_toArray, List.set_cons_zero, List.set_cons_succ]
              refine wpAnyH_done (by kernel_rfl) ?_ _
              go_wp2_with fail
              go_meet
              exact ⟨rfl, HX⟩
      · refine step_want (by first | rfl | kernel_rfl) ?_
        go_simp
        refine (hP2.out _).mono ?_
        rintro e' v11 ⟨rfl, bb⟩
        have HX := HX.next bb
        clear bb
        refine hK.out _ _ HX (fun _ => ?_)
        clear hK K
        try simp only [List.getElem_toArray, List.getElem_cons_succ, List.getElem_cons_zero, Act.put, List.setIfInBounds_toArray, List.set_cons_zero, List.set_cons_succ]
        refine wpAnyH_ready (rs := [2, 10]) (by kernel_rfl) (by simp) (AllReadyH.cons (by simp only [List.getElem?_toArray, List.getElem?_cons_succ, List.getElem?_cons_zero]; rfl) (fun K hK => ?_) (AllReadyH.cons (by simp only [List.getElem?_toArray, List.getElem?_cons_succ, List.getElem?_cons_zero]; rfl) (fun K hK => ?_) AllReadyH.nil))
        · refine step_want (by first | rfl | kernel_rfl) ?_
          go_simp
          have HX := HX.next ((Below.refl _ _).alloc (Nat.le_refl _) (.cells #[.int .u8 k] 5))
          refine hK.out _ _ HX (fun _ => ?_)
          clear hK K
          try simp only [List.getElem_toArray, List.getElem_cons_succ, List.getElem_cons_zero, Act.put, List.setIfInBounds_toArray, List.set_cons_zero, List.set_cons_succ]
          have HR := heap_alloc_last v11 (.cells #[.int .u8 k] 5)
          have hlt : v11.heap.size < (v11.alloc (.cells #[.int .u8 k] 5)).heap.size := by simp
          generalize v11.heap.size = gB at *
          generalize v11.alloc (.cells #[.int .u8 k] 5) = x12 at *
          refine wpAnyH_ready (rs := [3, 10]) (by kernel_rfl) (by simp) (AllReadyH.cons (by simp only [List.getElem?_toArray, List.getElem?_cons_succ, List.getElem?_cons_zero]; rfl) (fun K hK => ?_) (AllReadyH.cons (by simp only [List.getElem?_toArray, List.getElem?_cons_succ, List.getElem?_cons_zero]; rfl) (fun K hK => ?_) AllReadyH.nil))
          · have hcv0 := hcv1.out _ _ HR
            refine step_want (by first | rfl | kernel_rfl) ?_
            go_simp
            refine hK.out _ _ HX (fun _ => ?_)
            clear hK K
            try simp only [List.getElem_toArray, List.getElem_cons_succ, List.getElem_cons_zero, Act.put, List.setIfInBounds_toArray, List.set_cons_zero, List.set_cons_succ]
            refine wpAnyH_take (i := 7) (v := .string (A1 ++ A2)) rfl (by kernel_rfl) (by kernel_rfl) (by kernel_rfl) (fun _ _ _ h => h) (Or.inl ⟨by first | rfl | kernel_rfl, by intro w _; go_simp⟩) HX ?_
            simp only [List.getElem_toArray, List.getElem_cons_succ, List.getElem_cons_zero, Act.put, List.setIfInBounds_toArray, List.set_cons_zero, List.set_cons_succ]
            refine wpAnyH_ready (rs := [10]) (by kernel_rfl) (by simp) (AllReadyH.cons (by simp only [List.getElem?_toArray, List.getElem?_cons_succ, List.getElem?_cons_zero]; rfl) (fun K hK => ?_) AllReadyH.nil)
            refine step_want (by first | rfl | kernel_rfl) ?_
            go_simp
            refine (hP3.out _).mono ?_
            rintro e' v13 ⟨rfl, bb⟩
            have HX := HX.next bb
            clear bb
            refine hK.out _ _ HX (fun _ => ?_)
            clear hK K
            try simp only [List.getElem_toArray, List.getElem_cons_succ, List.getElem_cons_zero, Act.put, List.setIfInBounds_toArray, List.set_cons_zero, List.set_cons_succ]
            refine wpAnyH_take (i := 11) (v := .string (A1 ++ A2 ++ A3)) rfl (by kernel_rfl) (by kernel_rfl) (by kernel_rfl) (fun _ _ _ h => h) (Or.inl ⟨by first | rfl | kernel_rfl, by intro w _; go_simp⟩) HX ?_
            simp only [List.getElem_toArray, List.getElem_cons_succ, List.getElem_cons_zero, Act.put, List.setIfInBounds_toArray, List.set_cons_zero, List.set_cons_succ]
            refine wpAnyH_ready (rs := [15]) (by kernel_rfl) (by simp) (AllReadyH.cons (by simp only [List.getElem?_toArray, List.getElem?_cons_succ, List.getElem?_cons_zero]; rfl) (fun K hK => ?_) AllReadyH.nil)
            refine step_want (by first | rfl | kernel_rfl) ?_
            go_simp
            refine (hP4.out _).mono ?_
            rintro e' v14 ⟨rfl, bb⟩
            have HX := HX.next bb
            clear bb
            refine hK.out _ _ HX (fun _ => ?_)
            clear hK K
            try simp only [List.getElem_toArray, List.getElem_cons_succ, List.getElem_cons_zero, Act.put, List.setIfInBounds_toArray, List.set_cons_zero, List.set_cons_succ]
            refine wpAnyH_take (i := 16) (v := .string H) rfl (by kernel_rfl) (by kernel_rfl) (by kernel_rfl) (fun _ _ _ h => h) (Or.inl ⟨by first | rfl | kernel_rfl, by intro w _; go_simp; rw [hH.out]⟩) HX ?_
            simp only [List.getElem_toArray, List.getElem_cons_succ, List.getElem_cons_zero, Act.put, List.setIfInBounds_toArray, List.set_cons_zero, List.set_cons_succ]
            refine wpAnyH_take (i := 17) (v := .string H) rfl (by kernel_rfl) (by kernel_rfl) (by kernel_rfl) (fun _ _ _ h => h) (Or.inl ⟨by first | rfl | kernel_rfl, by intro w _; go_simp⟩) HX ?_
            simp only [List.getElem_toArray, List.getElem_cons_succ, List.getElem_cons_zero, Act.put, List.setIfInBounds_toArray, List.set_cons_zero, List.set_cons_succ]
            refine wpAnyH_done (by kernel_rfl) ?_ _
            go_wp2_with fail
            go_meet
            exact ⟨rfl, HX⟩
          · refine step_want (by first | rfl | kernel_rfl) ?_
            go_simp
            refine (hP3.out _).mono ?_
            rintro e' v15 ⟨rfl, bb⟩
            have HX := HX.next bb
            have HR := (bb.block gB hlt).trans HR
            have hlt := Nat.lt_of_lt_of_le hlt bb.size
            clear bb
            refine hK.out _ _ HX (fun _ => ?_)
            clear hK K
            try simp only [List.getElem_toArray, List.getElem_cons_succ, List.getElem_cons_zero, Act.put, List.setIfInBounds_toArray, List.set_cons_zero, List.set_cons_succ]
            refine wpAnyH_ready (rs := [3, 15]) (by kernel_rfl) (by simp) (AllReadyH.cons (by simp only [List.getElem?_toArray, List.getElem?_cons_succ, List.getElem?_cons_zero]; rfl) (fun K hK => ?_) (AllReadyH.cons (by simp only [List.getElem?_toArray, List.getElem?_cons_succ, List.getElem?_cons_zero]; rfl) (fun K hK => ?_) AllReadyH.nil))
            · have hcv0 := hcv1.out _ _ HR
              refine step_want (by first | rfl | kernel_rfl) ?_
              go_simp
              refine hK.out _ _ HX (fun _ => ?_)
              clear hK K
              try simp only [List.getElem_toArray, List.getElem_cons_succ, List.getElem_cons_zero, Act.put, List.setIfInBounds_toArray, List.set_cons_zero, List.set_cons_succ]
              refine wpAnyH_take (i := 7) (v := .string (A1 ++ A2)) rfl (by kernel_rfl) (by kernel_rfl) (by kernel_rfl) (fun _ _ _ h => h) (Or.inl ⟨by first | rfl | kernel_rfl, by intro w _; go_simp⟩) HX ?_
              simp only [List.getElem_toArray, List.getElem_cons_succ, List.getElem_cons_zero, Act.put, List.setIfInBounds_toArray, List.set_cons_zero, List.set_cons_succ]
              refine wpAnyH_take (i := 11) (v := .string (A1 ++ A2 ++ A3)) rfl (by kernel_rfl) (by kernel_rfl) (by kernel_rfl) (fun _ _ _ h => h) (Or.inl ⟨by first | rfl | kernel_rfl, by intro w _; go_simp⟩) HX ?_
              simp only [List.getElem_toArray, List.getElem_cons_succ, List.getElem_cons_zero, Act.put, List.setIfInBounds_toArray, List.set_cons_zero, List.set_cons_succ]
              refine wpAnyH_ready (rs := [15]) (by kernel_rfl) (by simp) (AllReadyH.cons (by simp only [List.getElem?_toArray, List.getElem?_cons_succ, List.getElem?_cons_zero]; rfl) (fun K hK => ?_) AllReadyH.nil)
              refine step_want (by first | rfl | kernel_rfl) ?_
              go_simp
              refine (hP4.out _).mono ?_
              rintro e' v16 ⟨rfl, bb⟩
              have HX := HX.next bb
              clear bb
              refine hK.out _ _ HX (fun _ => ?_)
              clear hK K
              try simp only [List.getElem_toArray, List.getElem_cons_succ, List.getElem_cons_zero, Act.put, List.setIfInBounds_toArray, List.set_cons_zero, List.set_cons_succ]
              refine wpAnyH_take (i := 16) (v := .string H) rfl (by kernel_rfl) (by kernel_rfl) (by kernel_rfl) (fun _ _ _ h => h) (Or.inl ⟨by first | rfl | kernel_rfl, by intro w _; go_simp; rw [hH.out]⟩) HX ?_
              simp only [List.getElem_toArray, List.getElem_cons_succ, List.getElem_cons_zero, Act.put, List.setIfInBounds_toArray, List.set_cons_zero, List.set_cons_succ]
              refine wpAnyH_take (i := 17) (v := .string H) rfl (by kernel_rfl) (by kernel_rfl) (by kernel_rfl) (fun _ _ _ h => h) (Or.inl ⟨by first | rfl | kernel_rfl, by intro w _; go_simp⟩) HX ?_
              simp only [List.getElem_toArray, List.getElem_cons_succ, List.getElem_cons_zero, Act.put, List.setIfInBounds_toArray, List.set_cons_zero, List.set_cons_succ]
              refine wpAnyH_done (by kernel_rfl) ?_ _
              go_wp2_with fail
              go_meet
              exact ⟨rfl, HX⟩
            · refine step_want (by first | rfl | kernel_rfl) ?_
              go_simp
              refine (hP4.out _).mono ?_
              rintro e' v17 ⟨rfl, bb⟩
              have HX := HX.next bb
              have HR := (bb.block gB hlt).trans HR
              have hlt := Nat.lt_of_lt_of_le hlt bb.size
              clear bb
              refine hK.out _ _ HX (fun _ => ?_)
              clear hK K
              try simp only [List.getElem_toArray, List.getElem_cons_succ, List.getElem_cons_zero, Act.put, List.setIfInBounds_toArray, List.set_cons_zero, List.set_cons_succ]
              refine wpAnyH_ready (rs := [3]) (by kernel_rfl) (by simp) (AllReadyH.cons (by simp only [List.getElem?_toArray, List.getElem?_cons_succ, List.getElem?_cons_zero]; rfl) (fun K hK => ?_) AllReadyH.nil)
              have hcv0 := hcv1.out _ _ HR
              refine step_want (by first | rfl | kernel_rfl) ?_
              go_simp
              refine hK.out _ _ HX (fun _ => ?_)
              clear hK K
              try simp only [List.getElem_toArray, List.getElem_cons_succ, List.getElem_cons_zero, Act.put, List.setIfInBounds_toArray, List.set_cons_zero, List.set_cons_succ]
              refine wpAnyH_take (i := 7) (v := .string (A1 ++ A2)) rfl (by kernel_rfl) (by kernel_rfl) (by kernel_rfl) (fun _ _ _ h => h) (Or.inl ⟨by first | rfl | kernel_rfl, by intro w _; go_simp⟩) HX ?_
              simp only [List.getElem_toArray, List.getElem_cons_succ, List.getElem_cons_zero, Act.put, List.setIfInBounds_toArray, List.set_cons_zero, List.set_cons_succ]
              refine wpAnyH_take (i := 11) (v := .string (A1 ++ A2 ++ A3)) rfl (by kernel_rfl) (by kernel_rfl) (by kernel_rfl) (fun _ _ _ h => h) (Or.inl ⟨by first | rfl | kernel_rfl, by intro w _; go_simp⟩) HX ?_
              simp only [List.getElem_toArray, List.getElem_cons_succ, List.getElem_cons_zero, Act.put, List.setIfInBounds_toArray, List.set_cons_zero, List.set_cons_succ]
              refine wpAnyH_take (i := 16) (v := .string H) rfl (by kernel_rfl) (by kernel_rfl) (by kernel_rfl) (fun _ _ _ h => h) (Or.inl ⟨by first | rfl | kernel_rfl, by intro w _; go_simp; rw [hH.out]⟩) HX ?_
              simp only [List.getElem_toArray, List.getElem_cons_succ, List.getElem_cons_zero, Act.put, List.setIfInBounds_toArray, List.set_cons_zero, List.set_cons_succ]
              refine wpAnyH_take (i := 17) (v := .string H) rfl (by kernel_rfl) (by kernel_rfl) (by kernel_rfl) (fun _ _ _ h => h) (Or.inl ⟨by first | rfl | kernel_rfl, by intro w _; go_simp⟩) HX ?_
              simp only [List.getElem_toArray, List.getElem_cons_succ, List.getElem_cons_zero, Act.put, List.setIfInBounds_toArray, List.set_cons_zero, List.set_cons_succ]
              refine wpAnyH_done (by kernel_rfl) ?_ _
              go_wp2_with fail
              go_meet
              exact ⟨rfl, HX⟩
        · refine step_want (by first | rfl | kernel_rfl) ?_
          go_simp
          refine (hP3.out _).mono ?_
          rintro e' v18 ⟨rfl, bb⟩
          have HX := HX.next bb
          clear bb
          refine hK.out _ _ HX (fun _ => ?_)
          clear hK K
          try simp only [List.getElem_toArray, List.getElem_cons_succ, List.getElem_cons_zero, Act.put, List.setIfInBounds_toArray, List.set_cons_zero, List.set_cons_succ]
          refine wpAnyH_ready (rs := [2, 15]) (by kernel_rfl) (by simp) (AllReadyH.cons (by simp only [List.getElem?_toArray, List.getElem?_cons_succ, List.getElem?_cons_zero]; rfl) (fun K hK => ?_) (AllReadyH.cons (by simp only [List.getElem?_toArray, List.getElem?_cons_succ, List.getElem?_cons_zero]; rfl) (fun K hK => ?_) AllReadyH.nil))
          · refine step_want (by first | rfl | kernel_rfl) ?_
            go_simp
            have HX := HX.next ((Below.refl _ _).alloc (Nat.le_refl _) (.cells #[.int .u8 k] 5))
            refine hK.out _ _ HX (fun _ => ?_)
            clear hK K
            try simp only [List.getElem_toArray, List.getElem_cons_succ, List.getElem_cons_zero, Act.put, List.setIfInBounds_toArray, List.set_cons_zero, List.set_cons_succ]
            have HR := heap_alloc_last v18 (.cells #[.int .u8 k] 5)
            have hlt : v18.heap.size < (v18.alloc (.cells #[.int .u8 k] 5)).heap.size := by simp
            generalize v18.heap.size = gB at *
            generalize v18.alloc (.cells #[.int .u8 k] 5) = x19 at *
            refine wpAnyH_ready (rs := [3, 15]) (by kernel_rfl) (by simp) (AllReadyH.cons (by simp only [List.getElem?_toArray, List.getElem?_cons_succ, List.getElem?_cons_zero]; rfl) (fun K hK => ?_) (AllReadyH.cons (by simp only [List.getElem?_toArray, List.getElem?_cons_succ, List.getElem?_cons_zero]; rfl) (fun K hK => ?_) AllReadyH.nil))
            · have hcv0 := hcv1.out _ _ HR
              refine step_want (by first | rfl | kernel_rfl) ?_
              go_simp
              refine hK.out _ _ HX (fun _ => ?_)
              clear hK K
              try simp only [List.getElem_toArray, List.getElem_cons_succ, List.getElem_cons_zero, Act.put, List.setIfInBounds_toArray, List.set_cons_zero, List.set_cons_succ]
              refine wpAnyH_take (i := 7) (v := .string (A1 ++ A2)) rfl (by kernel_rfl) (by kernel_rfl) (by kernel_rfl) (fun _ _ _ h => h) (Or.inl ⟨by first | rfl | kernel_rfl, by intro w _; go_simp⟩) HX ?_
              simp only [List.getElem_toArray, List.getElem_cons_succ, List.getElem_cons_zero, Act.put, List.setIfInBounds_toArray, List.set_cons_zero, List.set_cons_succ]
              refine wpAnyH_take (i := 11) (v := .string (A1 ++ A2 ++ A3)) rfl (by kernel_rfl) (by kernel_rfl) (by kernel_rfl) (fun _ _ _ h => h) (Or.inl ⟨by first | rfl | kernel_rfl, by intro w _; go_simp⟩) HX ?_
              simp only [List.getElem_toArray, List.getElem_cons_succ, List.getElem_cons_zero, Act.put, List.setIfInBounds_toArray, List.set_cons_zero, List.set_cons_succ]
              refine wpAnyH_ready (rs := [15]) (by kernel_rfl) (by simp) (AllReadyH.cons (by simp only [List.getElem?_toArray, List.getElem?_cons_succ, List.getElem?_cons_zero]; rfl) (fun K hK => ?_) AllReadyH.nil)
              refine step_want (by first | rfl | kernel_rfl) ?_
              go_simp
              refine (hP4.out _).mono ?_
              rintro e' v20 ⟨rfl, bb⟩
              have HX := HX.next bb
              clear bb
              refine hK.out _ _ HX (fun _ => ?_)
              clear hK K
              try simp only [List.getElem_toArray, List.getElem_cons_succ, List.getElem_cons_zero, Act.put, List.setIfInBounds_toArray, List.set_cons_zero, List.set_cons_succ]
              refine wpAnyH_take (i := 16) (v := .string H) rfl (by kernel_rfl) (by kernel_rfl) (by kernel_rfl) (fun _ _ _ h => h) (Or.inl ⟨by first | rfl | kernel_rfl, by intro w _; go_simp; rw [hH.out]⟩) HX ?_
              simp only [List.getElem_toArray, List.getElem_cons_succ, List.getElem_cons_zero, Act.put, List.setIfInBounds_toArray, List.set_cons_zero, List.set_cons_succ]
              refine wpAnyH_take (i := 17) (v := .string H) rfl (by kernel_rfl) (by kernel_rfl) (by kernel_rfl) (fun _ _ _ h => h) (Or.inl ⟨by first | rfl | kernel_rfl, by intro w _; go_simp⟩) HX ?_
              simp only [List.getElem_toArray, List.getElem_cons_succ, List.getElem_cons_zero, Act.put, List.setIfInBounds_toArray, List.set_cons_zero, List.set_cons_succ]
              refine wpAnyH_done (by kernel_rfl) ?_ _
              go_wp2_with fail
              go_meet
              exact ⟨rfl, HX⟩
            · refine step_want (by first | rfl | kernel_rfl) ?_
              go_simp
              refine (hP4.out _).mono ?_
              rintro e' v21 ⟨rfl, bb⟩
              have HX := HX.next bb
              have HR := (bb.block gB hlt).trans HR
              have hlt := Nat.lt_of_lt_of_le hlt bb.size
              clear bb
              refine hK.out _ _ HX (fun _ => ?_)
              clear hK K
              try simp only [List.getElem_toArray, List.getElem_cons_succ, List.getElem_cons_zero, Act.put, List.setIfInBounds_toArray, List.set_cons_zero, List.set_cons_succ]
              refine wpAnyH_ready (rs := [3]) (by kernel_rfl) (by simp) (AllReadyH.cons (by simp only [List.getElem?_toArray, List.getElem?_cons_succ, List.getElem?_cons_zero]; rfl) (fun K hK => ?_) AllReadyH.nil)
              have hcv0 := hcv1.out _ _ HR
              refine step_want (by first | rfl | kernel_rfl) ?_
              go_simp
              refine hK.out _ _ HX (fun _ => ?_)
              clear hK K
              try simp only [List.getElem_toArray, List.getElem_cons_succ, List.getElem_cons_zero, Act.put, List.setIfInBounds_toArray, List.set_cons_zero, List.set_cons_succ]
              refine wpAnyH_take (i := 7) (v := .string (A1 ++ A2)) rfl (by kernel_rfl) (by kernel_rfl) (by kernel_rfl) (fun _ _ _ h => h) (Or.inl ⟨by first | rfl | kernel_rfl, by intro w _; go_simp⟩) HX ?_
              simp only [List.getElem_toArray, List.getElem_cons_succ, List.getElem_cons_zero, Act.put, List.setIfInBounds_toArray, List.set_cons_zero, List.set_cons_succ]
              refine wpAnyH_take (i := 11) (v := .string (A1 ++ A2 ++ A3)) rfl (by kernel_rfl) (by kernel_rfl) (by kernel_rfl) (fun _ _ _ h => h) (Or.inl ⟨by first | rfl | kernel_rfl, by intro w _; go_simp⟩) HX ?_
              simp only [List.getElem_toArray, List.getElem_cons_succ, List.getElem_cons_zero, Act.put, List.setIfInBounds_toArray, List.set_cons_zero, List.set_cons_succ]
              refine wpAnyH_take (i := 16) (v := .string H) rfl (by kernel_rfl) (by kernel_rfl) (by kernel_rfl) (fun _ _ _ h => h) (Or.inl ⟨by first | rfl | kernel_rfl, by intro w _; go_simp; rw [hH.out]⟩) HX ?_
              simp only [List.getElem_toArray, List.getElem_cons_succ, List.getElem_cons_zero, Act.put, List.setIfInBounds_toArray, List.set_cons_zero, List.set_cons_succ]
              refine wpAnyH_take (i := 17) (v := .string H) rfl (by kernel_rfl) (by kernel_rfl) (by kernel_rfl) (fun _ _ _ h => h) (Or.inl ⟨by first | rfl | kernel_rfl, by intro w _; go_simp⟩) HX ?_
              simp only [List.getElem_toArray, List.getElem_cons_succ, List.getElem_cons_zero, Act.put, List.setIfInBounds_toArray, List.set_cons_zero, List.set_cons_succ]
              refine wpAnyH_done (by kernel_rfl) ?_ _
              go_wp2_with fail
              go_meet
              exact ⟨rfl, HX⟩
          · refine step_want (by first | rfl | kernel_rfl) ?_
            go_simp
            refine (hP4.out _).mono ?_
            rintro e' v22 ⟨rfl, bb⟩
            have HX := HX.next bb
            clear bb
            refine hK.out _ _ HX (fun _ => ?_)
            clear hK K
            try simp only [List.getElem_toArray, List.getElem_cons_succ, List.getElem_cons_zero, Act.put, List.setIfInBounds_toArray, List.set_cons_zero, List.set_cons_succ]
            refine wpAnyH_ready (rs := [2]) (by kernel_rfl) (by simp) (AllReadyH.cons (by simp only [List.getElem?_toArray, List.getElem?_cons_succ, List.getElem?_cons_zero]; rfl) (fun K hK => ?_) AllReadyH.nil)
            refine step_want (by first | rfl | kernel_rfl) ?_
            go_simp
            have HX := HX.next ((Below.refl _ _).alloc (Nat.le_refl _) (.cells #[.int .u8 k] 5))
            refine hK.out _ _ HX (fun _ => ?_)
            clear hK K
            try simp only [List.getElem_toArray, List.getElem_cons_succ, List.getElem_cons_zero, Act.put, List.setIfInBounds_toArray, List.set_cons_zero, List.set_cons_succ]
            have HR := heap_alloc_last v22 (.cells #[.int .u8 k] 5)
            have hlt : v22.heap.size < (v22.alloc (.cells #[.int .u8 k] 5)).heap.size := by simp
            generalize v22.heap.size = gB at *
            generalize v22.alloc (.cells #[.int .u8 k] 5) = x23 at *
            refine wpAnyH_ready (rs := [3]) (by kernel_rfl) (by simp) (AllReadyH.cons (by simp only [List.getElem?_toArray, List.getElem?_cons_succ, List.getElem?_cons_zero]; rfl) (fun K hK => ?_) AllReadyH.nil)
            have hcv0 := hcv1.out _ _ HR
            refine step_want (by first | rfl | kernel_rfl) ?_
            go_simp
            refine hK.out _ _ HX (fun _ => ?_)
            clear hK K
            try simp only [List.getElem_toArray, List.getElem_cons_succ, List.getElem_cons_zero, Act.put, List.setIfInBounds_toArray, List.set_cons_zero, List.set_cons_succ]
            refine wpAnyH_take (i := 7) (v := .string (A1 ++ A2)) rfl (by kernel_rfl) (by kernel_rfl) (by kernel_rfl) (fun _ _ _ h => h) (Or.inl ⟨by first | rfl | kernel_rfl, by intro w _; go_simp⟩) HX ?_
            simp only [List.getElem_toArray, List.getElem_cons_succ, List.getElem_cons_zero, Act.put, List.setIfInBounds_toArray, List.set_cons_zero, List.set_cons_succ]
            refine wpAnyH_take (i := 11) (v := .string (A1 ++ A2 ++ A3)) rfl (by kernel_rfl) (by kernel_rfl) (by kernel_rfl) (fun _ _ _ h => h) (Or.inl ⟨by first | rfl | kernel_rfl, by intro w _; go_simp⟩) HX ?_
            simp only [List.getElem_toArray, List.getElem_cons_succ, List.getElem_cons_zero, Act.put, List.setIfInBounds_toArray, List.set_cons_zero, List.set_cons_succ]
            refine wpAnyH_take (i := 16) (v := .string H) rfl (by kernel_rfl) (by kernel_rfl) (by kernel_rfl) (fun _ _ _ h => h) (Or.inl ⟨by first | rfl | kernel_rfl, by intro w _; go_simp; rw [hH.out]⟩) HX ?_
            simp only [List.getElem_toArray, List.getElem_cons_succ, List.getElem_cons_zero, Act.put, List.setIfInBounds_toArray, List.set_cons_zero, List.set_cons_succ]
            refine wpAnyH_take (i := 17) (v := .string H) rfl (by kernel_rfl) (by kernel_rfl) (by kernel_rfl) (fun _ _ _ h => h) (Or.inl ⟨by first | rfl | kernel_rfl, by intro w _; go_simp⟩) HX ?_
            simp only [List.getElem_toArray, List.getElem_cons_succ, List.getElem_cons_zero, Act.put, List.setIfInBounds_toArray, List.set_cons_zero, List.set_cons_succ]
            refine wpAnyH_done (by kernel_rfl) ?_ _
            go_wp2_with fail
            go_meet
            exact ⟨rfl, HX⟩
    case rest =>
      obtain ⟨rfl, HX⟩ := hcut
      generalize wc = W2 at *
      go_wp2_with fail
      refine wp_region_held (S := fun w' => TS w w.heap.size k ep i D w') (by kernel_rfl) ?_
      change wpAnyH _ _ _ _ _ _ _ _ (World.drew _)
      have HX := HX.drew
      generalize World.drew _ = W3 at *
      refine wpAnyH_take (i := 0) (v := .string H) rfl (by kernel_rfl) (by kernel_rfl) (by kernel_rfl) (fun _ _ _ h => h) (Or.inl ⟨by first | rfl | kernel_rfl, by intro w _; go_simp⟩) HX ?_
      simp only [List.getElem_toArray, List.getElem_cons_succ, List.getElem_cons_zero, Act.put, List.setIfInBounds_toArray, List.set_cons_zero, List.set_cons_succ]
      refine wpAnyH_take (i := 1) (v := .string H) rfl (by kernel_rfl) (by kernel_rfl) (by kernel_rfl) (fun _ _ _ h => h) (Or.inl ⟨by first | rfl | kernel_rfl, by intro w _; go_simp⟩) HX ?_
      simp only [List.getElem_toArray, List.getElem_cons_succ, List.getElem_cons_zero, Act.put, List.setIfInBounds_toArray, List.set_cons_zero, List.set_cons_succ]
      refine wpAnyH_take (i := 2) (v := .pointer (some ⟨w.heap.size, 3, none⟩)) rfl (by kernel_rfl) (by kernel_rfl) (by kernel_rfl) (fun _ _ _ h => h) (Or.inl ⟨by first | rfl | kernel_rfl, by intro w _; go_simp⟩) HX ?_
      simp only [List.getElem_toArray, List.getElem_cons_succ, List.getElem_cons_zero, Act.put, List.setIfInBounds_toArray, List.set_cons_zero, List.set_cons_succ]
      refine wpAnyH_take (i := 3) (v := .string D) rfl (by kernel_rfl) (by kernel_rfl) (by kernel_rfl) (fun _ _ _ h => h) (Or.inl ⟨by first | rfl | kernel_rfl, by intro w hw; have c0 := TS.c0 hw; have c1 := TS.c1 hw; have c2 := TS.c2 hw; have c3 := TS.c3 hw; go_simp⟩) HX ?_
      simp only [List.getElem_toArray, List.getElem_cons_succ, List.getElem_cons_zero, Act.put, List.setIfInBounds_toArray, List.set_cons_zero, List.set_cons_succ]
      refine wpAnyH_take (i := 4) (v := .string (H ++ D)) rfl (by kernel_rfl) (by kernel_rfl) (by kernel_rfl) (fun _ _ _ h => h) (Or.inl ⟨by first | rfl | kernel_rfl, by intro w _; go_simp⟩) HX ?_
      simp only [List.getElem_toArray, List.getElem_cons_succ, List.getElem_cons_zero, Act.put, List.setIfInBounds_toArray, List.set_cons_zero, List.set_cons_succ]
      refine wpAnyH_take (i := 9) (v := .pointer (some ⟨w.heap.size, 3, none⟩)) rfl (by kernel_rfl) (by kernel_rfl) (by kernel_rfl) (fun _ _ _ h => h) (Or.inl ⟨by first | rfl | kernel_rfl, by intro w _; go_simp⟩) HX ?_
      simp only [List.getElem_toArray, List.getElem_cons_succ, List.getElem_cons_zero, Act.put, List.setIfInBounds_toArray, List.set_cons_zero, List.set_cons_succ]
      refine wpAnyH_take (i := 10) (v := .string D) rfl (by kernel_rfl) (by kernel_rfl) (by kernel_rfl) (fun _ _ _ h => h) (Or.inl ⟨by first | rfl | kernel_rfl, by intro w hw; have c0 := TS.c0 hw; have c1 := TS.c1 hw; have c2 := TS.c2 hw; have c3 := TS.c3 hw; go_simp⟩) HX ?_
      simp only [List.getElem_toArray, List.getElem_cons_succ, List.getElem_cons_zero, Act.put, List.setIfInBounds_toArray, List.set_cons_zero, List.set_cons_succ]
      refine wpAnyH_ready (rs := [5]) (by kernel_rfl) (by simp) (AllReadyH.cons (by simp only [List.getElem?_toArray, List.getElem?_cons_succ, List.getElem?_cons_zero]; rfl) (fun K hK => ?_) AllReadyH.nil)
      refine step_want (by first | rfl | kernel_rfl) ?_
      go_simp
      refine (hS1.out _).mono ?_
      rintro e' w5 ⟨rfl, rfl⟩
      refine hK.out _ _ HX (fun _ => ?_)
      clear hK K
      try simp only [List.getElem_toArray, List.getElem_cons_succ, List.getElem_cons_zero, Act.put, List.setIfInBounds_toArray, List.set_cons_zero, List.set_cons_succ]
      refine wpAnyH_take (i := 6) (v := .int .i64 G) rfl (by kernel_rfl) (by kernel_rfl) (by kernel_rfl) (fun _ _ _ h => h) (Or.inl ⟨by first | rfl | kernel_rfl, by intro w _; go_simp⟩) HX ?_
      simp only [List.getElem_toArray, List.getElem_cons_succ, List.getElem_cons_zero, Act.put, List.setIfInBounds_toArray, List.set_cons_zero, List.set_cons_succ]
      refine wpAnyH_ready (rs := [7]) (by kernel_rfl) (by simp) (AllReadyH.cons (by simp only [List.getElem?_toArray, List.getElem?_cons_succ, List.getElem?_cons_zero]; rfl) (fun K hK => ?_) AllReadyH.nil)
      refine step_want (by first | rfl | kernel_rfl) ?_
      go_simp
      refine (hP5.out _).mono ?_
      rintro e' w6 ⟨rfl, b6⟩
      have HX := HX.next b6
      clear b6
      refine hK.out _ _ HX (fun _ => ?_)
      clear hK K
      try simp only [List.getElem_toArray, List.getElem_cons_succ, List.getElem_cons_zero, Act.put, List.setIfInBounds_toArray, List.set_cons_zero, List.set_cons_succ]
      refine wpAnyH_take (i := 8) (v := .string (H ++ A5)) rfl (by kernel_rfl) (by kernel_rfl) (by kernel_rfl) (fun _ _ _ h => h) (Or.inl ⟨by first | rfl | kernel_rfl, by intro w _; go_simp⟩) HX ?_
      simp only [List.getElem_toArray, List.getElem_cons_succ, List.getElem_cons_zero, Act.put, List.setIfInBounds_toArray, List.set_cons_zero, List.set_cons_succ]
      refine wpAnyH_take (i := 11) (v := .string (H ++ A5 ++ D)) rfl (by kernel_rfl) (by kernel_rfl) (by kernel_rfl) (fun _ _ _ h => h) (Or.inl ⟨by first | rfl | kernel_rfl, by intro w _; go_simp⟩) HX ?_
      simp only [List.getElem_toArray, List.getElem_cons_succ, List.getElem_cons_zero, Act.put, List.setIfInBounds_toArray, List.set_cons_zero, List.set_cons_succ]
      refine wpAnyH_take (i := 12) (v := .string (H ++ A5 ++ D)) rfl (by kernel_rfl) (by kernel_rfl) (by kernel_rfl) (fun _ _ _ h => h) (Or.inl ⟨by first | rfl | kernel_rfl, by intro w _; go_simp⟩) HX ?_
      simp only [List.getElem_toArray, List.getElem_cons_succ, List.getElem_cons_zero, Act.put, List.setIfInBounds_toArray, List.set_cons_zero, List.set_cons_succ]
      refine wpAnyH_done (by kernel_rfl) ?_ _
      have hU : (H ++ A5 ++ D).size = 12 + dn := by simp [z8, z5, z6]
      have HTx : Hid (H ++ A5 ++ D ++ A6 = S T) := hE
      clear hE hS1 hP2 hP3 hP4 hP5 hH hcv1 z1 z2 z3 z4 z8 z5
      generalize H ++ A5 ++ D = U at *
      have hu1 : 12 + dn + (112 - dn) ≤ 9223372036854775807 := by omega
      have HX := HX.next ((Below.refl _ _).alloc (Nat.le_refl _) (.cells C6 5))
      go_upto_region 9 with fail
      rw [HTx.out]
      generalize World.alloc _ _ = W7 at *
      clear hmk hcv hU HTx z6 z7
      go_wp2_with fail
      go_loopw [7, 8] (fun s j wr => ∃ m : Nat, m ≤ 4 ∧ j = .int .i64 m ∧ s = .string (S (markN T m)) ∧ TS w w.heap.size k ep i D wr) (fun _ j _ => 4 - (intOf j).toNat)
      case atStart => exact ⟨0, Nat.zero_le _, rfl, rfl, HX⟩
      case round =>
        obtain ⟨m, hm, rfl, rfl, HX⟩ := hrel
        by_cases hlt : m < 4
        · have hln : (S (markN T m)).size = 32 * m := by rw [S_size, HMl.out m (by omega)]
          have hx := HMx.out m
          have hcl := HMc.out m hlt
          have HS := HMs.out m
          have HS1 : Hid _ := HS
          have w1 : IntKind.i64.wrap (31 * (m : Int)) = ((31 * m : Nat) : Int) := by rw [IntKind.wrap_i64]; omega
          have w2 : IntKind.i64.wrap (((31 * m : Nat) : Int) + 31) = ((31 * m + 31 : Nat) : Int) := by rw [IntKind.wrap_i64]; omega
          have s1 : ((31 * m + 31 : Nat) : Int) ≤ 124 := by omega
          have s2 : ((31 * m : Nat) : Int) ≤ ((31 * m + 31 : Nat) : Int) := by omega
          have s3 : 32 * m + 31 ≤ 9223372036854775807 := by omega
          have s4 : 32 * m + 31 + 1 ≤ 9223372036854775807 := by omega
          have gm : (m : Int) < 4 := by omega
          clear HS
          generalize S (markN T m) = Q at *
          generalize S (cut T (31 * m) 31) = P at *
          obtain ⟨ea, hea⟩ : ∃ ea : Nat, ea = 31 * m := ⟨_, rfl⟩
          rw [← hea] at w1 w2 s1 s2 hx
          obtain ⟨eb, heb⟩ : ∃ eb : Nat, eb = ea + 31 := ⟨_, rfl⟩
          rw [← heb] at w2 s1 s2 hx
          generalize S T = TT at *
          clear hea heb
          go_wp2_with fail
          refine wp_region_held (S := fun w' => TS w w.heap.size k ep i D w') (by kernel_rfl) ?_
          change wpAnyH _ _ _ _ _ _ _ _ (World.drew _)
          have HX := HX.drew
          generalize World.drew _ = W9 at *
          refine wpAnyH_take (i := 0) (v := .string Q) rfl (by kernel_rfl) (by kernel_rfl) (by kernel_rfl) (fun _ _ _ h => h) (Or.inl ⟨by first | rfl | kernel_rfl, by intro w _; go_simp⟩) HX ?_
          simp only [List.getElem_toArray, List.getElem_cons_succ, List.getElem_cons_zero, Act.put, List.setIfInBounds_toArray, List.set_cons_zero, List.set_cons_succ]
          refine wpAnyH_take (i := 1) (v := .string TT) rfl (by kernel_rfl) (by kernel_rfl) (by kernel_rfl) (fun _ _ _ h => h) (Or.inl ⟨by first | rfl | kernel_rfl, by intro w _; go_simp⟩) HX ?_
          simp only [List.getElem_toArray, List.getElem_cons_succ, List.getElem_cons_zero, Act.put, List.setIfInBounds_toArray, List.set_cons_zero, List.set_cons_succ]
          refine wpAnyH_take (i := 2) (v := .int .i64 (m : Int)) rfl (by kernel_rfl) (by kernel_rfl) (by kernel_rfl) (fun _ _ _ h => h) (Or.inl ⟨by first | rfl | kernel_rfl, by intro w _; go_simp⟩) HX ?_
          simp only [List.getElem_toArray, List.getElem_cons_succ, List.getElem_cons_zero, Act.put, List.setIfInBounds_toArray, List.set_cons_zero, List.set_cons_succ]
          refine wpAnyH_take (i := 3) (v := .int .i64 (ea : Int)) rfl (by kernel_rfl) (by kernel_rfl) (by kernel_rfl) (fun _ _ _ h => h) (Or.inl ⟨by first | rfl | kernel_rfl, by intro w _; go_simp⟩) HX ?_
          simp only [List.getElem_toArray, List.getElem_cons_succ, List.getElem_cons_zero, Act.put, List.setIfInBounds_toArray, List.set_cons_zero, List.set_cons_succ]
          refine wpAnyH_take (i := 4) (v := .int .i64 (m : Int)) rfl (by kernel_rfl) (by kernel_rfl) (by kernel_rfl) (fun _ _ _ h => h) (Or.inl ⟨by first | rfl | kernel_rfl, by intro w _; go_simp⟩) HX ?_
          simp only [List.getElem_toArray, List.getElem_cons_succ, List.getElem_cons_zero, Act.put, List.setIfInBounds_toArray, List.set_cons_zero, List.set_cons_succ]
          refine wpAnyH_take (i := 5) (v := .int .i64 (ea : Int)) rfl (by kernel_rfl) (by kernel_rfl) (by kernel_rfl) (fun _ _ _ h => h) (Or.inl ⟨by first | rfl | kernel_rfl, by intro w _; go_simp⟩) HX ?_
          simp only [List.getElem_toArray, List.getElem_cons_succ, List.getElem_cons_zero, Act.put, List.setIfInBounds_toArray, List.set_cons_zero, List.set_cons_succ]
          refine wpAnyH_take (i := 6) (v := .int .i64 (eb : Int)) rfl (by kernel_rfl) (by kernel_rfl) (by kernel_rfl) (fun _ _ _ h => h) (Or.inl ⟨by first | rfl | kernel_rfl, by intro w _; go_simp⟩) HX ?_
          simp only [List.getElem_toArray, List.getElem_cons_succ, List.getElem_cons_zero, Act.put, List.setIfInBounds_toArray, List.set_cons_zero, List.set_cons_succ]
          refine wpAnyH_take (i := 7) (v := .string P) rfl (by kernel_rfl) (by kernel_rfl) (by kernel_rfl) (fun _ _ _ h => h) (Or.inl ⟨by first | rfl | kernel_rfl, by intro w _; go_simp⟩) HX ?_
          simp only [List.getElem_toArray, List.getElem_cons_succ, List.getElem_cons_zero, Act.put, List.setIfInBounds_toArray, List.set_cons_zero, List.set_cons_succ]
          refine wpAnyH_take (i := 8) (v := .string (Q ++ P)) rfl (by kernel_rfl) (by kernel_rfl) (by kernel_rfl) (fun _ _ _ h => h) (Or.inl ⟨by first | rfl | kernel_rfl, by intro w _; go_simp⟩) HX ?_
          simp only [List.getElem_toArray, List.getElem_cons_succ, List.getElem_cons_zero, Act.put, List.setIfInBounds_toArray, List.set_cons_zero, List.set_cons_succ]
          refine wpAnyH_ready (rs := [9]) (by kernel_rfl) (by simp) (AllReadyH.cons (by simp only [List.getElem?_toArray, List.getElem?_cons_succ, List.getElem?_cons_zero]; rfl) (fun K hK => ?_) AllReadyH.nil)
          refine step_want (by first | rfl | kernel_rfl) ?_
          go_simp
          have HX := HX.next ((Below.refl _ _).alloc (Nat.le_refl _) (.cells #[.int .u8 165] 5))
          refine hK.out _ _ HX (fun _ => ?_)
          clear hK K
          try simp only [List.getElem_toArray, List.getElem_cons_succ, List.getElem_cons_zero, Act.put, List.setIfInBounds_toArray, List.set_cons_zero, List.set_cons_succ]
          refine wpAnyH_ready (rs := [10]) (by kernel_rfl) (by simp) (AllReadyH.cons (by simp only [List.getElem?_toArray, List.getElem?_cons_succ, List.getElem?_cons_zero]; rfl) (fun K hK => ?_) AllReadyH.nil)
          refine step_want (by first | rfl | kernel_rfl) ?_
          go_simp
          refine hK.out _ _ HX (fun _ => ?_)
          clear hK K
          try simp only [List.getElem_toArray, List.getElem_cons_succ, List.getElem_cons_zero, Act.put, List.setIfInBounds_toArray, List.set_cons_zero, List.set_cons_succ]
          refine wpAnyH_take (i := 11) (v := .string (Q ++ P ++ S [165])) rfl (by kernel_rfl) (by kernel_rfl) (by kernel_rfl) (fun _ _ _ h => h) (Or.inl ⟨by first | rfl | kernel_rfl, by intro w _; go_simp⟩) HX ?_
          simp only [List.getElem_toArray, List.getElem_cons_succ, List.getElem_cons_zero, Act.put, List.setIfInBounds_toArray, List.set_cons_zero, List.set_cons_succ]
          refine wpAnyH_take (i := 12) (v := .string (Q ++ P ++ S [165])) rfl (by kernel_rfl) (by kernel_rfl) (by kernel_rfl) (fun _ _ _ h => h) (Or.inl ⟨by first | rfl | kernel_rfl, by intro w _; go_simp⟩) HX ?_
          simp only [List.getElem_toArray, List.getElem_cons_succ, List.getElem_cons_zero, Act.put, List.setIfInBounds_toArray, List.set_cons_zero, List.set_cons_succ]
          refine wpAnyH_done (by kernel_rfl) ?_ _
          go_wp2
          go_roundw
          case rel => first | exact ⟨m + 1, by omega, by go_num, by rw [HS1.out], HX⟩ | ((repeat apply Exists.intro); exact ⟨⟨m + 1, by omega, by go_num, by rw [HS1.out], HX⟩, rfl⟩)
          case measure => simp [intOf]; omega
        · obtain rfl : m = 4 := by omega
          have HB := HX.below
          have HM4 := HMk
          clear HX HMx HMc HMs HMl
          generalize S (markN T 4) = Q at *
          go_wp2
          go_ret2
          exact ⟨ret_enc HM4.out rfl, HB⟩
/-- The document's Encode, for every frame. -/
theorem rencode_any (f : Fr) (w : World) (hT : Tab w) (hT4 : Tab4 w) :
    Calls Tryd.prog 22 #[frV f] w fun e w' => e = .returned (.tuple #[.string (S (encL f)), .int .i64 (encE f)]) ∧ Below w.heap.size w w' := by
  cases h : mayB f with
  | false => rw [(encE_no h).1, (encE_no h).2]; exact rencode_no f w h
  | true =>
    by_cases hl : f.d.length ≤ 112
    · have he := encE_ok.2 ⟨h, hl⟩
      rw [encL_ok he, he]; exact rencode_ok f w hT hT4 h hl
    · rw [(encE_long h hl).1, (encE_long h hl).2]; exact rencode_long f w h hl
end Go.Proofs.YtalofhnjlmgloaaDoor
