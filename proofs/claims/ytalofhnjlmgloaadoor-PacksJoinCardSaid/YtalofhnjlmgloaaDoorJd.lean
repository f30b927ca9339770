/- The document's own Decode. -/
import Derived.Test.YtalofhnjlmgloaaDoorJb
namespace Go.Proofs.YtalofhnjlmgloaaDoor
open Go.RowKit

/-- The first m parts of a block, each without its last byte. -/
def unmN (b : List UInt8) : Nat → List UInt8
  | 0 => []
  | m + 1 => unmN b m ++ cut b (32 * m) 31
theorem unmN_length (b : List UInt8) (hb : b.length = 128) : ∀ m, m ≤ 4 → (unmN b m).length = 31 * m
  | 0, _ => rfl
  | m + 1, h => by
    rw [unmN, List.length_append, unmN_length b hb m (by omega), cut_length b (32 * m) 31 (by omega)]; omega
theorem unmN_all (b : List UInt8) : unmN b 4 = unmL b := by
  simp only [unmN, unmL, List.nil_append]
  simp [List.append_assoc]
/-- The frame that the document's Decode tries. -/
def tryF (t : List UInt8) : Fr := ⟨((t[0]?.getD 0).toNat : Int), numL (cut t 1 4), numL (cut t 5 2), cut t 12 (min (t[7]?.getD 0).toNat 112)⟩
theorem tryF_near (t : List UInt8) (ht : t.length = 124) (h : (t[7]?.getD 0).toNat ≤ 112) : tryF t = tellF t := by
  apply Fr.ext'
  · show _ = numL (cut t 0 1); rw [num_one t 0 (by omega)]; rfl
  · rfl
  · rfl
  · show cut t 12 (min _ 112) = cut t 12 _; rw [Nat.min_eq_left h]
theorem tryF_far (b : List UInt8) (hb : b.length = 128) (h : ¬ ((unmL b)[7]?.getD 0).toNat ≤ 112) (h0 : encE (tryF (unmL b)) = 0) : encL (tryF (unmL b)) ≠ b := by
  intro e
  have hl := (encE_ok.1 h0).2
  have h1 : unmL b = textL (tryF (unmL b)) := by
    have := congrArg unmL e
    rw [encL_ok h0, unm_mark (textL_length hl)] at this
    exact this.symm
  have h2 := text_count (tryF (unmL b)) hl
  rw [← h1] at h2
  have h3 : (tryF (unmL b)).d.length = 112 := by
    show (cut (unmL b) 12 (min _ 112)).length = 112
    rw [Nat.min_eq_right (by omega), cut_length _ _ _ (by rw [unmL_length hb]; omega)]
  omega
theorem rget_S (t : List UInt8) (ht : t.length = 124) (a size : Nat) (hz : isSz size = true) (h8 : ((size : Int) == 8) = false) (ha : a + size ≤ 124) (w : World) :
    Calls Tryd.prog 34 #[.string (S t), .int .i64 a, .int .i64 size] w fun e w' => e = .returned (.tuple #[.int .i64 (numL (cut t a size)), .int .i64 ((a + size : Nat) : Int), .bool true]) ∧ w' = w := by
  have hsz : (S t).size = 124 := by rw [S_size, ht]
  have h := rget_any (S t) a size w (by omega) (by omega)
  rw [getV_yes (by
    unfold getB
    rw [hz, stB_iff.2 (by omega), h8]; rfl)] at h
  rw [show ((a : Int)).toNat = a by omega, show ((size : Int)).toNat = size by omega, win_S] at h
  rw [show ((a + size : Nat) : Int) = (a : Int) + (size : Int) by omega]
  exact h
theorem rdecode_short (b : List UInt8) (w : World) (hl : b.length ≠ 128) :
    Calls Tryd.prog 27 #[.string (S b)] w fun e w' => e = .returned (.tuple #[frV (decF b), .int .i64 (decE b)]) ∧ Below w.heap.size w w' := by
  have hd : decB b = false := by simp [decB, hl]
  rw [(dec_no hd).1, (dec_no hd).2]
  have hz : (((S b).size : Int) == 128) = false := by rw [S_size]; simp; omega
  clear hd hl
  generalize S b = A at *
  go_enter Tryd.func27, Tryd.ntmps27
  go_wp2
  exact bodyPost_ret (v := .tuple #[.agg #[.int .u8 0, .int .i64 0, .int .i64 0, .string ⟨#[]⟩], .int .i64 10]) (results_celt Tryd.results27 _ _ w.heap.size _ _ (0, 0) _ rfl (heap_alloc_last w _) Tryd.underlying39 rfl info_fr) rfl ⟨rfl, (Below.refl _ _).alloc (Nat.le_refl _) _⟩
set_option maxRecDepth 100000 in
set_option maxHeartbeats 8000000 in
set_option linter.unusedSimpArgs false in
theorem rdecode_long (b : List UInt8) (w : World) (hT : Tab w) (hT4 : Tab4 w) (hl : b.length = 128) :
    Calls Tryd.prog 27 #[.string (S b)] w fun e w' => e = .returned (.tuple #[frV (decF b), .int .i64 (decE b)]) ∧ Below w.heap.size w w' := by
  have hz : (S b).size = 128 := by rw [S_size, hl]
  have htl := unmL_length hl
  have HUa : Hid (S (unmN b 4) = S (unmL b)) := by show _ = _; rw [unmN_all]
  have HUl : Hid (∀ m, m ≤ 4 → (unmN b m).length = 31 * m) := unmN_length b hl
  have HUs : Hid (∀ m, S (unmN b m) ++ S (cut b (32 * m) 31) = S (unmN b (m + 1))) := fun m => by rw [S_append]; rfl
  have HUc : Hid (∀ m, m < 4 → (S (cut b (32 * m) 31)).size = 31) := fun m hm => by rw [S_size, cut_length _ _ _ (by omega)]
  have HUx : Hid (∀ m, (S b).extract (32 * m) (32 * m + 31) = S (cut b (32 * m) 31)) := fun m => by rw [S_ext]; congr 2; omega
  have h2 : Hid (∀ w : World, Calls Tryd.prog 34 #[.string (S (unmL b)), .int .i64 1, .int .i64 4] w fun e w' => e = .returned (.tuple #[.int .i64 (numL (cut (unmL b) 1 4)), .int .i64 5, .bool true]) ∧ w' = w) := fun w => rget_S (unmL b) htl 1 4 rfl rfl (by omega) w
  have h3 : Hid (∀ w : World, Calls Tryd.prog 34 #[.string (S (unmL b)), .int .i64 5, .int .i64 2] w fun e w' => e = .returned (.tuple #[.int .i64 (numL (cut (unmL b) 5 2)), .int .i64 7, .bool true]) ∧ w' = w) := fun w => rget_S (unmL b) htl 5 2 rfl rfl (by omega) w
  have hTz : (S (unmL b)).size = 124 := by rw [S_size, htl]
  have z0 : 0 < (S (unmL b)).size := by omega
  have z7 : 7 < (S (unmL b)).size := by omega
  have i0 : (((S (unmL b))[0]'z0).toNat : Int) = (((unmL b)[0]?.getD 0).toNat : Int) := get_bytes (unmL b) 0 _ (by rw [List.getElem?_eq_getElem (by omega)]; rfl) z0
  have i7 : (((S (unmL b))[7]'z7).toNat : Int) = (((unmL b)[7]?.getD 0).toNat : Int) := get_bytes (unmL b) 7 _ (by rw [List.getElem?_eq_getElem (by omega)]; rfl) z7
  have hqle : min ((unmL b)[7]?.getD 0).toNat 112 ≤ 112 := Nat.min_le_right _ _
  have hmin : ∀ W : World, (Builtin.min_ #[3, 3] 3 #[.int .i64 (((unmL b)[7]?.getD 0).toNat : Int), .int .i64 112]).run Tryd.prog W = .ok (.int .i64 ((min ((unmL b)[7]?.getD 0).toNat 112 : Nat) : Int)) W := fun W => by
    simp [Builtin.min_, Builtin.min2]
    omega
  have hxd : (S (unmL b)).extract 12 (12 + min ((unmL b)[7]?.getD 0).toNat 112) = S (tryF (unmL b)).d := by
    rw [S_ext, Nat.add_sub_cancel_left]; rfl
  have hE : Hid (∀ w : World, Tab w → Tab4 w → Calls Tryd.prog 22 #[.agg #[.int .u8 (((unmL b)[0]?.getD 0).toNat : Int), .int .i64 (numL (cut (unmL b) 1 4)), .int .i64 (numL (cut (unmL b) 5 2)), .string (S (tryF (unmL b)).d)]] w fun e w' => e = .returned (.tuple #[.string (S (encL (tryF (unmL b)))), .int .i64 (encE (tryF (unmL b)))]) ∧ Below w.heap.size w w') := fun w h h4 => rencode_any (tryF (unmL b)) w h h4
  have hcase : (encE (tryF (unmL b)) = 0 ∧ S (encL (tryF (unmL b))) = S b ∧ frV (decF b) = .agg #[.int .u8 (((unmL b)[0]?.getD 0).toNat : Int), .int .i64 (numL (cut (unmL b) 1 4)), .int .i64 (numL (cut (unmL b) 5 2)), .string (S (tryF (unmL b)).d)] ∧ decE b = 0) ∨ ((frV (decF b) = .agg #[.int .u8 0, .int .i64 0, .int .i64 0, .string ⟨#[]⟩] ∧ decE b = 10) ∧ ((encE (tryF (unmL b)) == 0) = false ∨ (encE (tryF (unmL b)) = 0 ∧ ((S (encL (tryF (unmL b)))).toList == (S b).toList) = false))) := by
    by_cases hn : ((unmL b)[7]?.getD 0).toNat ≤ 112
    · have htr := tryF_near (unmL b) htl hn
      cases hd : decB b with
      | true =>
        refine .inl ?_
        have hd' := hd
        unfold decB at hd'
        simp only [Bool.and_eq_true, decide_eq_true_eq] at hd'
        refine ⟨by rw [htr]; exact hd'.2.2.1, by rw [htr, hd'.2.2.2], ?_, ?_⟩
        · unfold decF; rw [hd, if_pos rfl, ← htr]; rfl
        · unfold decE; rw [hd]; rfl
      | false =>
        refine .inr ⟨dec_no hd, ?_⟩
        by_cases h0 : encE (tryF (unmL b)) = 0
        · refine .inr ⟨h0, S_ne fun h => ?_⟩
          rw [htr] at h0 h
          have : decB b = true := by
            unfold decB
            simp [hl, hn, h0, h]
          rw [hd] at this; cases this
        · exact .inl (by simpa using h0)
    · have hd : decB b = false := by simp [decB, hn]
      refine .inr ⟨dec_no hd, ?_⟩
      by_cases h0 : encE (tryF (unmL b)) = 0
      · exact .inr ⟨h0, S_ne (tryF_far b hl hn h0)⟩
      · exact .inl (by simpa using h0)
  have HG : Hid ((w.alloc (.cells #[.int .u8 0, .int .i64 0, .int .i64 0, .string ⟨#[]⟩] 39)).heap[w.heap.size]? = some (.cells #[.int .u8 0, .int .i64 0, .int .i64 0, .string ⟨#[]⟩] 39 (0, 0))) := heap_alloc_last w _
  have hb0 : Below w.heap.size w (w.alloc (.cells #[.int .u8 0, .int .i64 0, .int .i64 0, .string ⟨#[]⟩] 39)) := (Below.refl _ _).alloc (Nat.le_refl _) _
  have HB0 : Hid _ := hb0
  have HT : Hid (Tab (w.alloc (.cells #[.int .u8 0, .int .i64 0, .int .i64 0, .string ⟨#[]⟩] 39))) := hT.below hb0
  have HT4 : Hid (Tab4 (w.alloc (.cells #[.int .u8 0, .int .i64 0, .int .i64 0, .string ⟨#[]⟩] 39))) := hT4.below hb0 hT4.lt
  have HSz : Hid (w.heap.size < (w.alloc (.cells #[.int .u8 0, .int .i64 0, .int .i64 0, .string ⟨#[]⟩] 39)).heap.size) := by show _ < _; simp
  generalize frV (decF b) = V at *
  generalize decE b = N at *
  generalize encE (tryF (unmL b)) = M at *
  generalize S (encL (tryF (unmL b))) = Y at *
  generalize S (tryF (unmL b)).d = D at *
  generalize numL (cut (unmL b) 1 4) = N1 at *
  generalize numL (cut (unmL b) 5 2) = N2 at *
  generalize ((unmL b)[0]?.getD 0).toNat = n0 at *
  obtain ⟨q, hq⟩ : ∃ q, min ((unmL b)[7]?.getD 0).toNat 112 = q := ⟨_, rfl⟩
  rw [hq] at hmin hxd hqle
  clear hq
  generalize ((unmL b)[7]?.getD 0).toNat = n7 at *
  clear htl hb0 hT hT4 hl
  have HC : Hid _ := hcase
  clear hcase
  generalize S (unmL b) = TT at *
  generalize S b = A at *
  have w6 : IntKind.i64.wrap (n7 : Int) = (n7 : Int) := by
    have h256 := u8_lt (TT[7]'z7)
    rw [IntKind.wrap_i64]
    omega
  have w7 : IntKind.i64.wrap (12 + (q : Int)) = 12 + (q : Int) := by rw [IntKind.wrap_i64]; omega
  have v1 : (12 : Int) + (q : Int) ≤ 124 := by omega
  have v2 : (0 : Int) ≤ 12 + (q : Int) := by omega
  have v3 : (12 : Int) ≤ 12 + (q : Int) := by omega
  have v4 : (12 + (q : Int)).toNat = 12 + q := by omega
  go_enter Tryd.func27, Tryd.ntmps27
  go_upto_region 3 with fail
  generalize w.alloc _ = W0 at *
  go_wp2_with fail
  go_loop [4, 5] (fun s j => ∃ m : Nat, m ≤ 4 ∧ j = .int .i64 m ∧ s = .string (S (unmN b m))) (fun _ j => 4 - (intOf j).toNat)
  case atStart => exact ⟨0, Nat.zero_le _, rfl, rfl⟩
  case round =>
    obtain ⟨m, hm, rfl, rfl⟩ := hrel
    by_cases hlt : m < 4
    · have hln : (S (unmN b m)).size = 31 * m := by rw [S_size, HUl.out m (by omega)]
      have hsm : (S (unmN b m)).size ≤ 124 := by omega
      have HS1 : Hid _ := HUs.out m
      have hx := HUx.out m
      have hcl := HUc.out m hlt
      generalize S (unmN b m) = Q at *
      generalize S (cut b (32 * m) 31) = P at *
      go_wp2
      go_round
      case rel => exact ⟨m + 1, by omega, by go_num, by rw [HS1.out]⟩
      case measure => simp [intOf]; omega
    · obtain rfl : m = 4 := by omega
      rw [HUa.out]
      clear HUa HUl HUs HUc HUx hlt hm
      go_wp2_with fail
      refine (h2.out _).mono ?_
      rintro e' w1 ⟨rfl, rfl⟩
      go_wp2_with fail
      refine (h3.out _).mono ?_
      rintro e' w1 ⟨rfl, rfl⟩
      go_wp2_with fail
      refine wp_region_held (S := fun w' => w'.heap[w.heap.size]? = some (.cells #[.int .u8 0, .int .i64 0, .int .i64 0, .string ⟨#[]⟩] 39 (0, 0)) ∧ Tab w' ∧ Tab4 w' ∧ Below w.heap.size w w' ∧ w.heap.size < w'.heap.size) (by kernel_rfl) ?_
      change wpAnyH _ _ _ _ _ _ _ _ (World.drew _)
      have HX : w1.drew.heap[w.heap.size]? = some (.cells #[.int .u8 0, .int .i64 0, .int .i64 0, .string ⟨#[]⟩] 39 (0, 0)) ∧ Tab w1.drew ∧ Tab4 w1.drew ∧ Below w.heap.size w w1.drew ∧ w.heap.size < w1.drew.heap.size := ⟨HG.out, HT.out, HT4.out, HB0.out.drew, HSz.out⟩
      generalize World.drew _ = W5 at *
      have HN : Hid (∀ o : Obj, (W5.alloc o).heap[w.heap.size]? = some (.cells #[.int .u8 0, .int .i64 0, .int .i64 0, .string ⟨#[]⟩] 39 (0, 0)) ∧ Tab (W5.alloc o) ∧ Tab4 (W5.alloc o) ∧ Below w.heap.size w (W5.alloc o) ∧ w.heap.size < (W5.alloc o).heap.size) := fun o => by
        have hb := (Below.refl W5.heap.size W5).alloc (Nat.le_refl _) o
        exact ⟨(hb.block _ HX.2.2.2.2).trans HX.1, HX.2.1.below hb, HX.2.2.1.below hb HX.2.2.1.lt, HX.2.2.2.1.trans (hb.mono HX.2.2.2.1.size), Nat.lt_of_lt_of_le HX.2.2.2.2 hb.size⟩
      refine wpAnyH_take (i := 0) (v := .string TT) rfl (by kernel_rfl) (by kernel_rfl) (by kernel_rfl) (fun _ _ _ h => h) (Or.inl ⟨by first | rfl | kernel_rfl, by intro w _; go_simp⟩) HX ?_
      simp only [List.getElem_toArray, List.getElem_cons_succ, List.getElem_cons_zero, Act.put, List.setIfInBounds_toArray, List.set_cons_zero, List.set_cons_succ]
      refine wpAnyH_take (i := 1) (v := .int .u8 (n0 : Int)) rfl (by kernel_rfl) (by kernel_rfl) (by kernel_rfl) (fun _ _ _ h => h) (Or.inl ⟨by first | rfl | kernel_rfl, by intro w _; go_simp⟩) HX ?_
      simp only [List.getElem_toArray, List.getElem_cons_succ, List.getElem_cons_zero, Act.put, List.setIfInBounds_toArray, List.set_cons_zero, List.set_cons_succ]
      refine wpAnyH_take (i := 2) (v := .int .i64 N1) rfl (by kernel_rfl) (by kernel_rfl) (by kernel_rfl) (fun _ _ _ h => h) (Or.inl ⟨by first | rfl | kernel_rfl, by intro w _; go_simp⟩) HX ?_
      simp only [List.getElem_toArray, List.getElem_cons_succ, List.getElem_cons_zero, Act.put, List.setIfInBounds_toArray, List.set_cons_zero, List.set_cons_succ]
      refine wpAnyH_take (i := 3) (v := .int .i64 N2) rfl (by kernel_rfl) (by kernel_rfl) (by kernel_rfl) (fun _ _ _ h => h) (Or.inl ⟨by first | rfl | kernel_rfl, by intro w _; go_simp⟩) HX ?_
      simp only [List.getElem_toArray, List.getElem_cons_succ, List.getElem_cons_zero, Act.put, List.setIfInBounds_toArray, List.set_cons_zero, List.set_cons_succ]
      refine wpAnyH_take (i := 4) (v := .string TT) rfl (by kernel_rfl) (by kernel_rfl) (by kernel_rfl) (fun _ _ _ h => h) (Or.inl ⟨by first | rfl | kernel_rfl, by intro w _; go_simp⟩) HX ?_
      simp only [List.getElem_toArray, List.getElem_cons_succ, List.getElem_cons_zero, Act.put, List.setIfInBounds_toArray, List.set_cons_zero, List.set_cons_succ]
      refine wpAnyH_take (i := 5) (v := .string TT) rfl (by kernel_rfl) (by kernel_rfl) (by kernel_rfl) (fun _ _ _ h => h) (Or.inl ⟨by first | rfl | kernel_rfl, by intro w _; go_simp⟩) HX ?_
      simp only [List.getElem_toArray, List.getElem_cons_succ, List.getElem_cons_zero, Act.put, List.setIfInBounds_toArray, List.set_cons_zero, List.set_cons_succ]
      refine wpAnyH_take (i := 6) (v := .int .u8 (n7 : Int)) rfl (by kernel_rfl) (by kernel_rfl) (by kernel_rfl) (fun _ _ _ h => h) (Or.inl ⟨by first | rfl | kernel_rfl, by intro w _; go_simp⟩) HX ?_
      simp only [List.getElem_toArray, List.getElem_cons_succ, List.getElem_cons_zero, Act.put, List.setIfInBounds_toArray, List.set_cons_zero, List.set_cons_succ]
      refine wpAnyH_take (i := 7) (v := .int .i64 (n7 : Int)) rfl (by kernel_rfl) (by kernel_rfl) (by kernel_rfl) (fun _ _ _ h => h) (Or.inl ⟨by first | rfl | kernel_rfl, by intro w _; go_simp⟩) HX ?_
      simp only [List.getElem_toArray, List.getElem_cons_succ, List.getElem_cons_zero, Act.put, List.setIfInBounds_toArray, List.set_cons_zero, List.set_cons_succ]
      refine wpAnyH_take (i := 8) (v := .int .i64 (q : Int)) rfl (by kernel_rfl) (by kernel_rfl) (by kernel_rfl) (fun _ _ _ h => h) (Or.inl ⟨by first | rfl | kernel_rfl, by intro w _; go_simp⟩) HX ?_
      simp only [List.getElem_toArray, List.getElem_cons_succ, List.getElem_cons_zero, Act.put, List.setIfInBounds_toArray, List.set_cons_zero, List.set_cons_succ]
      refine wpAnyH_take (i := 9) (v := .int .i64 (12 + (q : Int))) rfl (by kernel_rfl) (by kernel_rfl) (by kernel_rfl) (fun _ _ _ h => h) (Or.inl ⟨by first | rfl | kernel_rfl, by intro w _; go_simp⟩) HX ?_
      simp only [List.getElem_toArray, List.getElem_cons_succ, List.getElem_cons_zero, Act.put, List.setIfInBounds_toArray, List.set_cons_zero, List.set_cons_succ]
      refine wpAnyH_take (i := 10) (v := .string D) rfl (by kernel_rfl) (by kernel_rfl) (by kernel_rfl) (fun _ _ _ h => h) (Or.inl ⟨by first | rfl | kernel_rfl, by intro w _; go_simp⟩) HX ?_
      simp only [List.getElem_toArray, List.getElem_cons_succ, List.getElem_cons_zero, Act.put, List.setIfInBounds_toArray, List.set_cons_zero, List.set_cons_succ]
      refine wpAnyH_take (i := 11) (v := .agg #[.int .u8 (n0 : Int), .int .i64 N1, .int .i64 N2, .string D]) rfl (by kernel_rfl) (by kernel_rfl) (by kernel_rfl) (fun _ _ _ h => h) (Or.inl ⟨by first | rfl | kernel_rfl, by intro w _; go_simp⟩) HX ?_
      simp only [List.getElem_toArray, List.getElem_cons_succ, List.getElem_cons_zero, Act.put, List.setIfInBounds_toArray, List.set_cons_zero, List.set_cons_succ]
      refine wpAnyH_ready (rs := [12]) (by kernel_rfl) (by simp) (AllReadyH.cons (by simp only [List.getElem?_toArray, List.getElem?_cons_succ, List.getElem?_cons_zero]; rfl) (fun K hK => ?_) AllReadyH.nil)
      refine step_want (by first | rfl | kernel_rfl) ?_
      go_simp
      have HX := HN.out (.cells #[.int .u8 0, .int .i64 0, .int .i64 0, .string ⟨#[]⟩] 39)
      refine hK.out _ _ HX (fun _ => ?_)
      clear hK K
      try simp only [List.getElem_toArray, List.getElem_cons_succ, List.getElem_cons_zero, Act.put, List.setIfInBounds_toArray, List.set_cons_zero, List.set_cons_succ]
      refine wpAnyH_ready (rs := [13]) (by kernel_rfl) (by simp) (AllReadyH.cons (by simp only [List.getElem?_toArray, List.getElem?_cons_succ, List.getElem?_cons_zero]; rfl) (fun K hK => ?_) AllReadyH.nil)
      refine step_want (by first | rfl | kernel_rfl) ?_
      go_simp
      have HX := HN.out (.cells #[.int .u8 (n0 : Int), .int .i64 N1, .int .i64 N2, .string D] 39)
      refine hK.out _ _ HX (fun _ => ?_)
      clear hK K
      try simp only [List.getElem_toArray, List.getElem_cons_succ, List.getElem_cons_zero, Act.put, List.setIfInBounds_toArray, List.set_cons_zero, List.set_cons_succ]
      refine wpAnyH_done (by kernel_rfl) ?_ _
      have G6 := heap_alloc_last W5 (.cells #[.int .u8 (n0 : Int), .int .i64 N1, .int .i64 N2, .string D] 39)
      have hlt6 : W5.heap.size < (W5.alloc (.cells #[.int .u8 (n0 : Int), .int .i64 N1, .int .i64 N2, .string D] 39)).heap.size := by simp
      have HX6 := HN.out (.cells #[.int .u8 (n0 : Int), .int .i64 N1, .int .i64 N2, .string D] 39)
      clear HX HN
      generalize W5.heap.size = B2 at *
      generalize W5.alloc (.cells #[.int .u8 (n0 : Int), .int .i64 N1, .int .i64 N2, .string D] 39) = W6 at *
      have HX7 : Hid _ := HX6
      have HG6 : Hid _ := G6
      have HLt : Hid _ := hlt6
      clear HX6 hlt6
      have c0 : W6.cell? ⟨B2, 0, none⟩ = some (.int .u8 (n0 : Int)) := by rw [cell_of_row _ _ _ _ _ _ G6]; rfl
      have c1 : W6.cell? ⟨B2, 1, none⟩ = some (.int .i64 N1) := by rw [cell_of_row _ _ _ _ _ _ G6]; rfl
      have c2 : W6.cell? ⟨B2, 2, none⟩ = some (.int .i64 N2) := by rw [cell_of_row _ _ _ _ _ _ G6]; rfl
      have c3 : W6.cell? ⟨B2, 3, none⟩ = some (.string D) := by rw [cell_of_row _ _ _ _ _ _ G6]; rfl
      clear G6
      go_wp2_with fail
      refine (hE.out _ HX7.out.2.1 HX7.out.2.2.1).mono ?_
      rintro e' w4 ⟨rfl, b4⟩
      have G5 : Hid (w4.heap[w.heap.size]? = some (.cells #[.int .u8 0, .int .i64 0, .int .i64 0, .string ⟨#[]⟩] 39 (0, 0))) := (b4.block _ HX7.out.2.2.2.2).trans HX7.out.1
      have G6 : Hid (w4.heap[B2]? = some (.cells #[.int .u8 (n0 : Int), .int .i64 N1, .int .i64 N2, .string D] 39 (0, 0))) := (b4.block _ HLt.out).trans HG6.out
      have HB4 : Hid (Below w.heap.size w w4) := HX7.out.2.2.2.1.trans (b4.mono HX7.out.2.2.2.1.size)
      clear b4 c0 c1 c2 c3 HX7 HG6 HLt HG HB0 HT HT4 HSz h2 h3 hE hmin hxd
      rcases HC.out with ⟨hM, hY, hV, hN⟩ | ⟨⟨hV, hN⟩, hM | ⟨hM, hY⟩⟩
      · subst hM hY hN
        have HV : Hid (V = _) := hV
        clear hV HC
        go_wp2_with (first | (refine wpList_load_row rfl 39 (.tmp 12) rfl B2 rfl _ _ (0, 0) _ G6.out Tryd.underlying39 rfl (fr_size _ _ _ _) ?_) | (refine wpList_store_row rfl 39 (.tmp 2) _ rfl w.heap.size #[.int .u8 (n0 : Int), .int .i64 N1, .int .i64 N2, .string D] rfl rfl _ _ G5.out (fr_size _ _ _ _) (fr_same _ _ _ _ _ _ _ _) (fr_one _ _ _ _) ?_))
        refine bodyPost_ret (v := .tuple #[.agg #[.int .u8 (n0 : Int), .int .i64 N1, .int .i64 N2, .string D], .int .i64 0]) (results_celt Tryd.results27 _ _ w.heap.size _ #[.int .u8 (n0 : Int), .int .i64 N1, .int .i64 N2, .string D] (0, 0) _ rfl (heap_setRow_same G5.out) Tryd.underlying39 rfl info_fr) rfl ⟨by rw [HV.out], below_setRow HB4.out (Nat.le_refl _) _⟩
      · have hM2 : ¬ M = 0 := by simpa using hM
        subst hV hN
        clear HC
        go_wp2_with (refine wpList_store_row rfl 39 (.tmp 2) _ rfl w.heap.size #[.int .u8 0, .int .i64 0, .int .i64 0, .string ⟨#[]⟩] rfl rfl _ _ G5.out (fr_size _ _ _ _) (fr_same _ _ _ _ _ _ _ _) (fr_one _ _ _ _) ?_)
        exact bodyPost_ret (v := .tuple #[.agg #[.int .u8 0, .int .i64 0, .int .i64 0, .string ⟨#[]⟩], .int .i64 10]) (results_celt Tryd.results27 _ _ w.heap.size _ #[.int .u8 0, .int .i64 0, .int .i64 0, .string ⟨#[]⟩] (0, 0) _ rfl (heap_setRow_same G5.out) Tryd.underlying39 rfl info_fr) rfl ⟨rfl, below_setRow HB4.out (Nat.le_refl _) _⟩
      · subst hV hN hM
        clear HC
        go_wp2_with (refine wpList_store_row rfl 39 (.tmp 2) _ rfl w.heap.size #[.int .u8 0, .int .i64 0, .int .i64 0, .string ⟨#[]⟩] rfl rfl _ _ G5.out (fr_size _ _ _ _) (fr_same _ _ _ _ _ _ _ _) (fr_one _ _ _ _) ?_)
        exact bodyPost_ret (v := .tuple #[.agg #[.int .u8 0, .int .i64 0, .int .i64 0, .string ⟨#[]⟩], .int .i64 10]) (results_celt Tryd.results27 _ _ w.heap.size _ #[.int .u8 0, .int .i64 0, .int .i64 0, .string ⟨#[]⟩] (0, 0) _ rfl (heap_setRow_same G5.out) Tryd.underlying39 rfl info_fr) rfl ⟨rfl, below_setRow HB4.out (Nat.le_refl _) _⟩
/-- The document's Decode, for every text. -/
theorem rdecode_any (b : List UInt8) (w : World) (hT : Tab w) (hT4 : Tab4 w) :
    Calls Tryd.prog 27 #[.string (S b)] w fun e w' => e = .returned (.tuple #[frV (decF b), .int .i64 (decE b)]) ∧ Below w.heap.size w w' := by
  by_cases hl : b.length = 128
  · exact rdecode_long b w hT hT4 hl
  · exact rdecode_short b w hl
end Go.Proofs.YtalofhnjlmgloaaDoor
