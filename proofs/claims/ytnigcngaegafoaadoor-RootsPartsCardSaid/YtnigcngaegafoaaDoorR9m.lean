/- The law RootsParts (layer 9). -/
import Derived.Test.YtnigcngaegafoaaDoorR9k
namespace Go.Proofs.YtnigcngaegafoaaDoor
open Go.RowKit

theorem pow_and {k : Nat} (h : ∃ e, k = 2 ^ e) (hk : k < 100) : bits BinOp.and IntKind.i64 (k : Int) ((k : Int) - 1) = 0 := by
  obtain ⟨e, rfl⟩ := h
  have he : e < 7 := Nat.lt_of_not_le fun h => by
    have := Nat.pow_le_pow_right (n := 2) (by decide) h
    omega
  match e, he with
  | 0, _ => rfl
  | 1, _ => rfl
  | 2, _ => rfl
  | 3, _ => rfl
  | 4, _ => rfl
  | 5, _ => rfl
  | 6, _ => rfl
  | e + 7, h => omega
set_option maxRecDepth 100000 in
set_option maxHeartbeats 2000000 in
set_option linter.unusedSimpArgs false in
theorem parts_walk {w : World} {v : Value} {L : List (List UInt8)} (hK : TabL w) (hL : HsAt w v L) (hroom : ∀ a n c, v = .slice a n c → n ≤ c) : Calls Tryd.prog 5 #[v] w fun e w' => e = .returned (.bool true) ∧ Below w.heap.size w w' := by
  obtain ⟨a, c, rfl, -⟩ := id hL
  have hcap : L.length ≤ c := hroom _ _ _ rfl
  have HD : Hid (∀ w', Below w.heap.size w w' → Calls Tryd.prog 12 #[] w' fun e w'' => e = .returned (.bool true) ∧ Below w'.heap.size w' w'') := fun w' h => does_any w' (hK.below h hK.lt)
  have HB0 : Hid (Below w.heap.size w w) := Below.refl _ _
  by_cases hs : 100 < L.length ∨ L.length < 2
  · have hcase : (L.length : Int) > 100 ∨ (¬ (L.length : Int) > 100 ∧ (L.length : Int) < 2) := by omega
    clear hL hK hroom hs
    rcases hcase with h1 | ⟨h1, h2⟩
    all_goals
      go_enter Tryd.func5, Tryd.ntmps5
      go_wp2_with fail
      refine (HD.out w HB0.out).mono ?_
      rintro e w1 ⟨rfl, b⟩
      have B : Hid _ := b
      clear b
      go_wp2
      go_ret
      exact ⟨rfl, B.out⟩
  have h1 : ¬ (L.length : Int) > 100 := by omega
  have h2 : ¬ (L.length : Int) < 2 := by omega
  obtain ⟨s1, s2, s3, s4⟩ := split_ok (n := L.length) (by omega)
  obtain ⟨k, hk⟩ : ∃ k, splitN L.length = k := ⟨_, rfl⟩
  have HSp : Hid (Calls Tryd.prog 13 #[.int .i64 L.length] w fun e w' => e = .returned (.int .i64 k) ∧ w' = w) := by
    have := split_any (L.length : Int) w (by omega) (by omega)
    rwa [splitZ_nat, hk] at this
  rw [hk] at s1 s2 s3 s4
  have q1 : decide ((k : Int) < 1) = false := by simp; omega
  have q2 : decide (L.length ≤ k) = false := by simp; omega
  have q3 : wrap64 (2 * (k : Int)) = 2 * (k : Int) := by unfold wrap64; omega
  have q4 : decide (2 * (k : Int) < (L.length : Int)) = false := by simp; omega
  have q5 : wrap64 ((k : Int) - 1) = (k : Int) - 1 := by unfold wrap64; omega
  have q6 := pow_and s4 (by omega)
  obtain ⟨x, hx⟩ : ∃ x, L[0]? = some x := ⟨_, List.getElem?_eq_getElem (by omega)⟩
  obtain ⟨-, b, o, rfl, -⟩ := hL.cells.2 0 x hx
  have HKb : Hid (∀ w', Below w.heap.size w w' → TabL w') := fun w' h => hK.below h hK.lt
  have HR0 : Hid (∀ w', Below w.heap.size w w' → Calls Tryd.prog 9 #[.slice (some ⟨b, o, none⟩) L.length c] w' fun e w'' => e = .returned (.agg (hv (rootH L))) ∧ Below w'.heap.size w' w'') := fun w' h => root_any (HKb.out w' h) (hL.below h) hroom (by omega)
  have HR1 : Hid (∀ w', Below w.heap.size w w' → Calls Tryd.prog 9 #[.slice (some ⟨b, o, none⟩) k c] w' fun e w'' => e = .returned (.agg (hv (rootH (L.take k)))) ∧ Below w'.heap.size w' w'') := fun w' h => root_any (HKb.out w' h) ((hL.below h).take k (by omega)) (fun a n c e => by have := Value.slice.inj e; omega) (by rw [List.length_take]; omega)
  have HR2 : Hid (∀ w', Below w.heap.size w w' → Calls Tryd.prog 9 #[.slice (some ⟨b, o + k * 32, none⟩) (L.length - k) (c - k)] w' fun e w'' => e = .returned (.agg (hv (rootH (L.drop k)))) ∧ Below w'.heap.size w' w'') := fun w' h => by
    have hr := (hL.below h).rest k (by omega) hcap
    rw [if_neg (by omega)] at hr
    exact root_any (HKb.out w' h) hr (fun a n c e => by have := Value.slice.inj e; omega) (by rw [List.length_drop]; omega)
  have HNd : Hid (∀ w', Below w.heap.size w w' → Calls Tryd.prog 15 #[.agg (hv (rootH (L.take k))), .agg (hv (rootH (L.drop k)))] w' fun e w'' => e = .returned (.agg (hv (rootH L))) ∧ Below w'.heap.size w' w'') := fun w' h => by
    have := node_any (rootH (L.take k)) (rootH (L.drop k)) w' (HKb.out w' h) (rootH_32 (fun x hx => hL.len x (List.mem_of_mem_take hx))) (rootH_32 (fun x hx => hL.len x (List.mem_of_mem_drop hx)))
    rwa [show nodeL (rootH (L.take k)) (rootH (L.drop k)) = rootH L by unfold rootH; rw [root_node _ _ (by omega : 2 ≤ L.length), hk]] at this
  have he : ∀ w' : World, (binOp .eql 23 (.agg (hv (rootH L))) (.agg (hv (rootH L)))).run Tryd.prog w' = .ok (.bool true) w' := fun w' => by simpa using eqH w' (rootH L) (rootH L) (rootH_32 hL.len) (rootH_32 hL.len)
  have b0 : (k : Int) ≤ (L.length : Int) := by omega
  have b2 : (k : Int) ≤ (c : Int) := by omega
  have b3 : (L.length : Int) ≤ (c : Int) := by omega
  have b4 : k ≤ c := by omega
  have b5 : ¬ c = k := by omega
  clear hs hK hL hroom hx s4 hk
  generalize hv (rootH L) = R at *
  generalize hv (rootH (L.take k)) = RA at *
  generalize hv (rootH (L.drop k)) = RC at *
  go_enter Tryd.func5, Tryd.ntmps5
  go_wp2_with fail
  refine HSp.out.mono ?_
  rintro e w1 ⟨rfl, h⟩
  have h := h.symm
  subst h
  go_upto_region 6 with fail
  refine wp_region_held (S := Below w.heap.size w) (by kernel_rfl) ?_
  change wpAnyH _ _ _ _ _ _ _ _ (World.drew _)
  have HX : Below w.heap.size w w.drew := HB0.out.drew
  generalize World.drew _ = w4 at *
  refine wpAnyH_take (i := 0) (v := .slice (some ⟨b, o, none⟩) L.length c) rfl (by kernel_rfl) (by kernel_rfl) (by kernel_rfl) (fun _ _ _ h => h) (Or.inl ⟨by rfl, by intro w _; go_simp⟩) HX ?_
  simp only [List.getElem_toArray, List.getElem_cons_succ, List.getElem_cons_zero, Act.put, List.setIfInBounds_toArray, List.set_cons_zero, List.set_cons_succ]
  refine wpAnyH_take (i := 2) (v := .slice (some ⟨b, o, none⟩) L.length c) rfl (by kernel_rfl) (by kernel_rfl) (by kernel_rfl) (fun _ _ _ h => h) (Or.inl ⟨by rfl, by intro w _; go_simp⟩) HX ?_
  simp only [List.getElem_toArray, List.getElem_cons_succ, List.getElem_cons_zero, Act.put, List.setIfInBounds_toArray, List.set_cons_zero, List.set_cons_succ]
  refine wpAnyH_take (i := 3) (v := .int .i64 k) rfl (by kernel_rfl) (by kernel_rfl) (by kernel_rfl) (fun _ _ _ h => h) (Or.inl ⟨by rfl, by intro w _; go_simp⟩) HX ?_
  simp only [List.getElem_toArray, List.getElem_cons_succ, List.getElem_cons_zero, Act.put, List.setIfInBounds_toArray, List.set_cons_zero, List.set_cons_succ]
  refine wpAnyH_take (i := 4) (v := .slice (some ⟨b, o, none⟩) k c) rfl (by kernel_rfl) (by kernel_rfl) (by kernel_rfl) (fun _ _ _ h => h) (Or.inl ⟨by rfl, by intro w9 _; go_simp⟩) HX ?_
  simp only [List.getElem_toArray, List.getElem_cons_succ, List.getElem_cons_zero, Act.put, List.setIfInBounds_toArray, List.set_cons_zero, List.set_cons_succ]
  refine wpAnyH_take (i := 6) (v := .slice (some ⟨b, o, none⟩) L.length c) rfl (by kernel_rfl) (by kernel_rfl) (by kernel_rfl) (fun _ _ _ h => h) (Or.inl ⟨by rfl, by intro w _; go_simp⟩) HX ?_
  simp only [List.getElem_toArray, List.getElem_cons_succ, List.getElem_cons_zero, Act.put, List.setIfInBounds_toArray, List.set_cons_zero, List.set_cons_succ]
  refine wpAnyH_take (i := 7) (v := .int .i64 k) rfl (by kernel_rfl) (by kernel_rfl) (by kernel_rfl) (fun _ _ _ h => h) (Or.inl ⟨by rfl, by intro w _; go_simp⟩) HX ?_
  simp only [List.getElem_toArray, List.getElem_cons_succ, List.getElem_cons_zero, Act.put, List.setIfInBounds_toArray, List.set_cons_zero, List.set_cons_succ]
  refine wpAnyH_take (i := 8) (v := .slice (some ⟨b, o + k * 32, none⟩) (L.length - k) (c - k)) rfl (by kernel_rfl) (by kernel_rfl) (by kernel_rfl) (fun _ _ _ h => h) (Or.inl ⟨by rfl, by intro w9 _; go_simp⟩) HX ?_
  simp only [List.getElem_toArray, List.getElem_cons_succ, List.getElem_cons_zero, Act.put, List.setIfInBounds_toArray, List.set_cons_zero, List.set_cons_succ]
  refine wpAnyH_ready (rs := [1]) (by kernel_rfl) (by simp) (AllReadyH.cons (by simp only [List.getElem?_toArray, List.getElem?_cons_succ, List.getElem?_cons_zero]; rfl) (fun K hK => ?_) AllReadyH.nil)
  refine step_want (by rfl) ?_
  go_simp
  refine (HR0.out _ HX).mono ?_
  rintro e w5 ⟨rfl, b5'⟩
  have HX : Below w.heap.size w w5 := HX.trans (b5'.mono HX.size)
  clear b5'
  refine hK.out _ _ HX (fun _ => ?_)
  clear hK K
  try simp only [List.getElem_toArray, List.getElem_cons_succ, List.getElem_cons_zero, Act.put, List.setIfInBounds_toArray, List.set_cons_zero, List.set_cons_succ]
  refine wpAnyH_ready (rs := [5]) (by kernel_rfl) (by simp) (AllReadyH.cons (by simp only [List.getElem?_toArray, List.getElem?_cons_succ, List.getElem?_cons_zero]; rfl) (fun K hK => ?_) AllReadyH.nil)
  refine step_want (by rfl) ?_
  go_simp
  refine (HR1.out _ HX).mono ?_
  rintro e w5 ⟨rfl, b5'⟩
  have HX : Below w.heap.size w w5 := HX.trans (b5'.mono HX.size)
  clear b5'
  refine hK.out _ _ HX (fun _ => ?_)
  clear hK K
  try simp only [List.getElem_toArray, List.getElem_cons_succ, List.getElem_cons_zero, Act.put, List.setIfInBounds_toArray, List.set_cons_zero, List.set_cons_succ]
  refine wpAnyH_ready (rs := [9]) (by kernel_rfl) (by simp) (AllReadyH.cons (by simp only [List.getElem?_toArray, List.getElem?_cons_succ, List.getElem?_cons_zero]; rfl) (fun K hK => ?_) AllReadyH.nil)
  refine step_want (by rfl) ?_
  go_simp
  refine (HR2.out _ HX).mono ?_
  rintro e w5 ⟨rfl, b5'⟩
  have HX : Below w.heap.size w w5 := HX.trans (b5'.mono HX.size)
  clear b5'
  refine hK.out _ _ HX (fun _ => ?_)
  clear hK K
  try simp only [List.getElem_toArray, List.getElem_cons_succ, List.getElem_cons_zero, Act.put, List.setIfInBounds_toArray, List.set_cons_zero, List.set_cons_succ]
  refine wpAnyH_ready (rs := [10]) (by kernel_rfl) (by simp) (AllReadyH.cons (by simp only [List.getElem?_toArray, List.getElem?_cons_succ, List.getElem?_cons_zero]; rfl) (fun K hK => ?_) AllReadyH.nil)
  refine step_want (by rfl) ?_
  go_simp
  refine (HNd.out _ HX).mono ?_
  rintro e w5 ⟨rfl, b5'⟩
  have HX : Below w.heap.size w w5 := HX.trans (b5'.mono HX.size)
  clear b5'
  refine hK.out _ _ HX (fun _ => ?_)
  clear hK K
  try simp only [List.getElem_toArray, List.getElem_cons_succ, List.getElem_cons_zero, Act.put, List.setIfInBounds_toArray, List.set_cons_zero, List.set_cons_succ]
  refine wpAnyH_take (i := 11) (v := .bool true) rfl (by kernel_rfl) (by kernel_rfl) (by kernel_rfl) (fun _ _ _ h => h) (Or.inl ⟨by rfl, by intro w9 _; go_simp⟩) HX ?_
  simp only [List.getElem_toArray, List.getElem_cons_succ, List.getElem_cons_zero, Act.put, List.setIfInBounds_toArray, List.set_cons_zero, List.set_cons_succ]
  refine wpAnyH_take (i := 12) (v := .bool true) rfl (by kernel_rfl) (by kernel_rfl) (by kernel_rfl) (fun _ _ _ h => h) (Or.inl ⟨by rfl, by intro w9 _; go_simp⟩) HX ?_
  simp only [List.getElem_toArray, List.getElem_cons_succ, List.getElem_cons_zero, Act.put, List.setIfInBounds_toArray, List.set_cons_zero, List.set_cons_succ]
  refine wpAnyH_ready (rs := [13]) (by kernel_rfl) (by simp) (AllReadyH.cons (by simp only [List.getElem?_toArray, List.getElem?_cons_succ, List.getElem?_cons_zero]; rfl) (fun K hK => ?_) AllReadyH.nil)
  refine step_want (by rfl) ?_
  go_simp
  refine (HD.out _ HX).mono ?_
  rintro e w5 ⟨rfl, b5'⟩
  have HX : Below w.heap.size w w5 := HX.trans (b5'.mono HX.size)
  clear b5'
  refine hK.out _ _ HX (fun _ => ?_)
  clear hK K
  try simp only [List.getElem_toArray, List.getElem_cons_succ, List.getElem_cons_zero, Act.put, List.setIfInBounds_toArray, List.set_cons_zero, List.set_cons_succ]
  refine wpAnyH_take (i := 14) (v := .bool true) rfl (by kernel_rfl) (by kernel_rfl) (by kernel_rfl) (fun _ _ _ h => h) (Or.inl ⟨by rfl, by intro w9 _; go_simp⟩) HX ?_
  simp only [List.getElem_toArray, List.getElem_cons_succ, List.getElem_cons_zero, Act.put, List.setIfInBounds_toArray, List.set_cons_zero, List.set_cons_succ]
  refine wpAnyH_take (i := 15) (v := .bool true) rfl (by kernel_rfl) (by kernel_rfl) (by kernel_rfl) (fun _ _ _ h => h) (Or.inl ⟨by rfl, by intro w9 _; go_simp⟩) HX ?_
  simp only [List.getElem_toArray, List.getElem_cons_succ, List.getElem_cons_zero, Act.put, List.setIfInBounds_toArray, List.set_cons_zero, List.set_cons_succ]
  refine wpAnyH_done (by kernel_rfl) ?_ _
  have HWf : Hid _ := HX
  clear HX
  go_wp2
  go_ret
  exact ⟨rfl, HWf.out⟩
end Go.Proofs.YtnigcngaegafoaaDoor
