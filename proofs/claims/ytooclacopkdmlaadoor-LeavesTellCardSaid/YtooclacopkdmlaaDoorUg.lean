/- The law LeavesTell (layer 8). -/
import Derived.Test.YtooclacopkdmlaaDoorUf
import Derived.Test.YtooclacopkdmlaaDoorUa
namespace Go.Proofs.YtooclacopkdmlaaDoor
open Go.RowKit

/-- The tables, and the two hashes that came in. -/
structure Lt (w : World) (rb : Nat) (CA CB : Array Value) (w' : World) : Prop where
  below : Below w.heap.size w w'
  k : TabL w'
  r : TabR w'
  a : w'.heap[w.heap.size]? = some (.cells CA 22 (0, 0))
  b : w'.heap[rb]? = some (.cells CB 22 (0, 0))
theorem Lt.next {w : World} {rb : Nat} {CA CB : Array Value} {w' w'' : World} (h : Lt w rb CA CB w') (hb : Below w'.heap.size w' w'') : Lt w rb CA CB w'' :=
  ⟨h.below.trans (hb.mono h.below.size), h.k.below hb h.k.lt, h.r.below hb h.r.lt, (hb.block _ (Array.getElem?_eq_some_iff.1 h.a).1).trans h.a, (hb.block _ (Array.getElem?_eq_some_iff.1 h.b).1).trans h.b⟩
theorem Lt.drew {w : World} {rb : Nat} {CA CB : Array Value} {w' : World} (h : Lt w rb CA CB w') : Lt w rb CA CB w'.drew := ⟨h.below.drew, h.k.drew, h.r, h.a, h.b⟩
theorem two_boxes (w : World) (CA CB : Array Value) : ∃ w1 w2, w.alloc (.cells CA 22) = w1 ∧ w1.alloc (.cells CB 22) = w2 ∧ Below w.heap.size w w2 ∧ w2.heap[w.heap.size]? = some (.cells CA 22 (0, 0)) ∧ w2.heap[w1.heap.size]? = some (.cells CB 22 (0, 0)) := by
  refine ⟨_, _, rfl, rfl, ?_⟩
  have h1 := heap_alloc_last w (.cells CA 22)
  have b1 : Below w.heap.size w (w.alloc (.cells CA 22)) := (Below.refl _ _).alloc (Nat.le_refl _) _
  generalize w.alloc (.cells CA 22) = w1 at *
  have h2 := heap_alloc_last w1 (.cells CB 22)
  have b2 : Below w1.heap.size w1 (w1.alloc (.cells CB 22)) := (Below.refl _ _).alloc (Nat.le_refl _) _
  exact ⟨b1.trans (b2.mono b1.size), (b2.block _ (Array.getElem?_eq_some_iff.1 h1).1).trans h1, h2⟩
theorem eq_hash (l : List UInt8) (w : World) : (binOp .eql 22 (.agg (hv (shaL l))) (.agg (hv (shaL l)))).run Tryd.prog w = .ok (.bool true) w := by
  have := eqH w (shaL l) (shaL l) (shaL_length _) (shaL_length _)
  simpa using this
theorem tell_long (s : ByteArray) (a b : List UInt8) (w : World) (hs : 2000 < s.size) : Calls Tryd.prog 3 #[.string s, .agg (hv a), .agg (hv b)] w fun e w' => e = .returned (.bool true) ∧ Below w.heap.size w w' := by
  have h1 : (2000 : Int) < (s.size : Int) := by omega
  obtain ⟨w1, w2, hw1, hw2, hb, -, -⟩ := two_boxes w (hv a) (hv b)
  have HB : Hid _ := hb
  clear hb
  generalize hv a = CA at *
  generalize hv b = CB at *
  go_enter Tryd.func3, Tryd.ntmps3
  go_wp2
  go_ret
  exact ⟨rfl, HB.out⟩
set_option maxRecDepth 100000 in
set_option maxHeartbeats 2000000 in
set_option linter.unusedSimpArgs false in
theorem tell_walk (l a b : List UInt8) (w : World) (hK : TabL w) (hR : TabR w) (hl : l.length ≤ 2000) (ha : a.length = 32) (hb : b.length = 32) : Calls Tryd.prog 3 #[.string (S l), .agg (hv a), .agg (hv b)] w fun e w' => e = .returned (.bool true) ∧ Below w.heap.size w w' := by
  have h1 : ¬ (2000 : Int) < (l.length : Int) := by omega
  have hsz : (S l).size = l.length := S_size l
  obtain ⟨w1, w2, hw1, hw2, b2, g1, g2⟩ := two_boxes w (hv a) (hv b)
  have HS : Hid (Lt w w1.heap.size (hv a) (hv b) w2) := ⟨b2, hK.below b2 hK.lt, hR.below b2 hR.lt, g1, g2⟩
  have he1 := eq_hash (0 :: l)
  have he2 := eq_hash (1 :: (a ++ b))
  have he3 := eq_hash []
  have HA : Hid (∀ w', TabL w' → Calls Tryd.prog 5 #[.string (S l)] w' fun e w'' => e = .returned (.agg (hv (shaL (0 :: l)))) ∧ Below w'.heap.size w' w'') := fun w' k => leaf_any l w' k (by omega)
  have HB : Hid (∀ w', TabR w' → Calls Tryd.prog 6 #[.string (S l)] w' fun e w'' => e = .returned (.agg (hv (shaL (0 :: l)))) ∧ Below w'.heap.size w' w'') := fun w' k => rleaf_any l w' k (by omega)
  have HC : Hid (∀ w', TabL w' → Calls Tryd.prog 7 #[.agg (hv a), .agg (hv b)] w' fun e w'' => e = .returned (.agg (hv (shaL (1 :: (a ++ b))))) ∧ Below w'.heap.size w' w'') := fun w' k => node_any a b w' k ha hb
  have HD : Hid (∀ w', TabR w' → Calls Tryd.prog 8 #[.agg (hv a), .agg (hv b)] w' fun e w'' => e = .returned (.agg (hv (shaL (1 :: (a ++ b))))) ∧ Below w'.heap.size w' w'') := fun w' k => rnode_any a b w' k ha hb
  have HE : Hid (∀ w', TabL w' → Calls Tryd.prog 9 #[] w' fun e w'' => e = .returned (.agg (hv (shaL []))) ∧ Below w'.heap.size w' w'') := fun w' k => empty_any w' k
  have HF : Hid (∀ w', TabR w' → Calls Tryd.prog 10 #[] w' fun e w'' => e = .returned (.agg (hv (shaL []))) ∧ Below w'.heap.size w' w'') := fun w' k => rempty_any w' k
  have HG : Hid (∀ w', TabL w' → Calls Tryd.prog 11 #[] w' fun e w'' => e = .returned (.bool true) ∧ Below w'.heap.size w' w'') := fun w' k => does_any w' k
  have ia : Hid ((Tryd.prog.info? 22).map (·.size) = some (hv a).toList.length) := by show _ = _; rw [info_h32, Array.length_toList, hv_size, ha]
  have ib : Hid ((Tryd.prog.info? 22).map (·.size) = some (hv b).toList.length) := by show _ = _; rw [info_h32, Array.length_toList, hv_size, hb]
  generalize hv (shaL (0 :: l)) = R1 at *
  generalize hv (shaL (1 :: (a ++ b))) = R2 at *
  generalize hv (shaL []) = R3 at *
  generalize hv a = CA at *
  generalize hv b = CB at *
  generalize S l = D at *
  clear hK hR b2 g1 g2
  obtain ⟨rb, hrb⟩ : ∃ rb, w1.heap.size = rb := ⟨_, rfl⟩
  rw [hrb] at HS
  go_enter Tryd.func3, Tryd.ntmps3
  go_upto_region 3 with fail
  refine wp_region_held (S := Lt w rb CA CB) (by kernel_rfl) ?_
  change wpAnyH _ _ _ _ _ _ _ _ (World.drew _)
  have HX := HS.out.drew
  generalize World.drew _ = w4 at *
  refine wpAnyH_take (i := 0) (v := .string D) rfl (by kernel_rfl) (by kernel_rfl) (by kernel_rfl) (fun _ _ _ h => h) (Or.inl ⟨by rfl, by intro w _; go_simp⟩) HX ?_
  simp only [List.getElem_toArray, List.getElem_cons_succ, List.getElem_cons_zero, Act.put, List.setIfInBounds_toArray, List.set_cons_zero, List.set_cons_succ]
  refine wpAnyH_take (i := 2) (v := .string D) rfl (by kernel_rfl) (by kernel_rfl) (by kernel_rfl) (fun _ _ _ h => h) (Or.inl ⟨by rfl, by intro w _; go_simp⟩) HX ?_
  simp only [List.getElem_toArray, List.getElem_cons_succ, List.getElem_cons_zero, Act.put, List.setIfInBounds_toArray, List.set_cons_zero, List.set_cons_succ]
  refine wpAnyH_ready (rs := [1]) (by kernel_rfl) (by simp) (AllReadyH.cons (by simp only [List.getElem?_toArray, List.getElem?_cons_succ, List.getElem?_cons_zero]; rfl) (fun K hK => ?_) AllReadyH.nil)
  refine step_want (by rfl) ?_
  go_simp
  refine (HA.out _ HX.k).mono ?_
  rintro e w5 ⟨rfl, b5⟩
  have HX := HX.next b5
  clear b5
  refine hK.out _ _ HX (fun _ => ?_)
  clear hK K
  try simp only [List.getElem_toArray, List.getElem_cons_succ, List.getElem_cons_zero, Act.put, List.setIfInBounds_toArray, List.set_cons_zero, List.set_cons_succ]
  refine wpAnyH_ready (rs := [3]) (by kernel_rfl) (by simp) (AllReadyH.cons (by simp only [List.getElem?_toArray, List.getElem?_cons_succ, List.getElem?_cons_zero]; rfl) (fun K hK => ?_) AllReadyH.nil)
  refine step_want (by rfl) ?_
  go_simp
  refine (HB.out _ HX.r).mono ?_
  rintro e w5 ⟨rfl, b5⟩
  have HX := HX.next b5
  clear b5
  refine hK.out _ _ HX (fun _ => ?_)
  clear hK K
  try simp only [List.getElem_toArray, List.getElem_cons_succ, List.getElem_cons_zero, Act.put, List.setIfInBounds_toArray, List.set_cons_zero, List.set_cons_succ]
  refine wpAnyH_take (i := 4) (v := .bool true) rfl (by kernel_rfl) (by kernel_rfl) (by kernel_rfl) (fun _ _ _ h => h) (Or.inl ⟨by rfl, by intro w _; go_simp⟩) HX ?_
  simp only [List.getElem_toArray, List.getElem_cons_succ, List.getElem_cons_zero, Act.put, List.setIfInBounds_toArray, List.set_cons_zero, List.set_cons_succ]
  refine wpAnyH_take (i := 5) (v := .bool true) rfl (by kernel_rfl) (by kernel_rfl) (by kernel_rfl) (fun _ _ _ h => h) (Or.inl ⟨by rfl, by intro w _; go_simp⟩) HX ?_
  simp only [List.getElem_toArray, List.getElem_cons_succ, List.getElem_cons_zero, Act.put, List.setIfInBounds_toArray, List.set_cons_zero, List.set_cons_succ]
  refine wpAnyH_take (i := 6) (v := .agg CA) rfl (by kernel_rfl) (by kernel_rfl) (by kernel_rfl) (fun _ _ _ h => h) (yieldsIf_load_mid (by rfl) 22 _ rfl w.heap.size 0 rfl CA.toList _ (fun w h => range_row h.a) Tryd.underlying22 rfl ia.out) HX ?_
  simp only [List.getElem_toArray, List.getElem_cons_succ, List.getElem_cons_zero, Act.put, List.setIfInBounds_toArray, List.set_cons_zero, List.set_cons_succ]
  refine wpAnyH_take (i := 7) (v := .agg CB) rfl (by kernel_rfl) (by kernel_rfl) (by kernel_rfl) (fun _ _ _ h => h) (yieldsIf_load_mid (by rfl) 22 _ rfl rb 0 rfl CB.toList _ (fun w h => range_row h.b) Tryd.underlying22 rfl ib.out) HX ?_
  simp only [List.getElem_toArray, List.getElem_cons_succ, List.getElem_cons_zero, Act.put, List.setIfInBounds_toArray, List.set_cons_zero, List.set_cons_succ]
  refine wpAnyH_take (i := 9) (v := .agg CA) rfl (by kernel_rfl) (by kernel_rfl) (by kernel_rfl) (fun _ _ _ h => h) (yieldsIf_load_mid (by rfl) 22 _ rfl w.heap.size 0 rfl CA.toList _ (fun w h => range_row h.a) Tryd.underlying22 rfl ia.out) HX ?_
  simp only [List.getElem_toArray, List.getElem_cons_succ, List.getElem_cons_zero, Act.put, List.setIfInBounds_toArray, List.set_cons_zero, List.set_cons_succ]
  refine wpAnyH_take (i := 10) (v := .agg CB) rfl (by kernel_rfl) (by kernel_rfl) (by kernel_rfl) (fun _ _ _ h => h) (yieldsIf_load_mid (by rfl) 22 _ rfl rb 0 rfl CB.toList _ (fun w h => range_row h.b) Tryd.underlying22 rfl ib.out) HX ?_
  simp only [List.getElem_toArray, List.getElem_cons_succ, List.getElem_cons_zero, Act.put, List.setIfInBounds_toArray, List.set_cons_zero, List.set_cons_succ]
  refine wpAnyH_ready (rs := [8]) (by kernel_rfl) (by simp) (AllReadyH.cons (by simp only [List.getElem?_toArray, List.getElem?_cons_succ, List.getElem?_cons_zero]; rfl) (fun K hK => ?_) AllReadyH.nil)
  refine step_want (by rfl) ?_
  go_simp
  refine (HC.out _ HX.k).mono ?_
  rintro e w5 ⟨rfl, b5⟩
  have HX := HX.next b5
  clear b5
  refine hK.out _ _ HX (fun _ => ?_)
  clear hK K
  try simp only [List.getElem_toArray, List.getElem_cons_succ, List.getElem_cons_zero, Act.put, List.setIfInBounds_toArray, List.set_cons_zero, List.set_cons_succ]
  refine wpAnyH_ready (rs := [11]) (by kernel_rfl) (by simp) (AllReadyH.cons (by simp only [List.getElem?_toArray, List.getElem?_cons_succ, List.getElem?_cons_zero]; rfl) (fun K hK => ?_) AllReadyH.nil)
  refine step_want (by rfl) ?_
  go_simp
  refine (HD.out _ HX.r).mono ?_
  rintro e w5 ⟨rfl, b5⟩
  have HX := HX.next b5
  clear b5
  refine hK.out _ _ HX (fun _ => ?_)
  clear hK K
  try simp only [List.getElem_toArray, List.getElem_cons_succ, List.getElem_cons_zero, Act.put, List.setIfInBounds_toArray, List.set_cons_zero, List.set_cons_succ]
  refine wpAnyH_take (i := 12) (v := .bool true) rfl (by kernel_rfl) (by kernel_rfl) (by kernel_rfl) (fun _ _ _ h => h) (Or.inl ⟨by rfl, by intro w _; go_simp⟩) HX ?_
  simp only [List.getElem_toArray, List.getElem_cons_succ, List.getElem_cons_zero, Act.put, List.setIfInBounds_toArray, List.set_cons_zero, List.set_cons_succ]
  refine wpAnyH_take (i := 13) (v := .bool true) rfl (by kernel_rfl) (by kernel_rfl) (by kernel_rfl) (fun _ _ _ h => h) (Or.inl ⟨by rfl, by intro w _; go_simp⟩) HX ?_
  simp only [List.getElem_toArray, List.getElem_cons_succ, List.getElem_cons_zero, Act.put, List.setIfInBounds_toArray, List.set_cons_zero, List.set_cons_succ]
  refine wpAnyH_take (i := 14) (v := .bool true) rfl (by kernel_rfl) (by kernel_rfl) (by kernel_rfl) (fun _ _ _ h => h) (Or.inl ⟨by rfl, by intro w _; go_simp⟩) HX ?_
  simp only [List.getElem_toArray, List.getElem_cons_succ, List.getElem_cons_zero, Act.put, List.setIfInBounds_toArray, List.set_cons_zero, List.set_cons_succ]
  refine wpAnyH_ready (rs := [15]) (by kernel_rfl) (by simp) (AllReadyH.cons (by simp only [List.getElem?_toArray, List.getElem?_cons_succ, List.getElem?_cons_zero]; rfl) (fun K hK => ?_) AllReadyH.nil)
  refine step_want (by rfl) ?_
  go_simp
  refine (HE.out _ HX.k).mono ?_
  rintro e w5 ⟨rfl, b5⟩
  have HX := HX.next b5
  clear b5
  refine hK.out _ _ HX (fun _ => ?_)
  clear hK K
  try simp only [List.getElem_toArray, List.getElem_cons_succ, List.getElem_cons_zero, Act.put, List.setIfInBounds_toArray, List.set_cons_zero, List.set_cons_succ]
  refine wpAnyH_ready (rs := [16]) (by kernel_rfl) (by simp) (AllReadyH.cons (by simp only [List.getElem?_toArray, List.getElem?_cons_succ, List.getElem?_cons_zero]; rfl) (fun K hK => ?_) AllReadyH.nil)
  refine step_want (by rfl) ?_
  go_simp
  refine (HF.out _ HX.r).mono ?_
  rintro e w5 ⟨rfl, b5⟩
  have HX := HX.next b5
  clear b5
  refine hK.out _ _ HX (fun _ => ?_)
  clear hK K
  try simp only [List.getElem_toArray, List.getElem_cons_succ, List.getElem_cons_zero, Act.put, List.setIfInBounds_toArray, List.set_cons_zero, List.set_cons_succ]
  refine wpAnyH_take (i := 17) (v := .bool true) rfl (by kernel_rfl) (by kernel_rfl) (by kernel_rfl) (fun _ _ _ h => h) (Or.inl ⟨by rfl, by intro w _; go_simp⟩) HX ?_
  simp only [List.getElem_toArray, List.getElem_cons_succ, List.getElem_cons_zero, Act.put, List.setIfInBounds_toArray, List.set_cons_zero, List.set_cons_succ]
  refine wpAnyH_take (i := 18) (v := .bool true) rfl (by kernel_rfl) (by kernel_rfl) (by kernel_rfl) (fun _ _ _ h => h) (Or.inl ⟨by rfl, by intro w _; go_simp⟩) HX ?_
  simp only [List.getElem_toArray, List.getElem_cons_succ, List.getElem_cons_zero, Act.put, List.setIfInBounds_toArray, List.set_cons_zero, List.set_cons_succ]
  refine wpAnyH_take (i := 19) (v := .bool true) rfl (by kernel_rfl) (by kernel_rfl) (by kernel_rfl) (fun _ _ _ h => h) (Or.inl ⟨by rfl, by intro w _; go_simp⟩) HX ?_
  simp only [List.getElem_toArray, List.getElem_cons_succ, List.getElem_cons_zero, Act.put, List.setIfInBounds_toArray, List.set_cons_zero, List.set_cons_succ]
  refine wpAnyH_ready (rs := [20]) (by kernel_rfl) (by simp) (AllReadyH.cons (by simp only [List.getElem?_toArray, List.getElem?_cons_succ, List.getElem?_cons_zero]; rfl) (fun K hK => ?_) AllReadyH.nil)
  refine step_want (by rfl) ?_
  go_simp
  refine (HG.out _ HX.k).mono ?_
  rintro e w5 ⟨rfl, b5⟩
  have HX := HX.next b5
  clear b5
  refine hK.out _ _ HX (fun _ => ?_)
  clear hK K
  try simp only [List.getElem_toArray, List.getElem_cons_succ, List.getElem_cons_zero, Act.put, List.setIfInBounds_toArray, List.set_cons_zero, List.set_cons_succ]
  refine wpAnyH_take (i := 21) (v := .bool true) rfl (by kernel_rfl) (by kernel_rfl) (by kernel_rfl) (fun _ _ _ h => h) (Or.inl ⟨by rfl, by intro w _; go_simp⟩) HX ?_
  simp only [List.getElem_toArray, List.getElem_cons_succ, List.getElem_cons_zero, Act.put, List.setIfInBounds_toArray, List.set_cons_zero, List.set_cons_succ]
  refine wpAnyH_take (i := 22) (v := .bool true) rfl (by kernel_rfl) (by kernel_rfl) (by kernel_rfl) (fun _ _ _ h => h) (Or.inl ⟨by rfl, by intro w _; go_simp⟩) HX ?_
  simp only [List.getElem_toArray, List.getElem_cons_succ, List.getElem_cons_zero, Act.put, List.setIfInBounds_toArray, List.set_cons_zero, List.set_cons_succ]
  refine wpAnyH_done (by kernel_rfl) ?_ _
  have HW : Hid _ := HX.below
  clear HX HS hw1 hw2 hrb
  go_wp2
  go_ret
  exact ⟨rfl, HW.out⟩
theorem tell_law (s : ByteArray) (a b : List UInt8) (w : World) (hK : TabL w) (hR : TabR w) (ha : a.length = 32) (hb : b.length = 32) : Calls Tryd.prog 3 #[.string s, .agg (hv a), .agg (hv b)] w fun e w' => e = .returned (.bool true) ∧ Below w.heap.size w w' := by
  by_cases h : 2000 < s.size
  · exact tell_long s a b w h
  · have e : s = S s.data.toList := (S_data s).symm
    have hl : s.data.toList.length ≤ 2000 := by
      rw [Array.length_toList]
      exact Nat.le_of_not_lt h
    rw [e]
    exact tell_walk s.data.toList a b w hK hR hl ha hb
end Go.Proofs.YtooclacopkdmlaaDoor
