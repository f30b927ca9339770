/- The walk of the law PacksSplit. -/
import Derived.Test.YtalofhnjlmgloaaDoorNh
import Derived.Test.YtalofhnjlmgloaaDoorNm
import Derived.Deep.RegionHeld3
namespace Go.Proofs.YtalofhnjlmgloaaDoor
open Go.RowKit

/-- Two lists of texts, and a box of two numbers. -/
structure P2 (w0 : World) (v1 : Value) (L1 : List (List UInt8)) (v2 : Value) (L2 : List (List UInt8)) (b : Nat) (x y : Int) (w : World) : Prop where
  ts : Ts w0 [(v2, L2), (v1, L1)] w
  c0 : w.cell? ⟨b, 0, none⟩ = some (.int .i64 x)
  c1 : w.cell? ⟨b, 1, none⟩ = some (.int .i64 y)
section
variable {w0 w w' : World} {v1 v2 v3 : Value} {L1 L2 L3 : List (List UInt8)} {b : Nat} {x y : Int}
theorem P2.next (h : P2 w0 v1 L1 v2 L2 b x y w) (hb : Below w.heap.size w w') : P2 w0 v1 L1 v2 L2 b x y w' :=
  ⟨h.ts.next hb, by rw [World.cell?_of_block (hb.block b (World.block_lt_of_cell? w _ h.c0))]; exact h.c0, by rw [World.cell?_of_block (hb.block b (World.block_lt_of_cell? w _ h.c1))]; exact h.c1⟩
theorem P2.drew (h : P2 w0 v1 L1 v2 L2 b x y w) : P2 w0 v1 L1 v2 L2 b x y w.drew := ⟨h.ts.drew, h.c0, h.c1⟩
theorem P2.more (h : P2 w0 v1 L1 v2 L2 b x y w) (h3 : TextsAt w v3 L3) : P2 w0 v2 L2 v3 L3 b x y w := ⟨⟨h.ts.base, h.ts.below, fun v l hv => by
  rcases List.mem_cons.1 hv with hv | hv
  · obtain ⟨rfl, rfl⟩ := Prod.mk.inj hv; exact h3
  · obtain ⟨rfl, rfl⟩ := Prod.mk.inj (List.mem_singleton.1 hv); exact h.ts.head⟩, h.c0, h.c1⟩
end
set_option maxRecDepth 100000 in
set_option maxHeartbeats 4000000 in
set_option linter.unusedSimpArgs false in
theorem packsplit_any (k x y : Int) (d : List UInt8) (w : World) (y0 : -9223372036854775808 ≤ y) (y1 : y ≤ 9223372036854775807) (hT : Tab w) (hT4 : Tab4 w) :
    Calls Tryd.prog 3 #[.int .u8 k, .agg #[.int .i64 x, .int .i64 y], .string (S d)] w fun e w' => e = .returned (.bool true) ∧ Below w.heap.size w w' := by
  have HA : Hid (Below w.heap.size w (w.alloc (.cells #[.int .i64 x, .int .i64 y] 22))) := (Below.refl _ _).alloc (Nat.le_refl _) _
  by_cases hl : 3000 < d.length
  · have hsz : (3000 : Int) < ((S d).size : Int) := by rw [S_size]; omega
    generalize S d = D at *
    go_enter Tryd.func3, Tryd.ntmps3
    go_wp2
    go_ret
    exact ⟨rfl, HA.out⟩
  have hsz : ¬ (3000 : Int) < ((S d).size : Int) := by rw [S_size]; omega
  have hc : cntN d.length ≤ 65536 := by unfold cntN; split <;> omega
  have HSp : Hid (∀ w1 v1 L1 v2 L2 b x' y', P2 w v1 L1 v2 L2 b x' y' w1 → Calls Tryd.prog 9 #[.int .u8 k, .int .i64 x, .string (S d)] w1 fun r w' => ∃ a c, r = .returned (.tuple #[.slice a (splitL k x d).length c, .int .i64 (splitE k x d)]) ∧ P2 w v2 L2 (.slice a (splitL k x d).length c) (splitL k x d) b x' y' w') := fun w1 v1 L1 v2 L2 b x' y' h =>
    (split_any k x d w1 h.ts.tab h.ts.tab4 (by omega)).mono fun r w' hh => by
      obtain ⟨v, rfl, ho, hb⟩ := hh
      obtain ⟨a, c, rfl⟩ := owns_slice ho
      exact ⟨a, c, rfl, (h.next hb).more (texts_of_owns ho).1⟩
  have HSr : Hid (∀ w1 v1 L1 v2 L2 b x' y', P2 w v1 L1 v2 L2 b x' y' w1 → Calls Tryd.prog 10 #[.int .u8 k, .int .i64 x, .string (S d)] w1 fun r w' => ∃ a c, r = .returned (.tuple #[.slice a (splitL k x d).length c, .int .i64 (splitE k x d)]) ∧ P2 w v2 L2 (.slice a (splitL k x d).length c) (splitL k x d) b x' y' w') := fun w1 v1 L1 v2 L2 b x' y' h =>
    (rsplit_any k x d w1 h.ts.tab h.ts.tab4 (by omega)).mono fun r w' hh => by
      obtain ⟨v, rfl, ho, hb⟩ := hh
      obtain ⟨a, c, rfl⟩ := owns_slice ho
      exact ⟨a, c, rfl, (h.next hb).more (texts_of_owns ho).1⟩
  have HTx : Hid (∀ (w1 : World) v1 v2 b x' y', P2 w v1 (splitL k x d) v2 (splitL k x d) b x' y' w1 → Calls Tryd.prog 11 #[v1, v2] w1 fun r w' => r = .returned (.bool true) ∧ P2 w v1 (splitL k x d) v2 (splitL k x d) b x' y' w') := fun w1 v1 v2 b x' y' h =>
    (texts_same h.ts.drop.head h.ts.head (by unfold splitL; split; rw [blkL_length]; omega; simp)).mono fun _ _ hh => ⟨hh.1, h.next hh.2⟩
  have HC1 : Hid (∀ w1, Calls Tryd.prog 12 #[.int .i64 y] w1 fun e w' => e = .returned (.int .i64 (cntI y)) ∧ w' = w1) := fun w1 => count_any y w1 (by omega) (by omega)
  have HC2 : Hid (∀ w1, Calls Tryd.prog 13 #[.int .i64 y] w1 fun e w' => e = .returned (.int .i64 (cntI y)) ∧ w' = w1) := fun w1 => rcount_any y w1 (by omega) (by omega)
  have HDo : Hid (∀ (w1 : World) v1 L1 v2 L2 b x' y', P2 w v1 L1 v2 L2 b x' y' w1 → Calls Tryd.prog 14 #[] w1 fun e w' => e = .returned (.bool true) ∧ P2 w v1 L1 v2 L2 b x' y' w') := fun w1 v1 L1 v2 L2 b x' y' h => (pdoes_any w1 h.ts.tab h.ts.tab4).mono fun _ _ hh => ⟨hh.1, h.next hh.2⟩
  have HX0 : Hid (P2 w (.slice none 0 0) [] (.slice none 0 0) [] w.heap.size x y (w.alloc (.cells #[.int .i64 x, .int .i64 y] 22))) := by
    refine ⟨(((Ts.start hT hT4).add (TextsAt.nil w)).add (TextsAt.nil w)).next HA.out, ?_, ?_⟩ <;> rw [cell_of_row _ _ _ _ _ _ (heap_alloc_last w _)] <;> rfl
  clear hT hT4 hl hc y0 y1
  generalize splitL k x d = L at *
  generalize splitE k x d = M at *
  generalize cntI y = C at *
  generalize S d = D at *
  go_enter Tryd.func3, Tryd.ntmps3
  go_wp2_with fail
  refine (HSp.out _ _ _ _ _ _ _ _ HX0.out).mono ?_
  rintro r w1 ⟨a, c, rfl, hx⟩
  have c0 := hx.c0
  have HX : Hid _ := hx
  clear hx HX0 HSp
  go_wp2_with fail
  refine (HSr.out _ _ _ _ _ _ _ _ HX.out).mono ?_
  rintro r w2 ⟨a2, c2, rfl, hx⟩
  have HX := hx
  clear hx HSr c0
  go_upto_region 5 with fail
  obtain ⟨b, hb⟩ : ∃ b, w.heap.size = b := ⟨_, rfl⟩
  rw [hb] at HX ⊢
  clear hb
  refine wp_region_held (S := P2 w (.slice a L.length c) L (.slice a2 L.length c2) L b x y) (by kernel_rfl) ?_
  change wpAnyH _ _ _ _ _ _ _ _ (World.drew _)
  have HX := HX.drew
  generalize World.drew _ = w3 at *
  refine wpAnyH_take (i := 0) (v := .slice a L.length c) rfl (by kernel_rfl) (by kernel_rfl) (by kernel_rfl) (fun _ _ _ h => h) (Or.inl ⟨by rfl, by intro w _; go_simp⟩) HX ?_
  simp only [List.getElem_toArray, List.getElem_cons_succ, List.getElem_cons_zero, Act.put, List.setIfInBounds_toArray, List.set_cons_zero, List.set_cons_succ]
  refine wpAnyH_take (i := 1) (v := .slice a2 L.length c2) rfl (by kernel_rfl) (by kernel_rfl) (by kernel_rfl) (fun _ _ _ h => h) (Or.inl ⟨by rfl, by intro w _; go_simp⟩) HX ?_
  simp only [List.getElem_toArray, List.getElem_cons_succ, List.getElem_cons_zero, Act.put, List.setIfInBounds_toArray, List.set_cons_zero, List.set_cons_succ]
  refine wpAnyH_ready (rs := [2]) (by kernel_rfl) (by simp) (AllReadyH.cons (by simp only [List.getElem?_toArray, List.getElem?_cons_succ, List.getElem?_cons_zero]; rfl) (fun K hK => ?_) AllReadyH.nil)
  refine step_plain rfl ?_
  go_simp
  refine (HTx.out _ _ _ _ _ _ HX).mono ?_
  rintro r w4 ⟨rfl, hx⟩
  have HX := hx
  clear hx
  refine hK.out _ _ HX (fun _ => ?_)
  clear hK K
  try simp only [List.getElem_toArray, List.getElem_cons_succ, List.getElem_cons_zero, Act.put, List.setIfInBounds_toArray, List.set_cons_zero, List.set_cons_succ]
  refine wpAnyH_take (i := 3) (v := .bool true) rfl (by kernel_rfl) (by kernel_rfl) (by kernel_rfl) (fun _ _ _ h => h) (Or.inl ⟨by rfl, by intro w _; go_simp⟩) HX ?_
  simp only [List.getElem_toArray, List.getElem_cons_succ, List.getElem_cons_zero, Act.put, List.setIfInBounds_toArray, List.set_cons_zero, List.set_cons_succ]
  refine wpAnyH_take (i := 4) (v := .int .i64 M) rfl (by kernel_rfl) (by kernel_rfl) (by kernel_rfl) (fun _ _ _ h => h) (Or.inl ⟨by rfl, by intro w _; go_simp⟩) HX ?_
  simp only [List.getElem_toArray, List.getElem_cons_succ, List.getElem_cons_zero, Act.put, List.setIfInBounds_toArray, List.set_cons_zero, List.set_cons_succ]
  refine wpAnyH_take (i := 5) (v := .int .i64 M) rfl (by kernel_rfl) (by kernel_rfl) (by kernel_rfl) (fun _ _ _ h => h) (Or.inl ⟨by rfl, by intro w _; go_simp⟩) HX ?_
  simp only [List.getElem_toArray, List.getElem_cons_succ, List.getElem_cons_zero, Act.put, List.setIfInBounds_toArray, List.set_cons_zero, List.set_cons_succ]
  refine wpAnyH_take (i := 6) (v := .bool true) rfl (by kernel_rfl) (by kernel_rfl) (by kernel_rfl) (fun _ _ _ h => h) (Or.inl ⟨by rfl, by intro w _; go_simp⟩) HX ?_
  simp only [List.getElem_toArray, List.getElem_cons_succ, List.getElem_cons_zero, Act.put, List.setIfInBounds_toArray, List.set_cons_zero, List.set_cons_succ]
  refine wpAnyH_take (i := 7) (v := .bool true) rfl (by kernel_rfl) (by kernel_rfl) (by kernel_rfl) (fun _ _ _ h => h) (Or.inl ⟨by rfl, by intro w _; go_simp⟩) HX ?_
  simp only [List.getElem_toArray, List.getElem_cons_succ, List.getElem_cons_zero, Act.put, List.setIfInBounds_toArray, List.set_cons_zero, List.set_cons_succ]
  refine wpAnyH_take (i := 8) (v := .bool true) rfl (by kernel_rfl) (by kernel_rfl) (by kernel_rfl) (fun _ _ _ h => h) (Or.inl ⟨by rfl, by intro w _; go_simp⟩) HX ?_
  simp only [List.getElem_toArray, List.getElem_cons_succ, List.getElem_cons_zero, Act.put, List.setIfInBounds_toArray, List.set_cons_zero, List.set_cons_succ]
  refine wpAnyH_take (i := 9) (v := .pointer (some ⟨b, 1, none⟩)) rfl (by kernel_rfl) (by kernel_rfl) (by kernel_rfl) (fun _ _ _ h => h) (Or.inl ⟨by rfl, by intro w _; go_simp⟩) HX ?_
  simp only [List.getElem_toArray, List.getElem_cons_succ, List.getElem_cons_zero, Act.put, List.setIfInBounds_toArray, List.set_cons_zero, List.set_cons_succ]
  refine wpAnyH_take (i := 10) (v := .int .i64 y) rfl (by kernel_rfl) (by kernel_rfl) (by kernel_rfl) (fun _ _ _ h => h) (Or.inl ⟨by rfl, by intro w hw; have hc := P2.c1 hw; go_simp⟩) HX ?_
  simp only [List.getElem_toArray, List.getElem_cons_succ, List.getElem_cons_zero, Act.put, List.setIfInBounds_toArray, List.set_cons_zero, List.set_cons_succ]
  refine wpAnyH_take (i := 12) (v := .pointer (some ⟨b, 1, none⟩)) rfl (by kernel_rfl) (by kernel_rfl) (by kernel_rfl) (fun _ _ _ h => h) (Or.inl ⟨by rfl, by intro w _; go_simp⟩) HX ?_
  simp only [List.getElem_toArray, List.getElem_cons_succ, List.getElem_cons_zero, Act.put, List.setIfInBounds_toArray, List.set_cons_zero, List.set_cons_succ]
  refine wpAnyH_take (i := 13) (v := .int .i64 y) rfl (by kernel_rfl) (by kernel_rfl) (by kernel_rfl) (fun _ _ _ h => h) (Or.inl ⟨by rfl, by intro w hw; have hc := P2.c1 hw; go_simp⟩) HX ?_
  simp only [List.getElem_toArray, List.getElem_cons_succ, List.getElem_cons_zero, Act.put, List.setIfInBounds_toArray, List.set_cons_zero, List.set_cons_succ]
  refine wpAnyH_ready (rs := [11]) (by kernel_rfl) (by simp) (AllReadyH.cons (by simp only [List.getElem?_toArray, List.getElem?_cons_succ, List.getElem?_cons_zero]; rfl) (fun K hK => ?_) AllReadyH.nil)
  refine step_want (by first | rfl | kernel_rfl) ?_
  go_simp
  refine (HC1.out _).mono ?_
  rintro r w5 ⟨rfl, rfl⟩
  refine hK.out _ _ HX (fun _ => ?_)
  clear hK K
  try simp only [List.getElem_toArray, List.getElem_cons_succ, List.getElem_cons_zero, Act.put, List.setIfInBounds_toArray, List.set_cons_zero, List.set_cons_succ]
  refine wpAnyH_ready (rs := [14]) (by kernel_rfl) (by simp) (AllReadyH.cons (by simp only [List.getElem?_toArray, List.getElem?_cons_succ, List.getElem?_cons_zero]; rfl) (fun K hK => ?_) AllReadyH.nil)
  refine step_want (by first | rfl | kernel_rfl) ?_
  go_simp
  refine (HC2.out _).mono ?_
  rintro r w6 ⟨rfl, rfl⟩
  refine hK.out _ _ HX (fun _ => ?_)
  clear hK K
  try simp only [List.getElem_toArray, List.getElem_cons_succ, List.getElem_cons_zero, Act.put, List.setIfInBounds_toArray, List.set_cons_zero, List.set_cons_succ]
  refine wpAnyH_take (i := 15) (v := .bool true) rfl (by kernel_rfl) (by kernel_rfl) (by kernel_rfl) (fun _ _ _ h => h) (Or.inl ⟨by rfl, by intro w _; go_simp⟩) HX ?_
  simp only [List.getElem_toArray, List.getElem_cons_succ, List.getElem_cons_zero, Act.put, List.setIfInBounds_toArray, List.set_cons_zero, List.set_cons_succ]
  refine wpAnyH_take (i := 16) (v := .bool true) rfl (by kernel_rfl) (by kernel_rfl) (by kernel_rfl) (fun _ _ _ h => h) (Or.inl ⟨by rfl, by intro w _; go_simp⟩) HX ?_
  simp only [List.getElem_toArray, List.getElem_cons_succ, List.getElem_cons_zero, Act.put, List.setIfInBounds_toArray, List.set_cons_zero, List.set_cons_succ]
  refine wpAnyH_take (i := 17) (v := .bool true) rfl (by kernel_rfl) (by kernel_rfl) (by kernel_rfl) (fun _ _ _ h => h) (Or.inl ⟨by rfl, by intro w _; go_simp⟩) HX ?_
  simp only [List.getElem_toArray, List.getElem_cons_succ, List.getElem_cons_zero, Act.put, List.setIfInBounds_toArray, List.set_cons_zero, List.set_cons_succ]
  refine wpAnyH_ready (rs := [18]) (by kernel_rfl) (by simp) (AllReadyH.cons (by simp only [List.getElem?_toArray, List.getElem?_cons_succ, List.getElem?_cons_zero]; rfl) (fun K hK => ?_) AllReadyH.nil)
  refine step_want (by first | rfl | kernel_rfl) ?_
  go_simp
  refine (HDo.out _ _ _ _ _ _ _ _ HX).mono ?_
  rintro r w7 ⟨rfl, hx⟩
  have HX := hx
  clear hx
  refine hK.out _ _ HX (fun _ => ?_)
  clear hK K
  try simp only [List.getElem_toArray, List.getElem_cons_succ, List.getElem_cons_zero, Act.put, List.setIfInBounds_toArray, List.set_cons_zero, List.set_cons_succ]
  refine wpAnyH_take (i := 19) (v := .bool true) rfl (by kernel_rfl) (by kernel_rfl) (by kernel_rfl) (fun _ _ _ h => h) (Or.inl ⟨by rfl, by intro w _; go_simp⟩) HX ?_
  simp only [List.getElem_toArray, List.getElem_cons_succ, List.getElem_cons_zero, Act.put, List.setIfInBounds_toArray, List.set_cons_zero, List.set_cons_succ]
  refine wpAnyH_take (i := 20) (v := .bool true) rfl (by kernel_rfl) (by kernel_rfl) (by kernel_rfl) (fun _ _ _ h => h) (Or.inl ⟨by rfl, by intro w _; go_simp⟩) HX ?_
  simp only [List.getElem_toArray, List.getElem_cons_succ, List.getElem_cons_zero, Act.put, List.setIfInBounds_toArray, List.set_cons_zero, List.set_cons_succ]
  refine wpAnyH_done (by kernel_rfl) ?_ _
  have HF : Hid _ := HX.ts.below
  clear HX
  go_wp2
  go_ret
  exact ⟨rfl, HF.out⟩
end Go.Proofs.YtalofhnjlmgloaaDoor
