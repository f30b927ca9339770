/- The law's By, by what is asked. -/
import Derived.Test.YthlaackalmgfnaaEd
namespace Go.Proofs.Ythlaackalmgfnaa
open Go.RowKit

section
variable {v : Value} {q : Nat} {i n : Int} {s : List UInt8} {ka : Option Addr} {kl kc : Nat} {w : World} {Q : Int → World → Prop}
set_option maxRecDepth 100000 in
theorem by_4 (hq : q % 13 = 4) (hq2 : q < 256) (H : ∀ w1, Below w.heap.size w w1 → Calls Try.prog 39 #[v, .int .i64 i, .string (S s)] w1 (TellsK w.heap.size w1 Q)) : Calls Try.prog 13 #[v, .agg (doV q i n s (.slice ka kl kc))] w (Tells Q) := by
  have HH : Hid (∀ o : Obj, Calls Try.prog 39 #[v, .int .i64 i, .string (S s)] (w.alloc o) (Tells Q)) := fun o => (H _ ((Below.refl _ _).alloc (Nat.le_refl _) _)).mono fun _ _ h => h.tells
  have hm : (q : Int) % 13 = 4 := by omega
  have hb : (q : Int) < 256 := by omega
  clear H hq hq2
  unfold doV
  go_enter Try.func13, Try.ntmps13
  go_wp2_with fail
  refine Calls.mono (HH.out _) ?_
  rintro e w1 ⟨r, rfl, hr⟩
  have HR : Hid (Q r w1) := hr
  clear hr HH
  go_wp2
  go_ret
  exact ⟨r, rfl, HR.out⟩
set_option maxRecDepth 100000 in
theorem by_5 (hq : q % 13 = 5) (hq2 : q < 256) (H : ∀ w1, Below w.heap.size w w1 → Calls Try.prog 40 #[v, .int .i64 i] w1 (TellsK w.heap.size w1 Q)) : Calls Try.prog 13 #[v, .agg (doV q i n s (.slice ka kl kc))] w (Tells Q) := by
  have HH : Hid (∀ o : Obj, Calls Try.prog 40 #[v, .int .i64 i] (w.alloc o) (Tells Q)) := fun o => (H _ ((Below.refl _ _).alloc (Nat.le_refl _) _)).mono fun _ _ h => h.tells
  have hm : (q : Int) % 13 = 5 := by omega
  have hb : (q : Int) < 256 := by omega
  clear H hq hq2
  unfold doV
  go_enter Try.func13, Try.ntmps13
  go_wp2_with fail
  refine Calls.mono (HH.out _) ?_
  rintro e w1 ⟨r, rfl, hr⟩
  have HR : Hid (Q r w1) := hr
  clear hr HH
  go_wp2
  go_ret
  exact ⟨r, rfl, HR.out⟩
set_option maxRecDepth 100000 in
theorem by_6 (hq : q % 13 = 6) (hq2 : q < 256) (H : ∀ w1, Below w.heap.size w w1 → Calls Try.prog 40 #[v, .int .i64 i] w1 (TellsK w.heap.size w1 Q)) : Calls Try.prog 13 #[v, .agg (doV q i n s (.slice ka kl kc))] w (Tells Q) := by
  have HH : Hid (∀ o : Obj, Calls Try.prog 40 #[v, .int .i64 i] (w.alloc o) (Tells Q)) := fun o => (H _ ((Below.refl _ _).alloc (Nat.le_refl _) _)).mono fun _ _ h => h.tells
  have hm : (q : Int) % 13 = 6 := by omega
  have hb : (q : Int) < 256 := by omega
  clear H hq hq2
  unfold doV
  go_enter Try.func13, Try.ntmps13
  go_wp2_with fail
  refine Calls.mono (HH.out _) ?_
  rintro e w1 ⟨r, rfl, hr⟩
  have HR : Hid (Q r w1) := hr
  clear hr HH
  go_wp2
  go_ret
  exact ⟨r, rfl, HR.out⟩
set_option maxRecDepth 100000 in
theorem by_7 (hq : q % 13 = 7) (hq2 : q < 256) (H : ∀ w1, Below w.heap.size w w1 → Calls Try.prog 41 #[v] w1 (TellsK w.heap.size w1 Q)) : Calls Try.prog 13 #[v, .agg (doV q i n s (.slice ka kl kc))] w (Tells Q) := by
  have HH : Hid (∀ o : Obj, Calls Try.prog 41 #[v] (w.alloc o) (Tells Q)) := fun o => (H _ ((Below.refl _ _).alloc (Nat.le_refl _) _)).mono fun _ _ h => h.tells
  have hm : (q : Int) % 13 = 7 := by omega
  have hb : (q : Int) < 256 := by omega
  clear H hq hq2
  unfold doV
  go_enter Try.func13, Try.ntmps13
  go_wp2_with fail
  refine Calls.mono (HH.out _) ?_
  rintro e w1 ⟨r, rfl, hr⟩
  have HR : Hid (Q r w1) := hr
  clear hr HH
  go_wp2
  go_ret
  exact ⟨r, rfl, HR.out⟩
set_option maxRecDepth 100000 in
theorem by_8 (hq : q % 13 = 8) (hq2 : q < 256) (H : ∀ w1, Below w.heap.size w w1 → Calls Try.prog 42 #[v, .slice ka kl kc] w1 (TellsK w.heap.size w1 Q)) : Calls Try.prog 13 #[v, .agg (doV q i n s (.slice ka kl kc))] w (Tells Q) := by
  have HH : Hid (∀ o : Obj, Calls Try.prog 42 #[v, .slice ka kl kc] (w.alloc o) (Tells Q)) := fun o => (H _ ((Below.refl _ _).alloc (Nat.le_refl _) _)).mono fun _ _ h => h.tells
  have hm : (q : Int) % 13 = 8 := by omega
  have hb : (q : Int) < 256 := by omega
  clear H hq hq2
  unfold doV
  go_enter Try.func13, Try.ntmps13
  go_wp2_with fail
  refine Calls.mono (HH.out _) ?_
  rintro e w1 ⟨r, rfl, hr⟩
  have HR : Hid (Q r w1) := hr
  clear hr HH
  go_wp2
  go_ret
  exact ⟨r, rfl, HR.out⟩
set_option maxRecDepth 100000 in
theorem by_9 (hq : q % 13 = 9) (hq2 : q < 256) (H : ∀ w1, Below w.heap.size w w1 → Calls Try.prog 43 #[v] w1 (TellsK w.heap.size w1 Q)) : Calls Try.prog 13 #[v, .agg (doV q i n s (.slice ka kl kc))] w (Tells Q) := by
  have HH : Hid (∀ o : Obj, Calls Try.prog 43 #[v] (w.alloc o) (Tells Q)) := fun o => (H _ ((Below.refl _ _).alloc (Nat.le_refl _) _)).mono fun _ _ h => h.tells
  have hm : (q : Int) % 13 = 9 := by omega
  have hb : (q : Int) < 256 := by omega
  clear H hq hq2
  unfold doV
  go_enter Try.func13, Try.ntmps13
  go_wp2_with fail
  refine Calls.mono (HH.out _) ?_
  rintro e w1 ⟨r, rfl, hr⟩
  have HR : Hid (Q r w1) := hr
  clear hr HH
  go_wp2
  go_ret
  exact ⟨r, rfl, HR.out⟩
set_option maxRecDepth 100000 in
theorem by_10 (hq : q % 13 = 10) (hq2 : q < 256) (H : ∀ w1, Below w.heap.size w w1 → Calls Try.prog 43 #[v] w1 (TellsK w.heap.size w1 Q)) : Calls Try.prog 13 #[v, .agg (doV q i n s (.slice ka kl kc))] w (Tells Q) := by
  have HH : Hid (∀ o : Obj, Calls Try.prog 43 #[v] (w.alloc o) (Tells Q)) := fun o => (H _ ((Below.refl _ _).alloc (Nat.le_refl _) _)).mono fun _ _ h => h.tells
  have hm : (q : Int) % 13 = 10 := by omega
  have hb : (q : Int) < 256 := by omega
  clear H hq hq2
  unfold doV
  go_enter Try.func13, Try.ntmps13
  go_wp2_with fail
  refine Calls.mono (HH.out _) ?_
  rintro e w1 ⟨r, rfl, hr⟩
  have HR : Hid (Q r w1) := hr
  clear hr HH
  go_wp2
  go_ret
  exact ⟨r, rfl, HR.out⟩
set_option maxRecDepth 100000 in
theorem by_11 (hq : q % 13 = 11) (hq2 : q < 256) (H : ∀ w1, Below w.heap.size w w1 → Calls Try.prog 44 #[v, .int .i64 n, .slice ka kl kc] w1 (TellsK w.heap.size w1 Q)) : Calls Try.prog 13 #[v, .agg (doV q i n s (.slice ka kl kc))] w (Tells Q) := by
  have HH : Hid (∀ o : Obj, Calls Try.prog 44 #[v, .int .i64 n, .slice ka kl kc] (w.alloc o) (Tells Q)) := fun o => (H _ ((Below.refl _ _).alloc (Nat.le_refl _) _)).mono fun _ _ h => h.tells
  have hm : (q : Int) % 13 = 11 := by omega
  have hb : (q : Int) < 256 := by omega
  clear H hq hq2
  unfold doV
  go_enter Try.func13, Try.ntmps13
  go_wp2_with fail
  refine Calls.mono (HH.out _) ?_
  rintro e w1 ⟨r, rfl, hr⟩
  have HR : Hid (Q r w1) := hr
  clear hr HH
  go_wp2
  go_ret
  exact ⟨r, rfl, HR.out⟩
set_option maxRecDepth 100000 in
set_option linter.unusedSimpArgs false in
theorem by_12 (hq : q % 13 = 12) (hq2 : q < 256) (H : ∀ w1, Below w.heap.size w w1 → Calls Try.prog 45 #[v, .int .i64 i, .int .i64 n, .string (S (dataT n s))] w1 (TellsK w.heap.size w1 Q)) : Calls Try.prog 13 #[v, .agg (doV q i n s (.slice ka kl kc))] w (Tells Q) := by
  have hb : (q : Int) < 256 := by omega
  obtain ⟨C, hC⟩ : ∃ C, doV q i n s (.slice ka kl kc) = C := ⟨_, rfl⟩
  have hm : (q : Int) % 13 = 12 := by omega
  have HDa : Hid (∀ w : World, Calls Try.prog 38 #[.agg C] w fun e w' => e = .returned (.string (S (dataT n s))) ∧ Below w.heap.size w w') := by rw [← hC]; exact data_any q i n s ka kl kc
  clear hq hq2
  obtain ⟨g, hg⟩ : ∃ g, w.heap.size = g := ⟨_, rfl⟩
  have HB0 : Hid (Below g w (w.alloc (.cells C 37)).drew) := by rw [← hg]; exact ((Below.refl _ _).alloc (Nat.le_refl _) _).drew
  have HG0 : (w.alloc (.cells C 37)).drew.heap[g]? = some (.cells C 37 (0, 0)) := by rw [← hg]; exact heap_alloc_last _ _
  have HGC : Hid (∀ W : World, W.heap[g]? = some (.cells C 37 (0, 0)) → W.cell? ⟨g, 1, none⟩ = some (.int .i64 i) ∧ W.cell? ⟨g, 2, none⟩ = some (.int .i64 n) ∧ W.cell? ⟨g, 3, none⟩ = some (.string (S s))) := fun W h => ⟨by rw [cell_of_row _ _ _ _ _ _ h, ← hC]; rfl, by rw [cell_of_row _ _ _ _ _ _ h, ← hC]; rfl, by rw [cell_of_row _ _ _ _ _ _ h, ← hC]; rfl⟩
  have HRg : Hid (∀ W : World, W.heap[g]? = some (.cells C 37 (0, 0)) → W.rangeAt g 0 C.toList) := fun W h => range_row h
  have HIC : Hid ((Try.prog.info? 37).map (·.size) = some C.toList.length) := by show _ = _; rw [← hC]; kernel_rfl
  have HSz : Hid (g < (w.alloc (.cells C 37)).drew.heap.size) := by show _ < _; rw [← hg]; show _ < (w.alloc _).heap.size; simp
  have HH : Hid (∀ w1, Below g w w1 → Calls Try.prog 45 #[v, .int .i64 i, .int .i64 n, .string (S (dataT n s))] w1 (TellsK g w1 Q)) := by rw [← hg]; exact H
  have c0 : (w.alloc (.cells C 37)).cell? ⟨g, 0, none⟩ = some (.int .u8 (q : Int)) := by rw [← hg, cell_of_row _ _ _ _ _ _ (heap_alloc_last _ _), ← hC]; rfl
  have hCs : C.size = 5 := by rw [← hC]; rfl
  have hCn : ¬ C = #[] := fun h => by rw [h] at hCs; cases hCs
  clear H
  rw [hC]
  clear hC
  go_enter Try.func13, Try.ntmps13
  go_wp2_with fail
  refine wp_region_held (S := fun w' => w'.heap[g]? = some (.cells C 37 (0, 0))) (by kernel_rfl) ?_
  change wpAnyH _ _ _ _ _ _ _ _ (World.drew _)
  generalize (w.alloc (.cells C 37)).drew = W0 at *
  refine wpAnyH_take (i := 0) (v := v) rfl (by kernel_rfl) (by kernel_rfl) (by kernel_rfl) (fun _ _ _ h => h) (Or.inl ⟨by rfl, by intro w _; go_simp⟩) HG0 ?_
  simp only [List.getElem_toArray, List.getElem_cons_succ, List.getElem_cons_zero, Act.put, List.setIfInBounds_toArray, List.set_cons_zero, List.set_cons_succ]
  refine wpAnyH_take (i := 1) (v := .pointer (some ⟨g, 1, none⟩)) rfl (by kernel_rfl) (by kernel_rfl) (by kernel_rfl) (fun _ _ _ h => h) (Or.inl ⟨by rfl, by intro w _; go_simp⟩) HG0 ?_
  simp only [List.getElem_toArray, List.getElem_cons_succ, List.getElem_cons_zero, Act.put, List.setIfInBounds_toArray, List.set_cons_zero, List.set_cons_succ]
  refine wpAnyH_take (i := 2) (v := .int .i64 i) rfl (by kernel_rfl) (by kernel_rfl) (by kernel_rfl) (fun _ _ _ h => h) (Or.inl ⟨by rfl, by intro w hw; obtain ⟨hw1, hw2, hw3⟩ := HGC.out w hw; go_simp⟩) HG0 ?_
  simp only [List.getElem_toArray, List.getElem_cons_succ, List.getElem_cons_zero, Act.put, List.setIfInBounds_toArray, List.set_cons_zero, List.set_cons_succ]
  refine wpAnyH_take (i := 3) (v := .pointer (some ⟨g, 2, none⟩)) rfl (by kernel_rfl) (by kernel_rfl) (by kernel_rfl) (fun _ _ _ h => h) (Or.inl ⟨by rfl, by intro w _; go_simp⟩) HG0 ?_
  simp only [List.getElem_toArray, List.getElem_cons_succ, List.getElem_cons_zero, Act.put, List.setIfInBounds_toArray, List.set_cons_zero, List.set_cons_succ]
  refine wpAnyH_take (i := 4) (v := .int .i64 n) rfl (by kernel_rfl) (by kernel_rfl) (by kernel_rfl) (fun _ _ _ h => h) (Or.inl ⟨by rfl, by intro w hw; obtain ⟨hw1, hw2, hw3⟩ := HGC.out w hw; go_simp⟩) HG0 ?_
  simp only [List.getElem_toArray, List.getElem_cons_succ, List.getElem_cons_zero, Act.put, List.setIfInBounds_toArray, List.set_cons_zero, List.set_cons_succ]
  refine wpAnyH_take (i := 5) (v := .agg C) rfl (by kernel_rfl) (by kernel_rfl) (by kernel_rfl) (fun _ _ _ h => h) (yieldsIf_load_mid (by rfl) 37 _ rfl g 0 rfl C.toList _ (fun w h => HRg.out w h) Try.underlying37 rfl HIC.out) HG0 ?_
  simp only [List.getElem_toArray, List.getElem_cons_succ, List.getElem_cons_zero, Act.put, List.setIfInBounds_toArray, List.set_cons_zero, List.set_cons_succ]
  refine wpAnyH_ready (rs := [6]) (by kernel_rfl) (by simp) (AllReadyH.cons (by simp only [List.getElem?_toArray, List.getElem?_cons_succ, List.getElem?_cons_zero]; rfl) (fun K hK => ?_) AllReadyH.nil)
  refine step_plain rfl ?_
  go_simp
  refine (HDa.out _).mono ?_
  rintro e w2 ⟨rfl, b2⟩
  have HG2 : w2.heap[g]? = some (.cells C 37 (0, 0)) := by rw [b2.block g HSz.out]; exact HG0
  have HB2 : Hid (Below g w w2) := HB0.out.trans (b2.mono (Nat.le_of_lt HSz.out))
  have HS2 : Hid (g < w2.heap.size) := Nat.lt_of_lt_of_le HSz.out b2.size
  refine hK.out _ _ HG2 (fun _ => ?_)
  clear hK K
  try simp only [List.getElem_toArray, List.getElem_cons_succ, List.getElem_cons_zero, Act.put, List.setIfInBounds_toArray, List.set_cons_zero, List.set_cons_succ]
  refine wpAnyH_ready (rs := [7]) (by kernel_rfl) (by simp) (AllReadyH.cons (by simp only [List.getElem?_toArray, List.getElem?_cons_succ, List.getElem?_cons_zero]; rfl) (fun K hK => ?_) AllReadyH.nil)
  refine step_plain rfl ?_
  go_simp
  refine Calls.mono (HH.out _ HB2.out) ?_
  rintro e w3 ⟨r, rfl, hr, hst⟩
  have HR : Hid (Q r w3) := hr
  have HG3 : w3.heap[g]? = some (.cells C 37 (0, 0)) := by rw [hst g (Nat.le_refl _) HS2.out]; exact HG2
  refine hK.out _ _ HG3 (fun _ => ?_)
  clear hK K
  try simp only [List.getElem_toArray, List.getElem_cons_succ, List.getElem_cons_zero, Act.put, List.setIfInBounds_toArray, List.set_cons_zero, List.set_cons_succ]
  refine wpAnyH_take (i := 8) (v := .int .i64 r) rfl (by kernel_rfl) (by kernel_rfl) (by kernel_rfl) (fun _ _ _ h => h) (Or.inl ⟨by rfl, by intro w _; go_simp⟩) HG3 ?_
  simp only [List.getElem_toArray, List.getElem_cons_succ, List.getElem_cons_zero, Act.put, List.setIfInBounds_toArray, List.set_cons_zero, List.set_cons_succ]
  refine wpAnyH_done (by kernel_rfl) ?_ _
  clear HG0 HG2 HG3 HGC HRg HH HDa hr hst
  go_wp2
  go_ret
  exact ⟨r, rfl, HR.out⟩
set_option maxRecDepth 100000 in
set_option linter.unusedSimpArgs false in
theorem by_0 (hq : q % 13 < 4) (hq2 : q < 256) (H : ∀ w1, Below w.heap.size w w1 → Calls Try.prog 39 #[v, .int .i64 i, .string (S (blockT s))] w1 (TellsK w.heap.size w1 Q)) : Calls Try.prog 13 #[v, .agg (doV q i n s (.slice ka kl kc))] w (Tells Q) := by
  have hb : (q : Int) < 256 := by omega
  obtain ⟨C, hC⟩ : ∃ C, doV q i n s (.slice ka kl kc) = C := ⟨_, rfl⟩
  have h4 : ¬ (q : Int) % 13 = 4 := by omega
  have h5 : ¬ (q : Int) % 13 = 5 := by omega
  have h6 : ¬ (q : Int) % 13 = 6 := by omega
  have h7 : ¬ (q : Int) % 13 = 7 := by omega
  have h8 : ¬ (q : Int) % 13 = 8 := by omega
  have h9 : ¬ (q : Int) % 13 = 9 := by omega
  have h10 : ¬ (q : Int) % 13 = 10 := by omega
  have h11 : ¬ (q : Int) % 13 = 11 := by omega
  have h12 : ¬ (q : Int) % 13 = 12 := by omega
  have HDa : Hid (∀ w : World, Calls Try.prog 20 #[.string (S s)] w fun e w' => e = .returned (.string (S (blockT s))) ∧ Below w.heap.size w w') := block_any s
  clear hq hq2
  obtain ⟨g, hg⟩ : ∃ g, w.heap.size = g := ⟨_, rfl⟩
  have HB0 : Hid (Below g w (w.alloc (.cells C 37)).drew) := by rw [← hg]; exact ((Below.refl _ _).alloc (Nat.le_refl _) _).drew
  have HG0 : (w.alloc (.cells C 37)).drew.heap[g]? = some (.cells C 37 (0, 0)) := by rw [← hg]; exact heap_alloc_last _ _
  have HGC : Hid (∀ W : World, W.heap[g]? = some (.cells C 37 (0, 0)) → W.cell? ⟨g, 1, none⟩ = some (.int .i64 i) ∧ W.cell? ⟨g, 2, none⟩ = some (.int .i64 n) ∧ W.cell? ⟨g, 3, none⟩ = some (.string (S s))) := fun W h => ⟨by rw [cell_of_row _ _ _ _ _ _ h, ← hC]; rfl, by rw [cell_of_row _ _ _ _ _ _ h, ← hC]; rfl, by rw [cell_of_row _ _ _ _ _ _ h, ← hC]; rfl⟩
  have HRg : Hid (∀ W : World, W.heap[g]? = some (.cells C 37 (0, 0)) → W.rangeAt g 0 C.toList) := fun W h => range_row h
  have HIC : Hid ((Try.prog.info? 37).map (·.size) = some C.toList.length) := by show _ = _; rw [← hC]; kernel_rfl
  have HSz : Hid (g < (w.alloc (.cells C 37)).drew.heap.size) := by show _ < _; rw [← hg]; show _ < (w.alloc _).heap.size; simp
  have HH : Hid (∀ w1, Below g w w1 → Calls Try.prog 39 #[v, .int .i64 i, .string (S (blockT s))] w1 (TellsK g w1 Q)) := by rw [← hg]; exact H
  have c0 : (w.alloc (.cells C 37)).cell? ⟨g, 0, none⟩ = some (.int .u8 (q : Int)) := by rw [← hg, cell_of_row _ _ _ _ _ _ (heap_alloc_last _ _), ← hC]; rfl
  have hCs : C.size = 5 := by rw [← hC]; rfl
  have hCn : ¬ C = #[] := fun h => by rw [h] at hCs; cases hCs
  clear H
  rw [hC]
  clear hC
  go_enter Try.func13, Try.ntmps13
  go_wp2_with fail
  refine wp_region_held (S := fun w' => w'.heap[g]? = some (.cells C 37 (0, 0))) (by kernel_rfl) ?_
  change wpAnyH _ _ _ _ _ _ _ _ (World.drew _)
  generalize (w.alloc (.cells C 37)).drew = W0 at *
  refine wpAnyH_take (i := 0) (v := v) rfl (by kernel_rfl) (by kernel_rfl) (by kernel_rfl) (fun _ _ _ h => h) (Or.inl ⟨by rfl, by intro w _; go_simp⟩) HG0 ?_
  simp only [List.getElem_toArray, List.getElem_cons_succ, List.getElem_cons_zero, Act.put, List.setIfInBounds_toArray, List.set_cons_zero, List.set_cons_succ]
  refine wpAnyH_take (i := 1) (v := .pointer (some ⟨g, 1, none⟩)) rfl (by kernel_rfl) (by kernel_rfl) (by kernel_rfl) (fun _ _ _ h => h) (Or.inl ⟨by rfl, by intro w _; go_simp⟩) HG0 ?_
  simp only [List.getElem_toArray, List.getElem_cons_succ, List.getElem_cons_zero, Act.put, List.setIfInBounds_toArray, List.set_cons_zero, List.set_cons_succ]
  refine wpAnyH_take (i := 2) (v := .int .i64 i) rfl (by kernel_rfl) (by kernel_rfl) (by kernel_rfl) (fun _ _ _ h => h) (Or.inl ⟨by rfl, by intro w hw; obtain ⟨hw1, hw2, hw3⟩ := HGC.out w hw; go_simp⟩) HG0 ?_
  simp only [List.getElem_toArray, List.getElem_cons_succ, List.getElem_cons_zero, Act.put, List.setIfInBounds_toArray, List.set_cons_zero, List.set_cons_succ]
  refine wpAnyH_take (i := 3) (v := .pointer (some ⟨g, 3, none⟩)) rfl (by kernel_rfl) (by kernel_rfl) (by kernel_rfl) (fun _ _ _ h => h) (Or.inl ⟨by rfl, by intro w _; go_simp⟩) HG0 ?_
  simp only [List.getElem_toArray, List.getElem_cons_succ, List.getElem_cons_zero, Act.put, List.setIfInBounds_toArray, List.set_cons_zero, List.set_cons_succ]
  refine wpAnyH_take (i := 4) (v := .string (S s)) rfl (by kernel_rfl) (by kernel_rfl) (by kernel_rfl) (fun _ _ _ h => h) (Or.inl ⟨by rfl, by intro w hw; obtain ⟨hw1, hw2, hw3⟩ := HGC.out w hw; go_simp⟩) HG0 ?_
  simp only [List.getElem_toArray, List.getElem_cons_succ, List.getElem_cons_zero, Act.put, List.setIfInBounds_toArray, List.set_cons_zero, List.set_cons_succ]
  refine wpAnyH_ready (rs := [5]) (by kernel_rfl) (by simp) (AllReadyH.cons (by simp only [List.getElem?_toArray, List.getElem?_cons_succ, List.getElem?_cons_zero]; rfl) (fun K hK => ?_) AllReadyH.nil)
  refine step_plain rfl ?_
  go_simp
  refine (HDa.out _).mono ?_
  rintro e w2 ⟨rfl, b2⟩
  have HG2 : w2.heap[g]? = some (.cells C 37 (0, 0)) := by rw [b2.block g HSz.out]; exact HG0
  have HB2 : Hid (Below g w w2) := HB0.out.trans (b2.mono (Nat.le_of_lt HSz.out))
  have HS2 : Hid (g < w2.heap.size) := Nat.lt_of_lt_of_le HSz.out b2.size
  refine hK.out _ _ HG2 (fun _ => ?_)
  clear hK K
  try simp only [List.getElem_toArray, List.getElem_cons_succ, List.getElem_cons_zero, Act.put, List.setIfInBounds_toArray, List.set_cons_zero, List.set_cons_succ]
  refine wpAnyH_ready (rs := [6]) (by kernel_rfl) (by simp) (AllReadyH.cons (by simp only [List.getElem?_toArray, List.getElem?_cons_succ, List.getElem?_cons_zero]; rfl) (fun K hK => ?_) AllReadyH.nil)
  refine step_plain rfl ?_
  go_simp
  refine Calls.mono (HH.out _ HB2.out) ?_
  rintro e w3 ⟨r, rfl, hr, hst⟩
  have HR : Hid (Q r w3) := hr
  have HG3 : w3.heap[g]? = some (.cells C 37 (0, 0)) := by rw [hst g (Nat.le_refl _) HS2.out]; exact HG2
  refine hK.out _ _ HG3 (fun _ => ?_)
  clear hK K
  try simp only [List.getElem_toArray, List.getElem_cons_succ, List.getElem_cons_zero, Act.put, List.setIfInBounds_toArray, List.set_cons_zero, List.set_cons_succ]
  refine wpAnyH_take (i := 7) (v := .int .i64 r) rfl (by kernel_rfl) (by kernel_rfl) (by kernel_rfl) (fun _ _ _ h => h) (Or.inl ⟨by rfl, by intro w _; go_simp⟩) HG3 ?_
  simp only [List.getElem_toArray, List.getElem_cons_succ, List.getElem_cons_zero, Act.put, List.setIfInBounds_toArray, List.set_cons_zero, List.set_cons_succ]
  refine wpAnyH_done (by kernel_rfl) ?_ _
  clear HG0 HG2 HG3 HGC HRg HH HDa hr hst
  go_wp2
  go_ret
  exact ⟨r, rfl, HR.out⟩
end
end Go.Proofs.Ythlaackalmgfnaa
