/- Contract of a device's do. -/
import Derived.Test.YthlaackalmgfnaaDh
namespace Go.Proofs.Ythlaackalmgfnaa
open Go.RowKit

theorem info_act : ∃ i, Try.prog.info? 100 = some i ∧ i.zero = some .nilIface ∧ i.size = 1 ∧ i.bytes = 16 := by
  have h : (Try.prog.info? 100).map (fun i => (i.zero, i.size, i.bytes)) = some (some .nilIface, 1, 16) := by kernel_rfl
  cases hq : Try.prog.info? 100 with
  | none => rw [hq] at h; cases h
  | some i =>
    rw [hq] at h
    simp at h
    exact ⟨i, rfl, h.1, h.2.1, h.2.2⟩
theorem owns_slice {w : World} {e : TypeId} {v : Value} {n : Nat} {xs : List Value} (h : w.ownsRow 0 e 1 v n xs) : ∃ a c, v = .slice a n c := by
  rcases h.2 with ⟨q1, q2⟩ | ⟨g, cap, cur, q1, _⟩
  · exact ⟨none, 0, by rw [q1, q2]⟩
  · exact ⟨_, _, q1⟩
theorem failsD_true {d : Dv} (h : (failsD d).1 = true) : ∃ k, d.fail = some (0, k) ∧ (failsD d).2 = d ∧ keepOf d = k := by
  unfold failsD at h ⊢
  unfold keepOf
  cases hf : d.fail with
  | none => rw [hf] at h; cases h
  | some x =>
    obtain ⟨n, k⟩ := x
    rw [hf] at h
    cases n with
    | zero => exact ⟨k, rfl, rfl, rfl⟩
    | succ n => cases h
theorem Dev.at {w : World} {p : Nat} {d : Dv} {O : Nat → Prop} {a b ca cb : Nat} {cv fv kv : Value} (h : DevAt w p d O a b ca cb cv fv kv) : Dev w p d O := ⟨a, b, ca, cb, cv, fv, kv, h⟩
set_option maxRecDepth 100000 in
set_option linter.unusedSimpArgs false in
set_option maxHeartbeats 1600000 in
theorem do_dev {w : World} {p : Nat} {d : Dv} {O : Nat → Prop} (h : Dev w p d O) (x : Ac) (hx : x.at_ < d.sure.length) (hs : d.acts.length < 1000000) :
    Calls Try.prog 53 #[.pointer (some ⟨p, 0, none⟩), acV x] w fun e w' => e = .returned (.int .i64 (doD d x).1) ∧ Dev w' p (doD d x).2 (grow O w w') ∧ Turn O w w' := by
  obtain ⟨a, b, ca, cb, cv, fv, kv, h⟩ := h
  obtain ⟨-, -, c2, -⟩ := h.c
  obtain ⟨T, V, F, hV, hM, hCF, hP⟩ := act_place x
  obtain ⟨B, hB⟩ : ∃ B, d.told[x.at_]? = some B := ⟨_, List.getElem?_eq_getElem (by rw [h.len]; exact hx)⟩
  have hBd : d.told.getD x.at_ blank = B := by rw [List.getD_eq_getElem?_getD, hB]; rfl
  obtain ⟨Y, hY⟩ : ∃ Y, keptB B x 15 = Y := ⟨_, rfl⟩
  have HAD : Hid (actD d x = { d with acts := d.acts ++ [x], told := d.told.set x.at_ Y }) := by show _ = _; unfold actD; rw [hBd, hY]
  obtain ⟨BC, hBC⟩ : ∃ BC, (bc B).toArray = BC := ⟨_, rfl⟩
  obtain ⟨X, hX⟩ : ∃ X, (bc Y).toArray = X := ⟨_, rfl⟩
  have HKq : Hid (∀ w : World, Calls Try.prog 66 #[.agg BC, .iface T V, .int .i64 15] w fun e w' => e = .returned (.agg X) ∧ Below w.heap.size w w') := fun w => by rw [← hBC, ← hX, ← hY, ← hV]; exact kept_any B x 15 w
  have HXi : Hid ((Try.prog.info? 89).map (·.size) = some X.size) := by show _ = _; rw [info_bk, ← hX, bcA_size]
  have HX1 : Hid (X.all (·.oneCell') = true) := by rw [← hX]; exact bcA_one _
  have HXY : Hid ((bc Y).toArray = X) := hX
  have HIB : Hid ((Try.prog.info? 89).map (·.size) = some BC.toList.length) := by show _ = _; rw [info_bk, ← hBC]; simp
  have HBC : Hid ((bc B).toArray = BC) := hBC
  have HAdd : Hid (∀ (w1 : World) (v' : Value), w1.ownsRow 0 100 1 v' (d.acts.length + 1) (d.acts.map acV ++ [.iface T V]) → (w.alloc (.cells #[.iface T V] 100)).grownBy w1 cv.ownBlock → (∀ k, v'.ownBlock = some k → cv.ownBlock = some k ∨ (w.alloc (.cells #[.iface T V] 100)).heap.size ≤ k) →
      DevAt (w1.setCell ⟨p, 2, none⟩ v') p { d with acts := d.acts ++ [x] } (grow O w w1) a b ca cb v' fv kv ∧ Turn O w (w1.setCell ⟨p, 2, none⟩ v')) := fun w1 v' h1 h2 h3 => h.addAct x hx _ (by rw [hV]; exact h1) h2 h3
  have HOW : Hid ((w.alloc (.cells #[.iface T V] 100)).ownsRow 0 100 1 cv d.acts.length (d.acts.map acV)) := h.acts.alloc _
  have HCL : Hid (∀ w1 : World, (w.alloc (.cells #[.iface T V] 100)).grownBy w1 cv.ownBlock → ∃ u, w1.cell? ⟨p, 2, none⟩ = some u) := fun w1 hg => by
    have hp := h.own p (by simp [blocks])
    have hne : some p ≠ cv.ownBlock := fun e => ((nodup_mem h.nodup).2.2.2.1 p e.symm).1 rfl
    refine ⟨cv, ?_⟩
    rw [← h.c.2.2.1]
    refine World.cell?_of_block ?_
    rw [hg.block p (by simp; omega) hne, Below.heap_alloc _ _ _ hp.2]
  have HFZ : Hid (∀ w1 : World, (w.alloc (.cells #[.iface T V] 100)).grownBy w1 cv.ownBlock → w1.frozen? ⟨p, 2, none⟩ = false) := fun w1 hg => by
    have hp := h.own p (by simp [blocks])
    have hne : some p ≠ cv.ownBlock := fun e => ((nodup_mem h.nodup).2.2.2.1 p e.symm).1 rfl
    have e : w1.heap[p]? = w.heap[p]? := by rw [hg.block p (by simp; omega) hne, Below.heap_alloc _ _ _ hp.2]
    rw [h.cells] at e
    exact frozen_of_row _ _ _ _ _ e
  have HOB : Hid (O b) := (h.own b (by simp [blocks])).1
  have HLEN : Hid (d.told.length = d.sure.length) := h.len
  rw [hV]
  have HP : Hid (∀ w : World, Calls Try.prog F #[V] w fun e w' => e = .returned (.int .i64 (x.at_ : Int)) ∧ Below w.heap.size w w') := hP
  obtain ⟨i, hi⟩ : ∃ i, i = x.at_ := ⟨_, rfl⟩
  rw [← hi] at HP HAD hx hB
  obtain ⟨n, hn⟩ : ∃ n, d.sure.length = n := ⟨_, rfl⟩
  have HN : Hid (d.sure.length = n) := hn
  have hin2 : (i : Int) < (n : Int) := by rw [← hn]; omega
  have HX : Hid (i < d.sure.length) := hx
  have HB : Hid (d.told[i]? = some B) := hB
  have HS0 : Hid (d.acts.length < 1000000) := hs
  unfold doD
  rw [HAD.out]
  obtain ⟨d1, hd1⟩ : ∃ d1, ({ d with acts := d.acts ++ [x], told := d.told.set i Y } : Dv) = d1 := ⟨_, rfl⟩
  rw [hd1]
  have HDE : Hid _ := hd1
  obtain ⟨R, hR⟩ : ∃ R, endD d1 = R := ⟨_, rfl⟩
  rw [hR]
  have HR0 : Hid (endD d1 = R) := hR
  clear hd1 hR
  clear h hV hP hi hx hY hX hBC hBd hB HAD hn hs
  obtain ⟨ia, i1, i2, i3, i4⟩ := info_act
  have HIA : Hid (Try.prog.info? 100 = some ia ∧ ia.zero = some .nilIface ∧ ia.size = 1 ∧ ia.bytes = 16) := ⟨i1, i2, i3, i4⟩
  clear i1 i2 i3 i4
  go_enter Try.func53, Try.ntmps53
  go_wp2_with (refine wpList_append_keep rfl _ _ 54 rfl 100 ia .nilIface 16 Try.underlying54 HIA.out.1 HIA.out.2.1 HIA.out.2.2.1 HIA.out.2.2.2 rfl cv d.acts.length (d.acts.map acV) rfl HOW.out ⟨w.heap.size, 0, none⟩ _ (.iface T V) rfl (by rw [cell_of_row _ _ _ _ _ _ (heap_alloc_last w _)]; rfl) rfl (by have := HS0.out; simp only [maxLen]; omega) (by have := HS0.out; omega) ?_; intro v' w1 r1 r2 r3; obtain ⟨va, vc, rfl⟩ := owns_slice r1; obtain ⟨uu, cu⟩ := HCL.out w1 r2; have fu := HFZ.out w1 r2; have HDT : Hid _ := HAdd.out w1 _ r1 r2 r3; have HSZ : Hid (w.heap.size ≤ w1.heap.size) := (by have := r2.size; simp at this; show _ ≤ _; omega); clear r1 r2 r3)
  clear cu fu c2 HOW HCL HFZ HAdd
  have HSW : Hid (w1.heap.size = (w1.setCell ⟨p, 2, none⟩ (.slice va (d.acts.length + 1) vc)).heap.size) := by show _ = _; rw [heap_set_size]
  generalize w1.setCell ⟨p, 2, none⟩ (.slice va (d.acts.length + 1) vc) = W1 at *
  have D1 : Hid _ := HDT.out.1.drew
  have HT1 : Hid (Turn O w W1.drew) := HDT.out.2.drew
  clear HDT
  obtain ⟨-, c1, -⟩ := D1.out.c
  rw [HN.out] at c1
  have HS : W1.drew.cell? ⟨p, 1, none⟩ = some (.slice (some ⟨b, 0, none⟩) n cb) := c1
  clear c1
  refine wp_region_held (S := fun w' => w'.cell? ⟨p, 1, none⟩ = some (.slice (some ⟨b, 0, none⟩) n cb)) (by kernel_rfl) ?_
  change wpAnyH _ _ _ _ _ _ _ _ (World.drew _)
  have HW2 : Hid (W1.drew.heap.size = W1.heap.size) := rfl
  generalize W1.drew = W2 at *
  refine wpAnyH_take (i := 0) (v := .pointer (some ⟨p, 0, none⟩)) rfl (by kernel_rfl) (by kernel_rfl) (by kernel_rfl) (fun _ _ _ h => h) (Or.inl ⟨by rfl, by intro w _; go_simp⟩) HS ?_
  simp only [List.getElem_toArray, List.getElem_cons_succ, List.getElem_cons_zero, Act.put, List.setIfInBounds_toArray, List.set_cons_zero, List.set_cons_succ]
  refine wpAnyH_take (i := 1) (v := .pointer (some ⟨p, 0, none⟩)) rfl (by kernel_rfl) (by kernel_rfl) (by kernel_rfl) (fun _ _ _ h => h) (Or.inl ⟨by rfl, by intro w _; go_simp⟩) HS ?_
  simp only [List.getElem_toArray, List.getElem_cons_succ, List.getElem_cons_zero, Act.put, List.setIfInBounds_toArray, List.set_cons_zero, List.set_cons_succ]
  refine wpAnyH_take (i := 2) (v := .pointer (some ⟨p, 1, none⟩)) rfl (by kernel_rfl) (by kernel_rfl) (by kernel_rfl) (fun _ _ _ h => h) (Or.inl ⟨by rfl, by intro w _; go_simp⟩) HS ?_
  simp only [List.getElem_toArray, List.getElem_cons_succ, List.getElem_cons_zero, Act.put, List.setIfInBounds_toArray, List.set_cons_zero, List.set_cons_succ]
  refine wpAnyH_take (i := 3) (v := .slice (some ⟨b, 0, none⟩) n cb) rfl (by kernel_rfl) (by kernel_rfl) (by kernel_rfl) (fun _ _ _ h => h) (Or.inl ⟨by rfl, by intro w hw; have hw : w.cell? ⟨p, 1, none⟩ = some (.slice (some ⟨b, 0, none⟩) n cb) := hw; go_simp⟩) HS ?_
  simp only [List.getElem_toArray, List.getElem_cons_succ, List.getElem_cons_zero, Act.put, List.setIfInBounds_toArray, List.set_cons_zero, List.set_cons_succ]
  refine wpAnyH_take (i := 4) (v := .iface T V) rfl (by kernel_rfl) (by kernel_rfl) (by kernel_rfl) (fun _ _ _ h => h) (Or.inl ⟨by rfl, by intro w _; go_simp⟩) HS ?_
  simp only [List.getElem_toArray, List.getElem_cons_succ, List.getElem_cons_zero, Act.put, List.setIfInBounds_toArray, List.set_cons_zero, List.set_cons_succ]
  refine wpAnyH_take (i := 6) (v := .pointer (some ⟨p, 0, none⟩)) rfl (by kernel_rfl) (by kernel_rfl) (by kernel_rfl) (fun _ _ _ h => h) (Or.inl ⟨by rfl, by intro w _; go_simp⟩) HS ?_
  simp only [List.getElem_toArray, List.getElem_cons_succ, List.getElem_cons_zero, Act.put, List.setIfInBounds_toArray, List.set_cons_zero, List.set_cons_succ]
  refine wpAnyH_take (i := 7) (v := .pointer (some ⟨p, 0, none⟩)) rfl (by kernel_rfl) (by kernel_rfl) (by kernel_rfl) (fun _ _ _ h => h) (Or.inl ⟨by rfl, by intro w _; go_simp⟩) HS ?_
  simp only [List.getElem_toArray, List.getElem_cons_succ, List.getElem_cons_zero, Act.put, List.setIfInBounds_toArray, List.set_cons_zero, List.set_cons_succ]
  refine wpAnyH_take (i := 8) (v := .pointer (some ⟨p, 1, none⟩)) rfl (by kernel_rfl) (by kernel_rfl) (by kernel_rfl) (fun _ _ _ h => h) (Or.inl ⟨by rfl, by intro w _; go_simp⟩) HS ?_
  simp only [List.getElem_toArray, List.getElem_cons_succ, List.getElem_cons_zero, Act.put, List.setIfInBounds_toArray, List.set_cons_zero, List.set_cons_succ]
  refine wpAnyH_take (i := 9) (v := .slice (some ⟨b, 0, none⟩) n cb) rfl (by kernel_rfl) (by kernel_rfl) (by kernel_rfl) (fun _ _ _ h => h) (Or.inl ⟨by rfl, by intro w hw; have hw : w.cell? ⟨p, 1, none⟩ = some (.slice (some ⟨b, 0, none⟩) n cb) := hw; go_simp⟩) HS ?_
  simp only [List.getElem_toArray, List.getElem_cons_succ, List.getElem_cons_zero, Act.put, List.setIfInBounds_toArray, List.set_cons_zero, List.set_cons_succ]
  refine wpAnyH_take (i := 10) (v := .iface T V) rfl (by kernel_rfl) (by kernel_rfl) (by kernel_rfl) (fun _ _ _ h => h) (Or.inl ⟨by rfl, by intro w _; go_simp⟩) HS ?_
  simp only [List.getElem_toArray, List.getElem_cons_succ, List.getElem_cons_zero, Act.put, List.setIfInBounds_toArray, List.set_cons_zero, List.set_cons_succ]
  refine wpAnyH_take (i := 14) (v := .iface T V) rfl (by kernel_rfl) (by kernel_rfl) (by kernel_rfl) (fun _ _ _ h => h) (Or.inl ⟨by rfl, by intro w _; go_simp⟩) HS ?_
  simp only [List.getElem_toArray, List.getElem_cons_succ, List.getElem_cons_zero, Act.put, List.setIfInBounds_toArray, List.set_cons_zero, List.set_cons_succ]
  refine wpAnyH_ready (rs := [5]) (by kernel_rfl) (by simp) (AllReadyH.cons (by simp only [List.getElem?_toArray, List.getElem?_cons_succ, List.getElem?_cons_zero]; rfl) (fun K hK => ?_) AllReadyH.nil)
  refine step_plain rfl ?_
  go_simp
  refine (HP.out _).mono ?_
  rintro e w3 ⟨rfl, b3⟩
  have D3 : Hid _ := D1.out.below b3
  have HT3 : Hid (Turn O w w3) := HT1.out.then_below b3
  have HS3 : w3.cell? ⟨p, 1, none⟩ = some (.slice (some ⟨b, 0, none⟩) n cb) := by have := D3.out.c.2.1; rw [HN.out] at this; exact this
  refine hK.out _ _ HS3 (fun _ => ?_)
  clear hK K
  try simp only [List.getElem_toArray, List.getElem_cons_succ, List.getElem_cons_zero, Act.put, List.setIfInBounds_toArray, List.set_cons_zero, List.set_cons_succ]
  refine wpAnyH_ready (rs := [11]) (by kernel_rfl) (by simp) (AllReadyH.cons (by simp only [List.getElem?_toArray, List.getElem?_cons_succ, List.getElem?_cons_zero]; rfl) (fun K hK => ?_) AllReadyH.nil)
  refine step_plain rfl ?_
  go_simp
  refine (HP.out _).mono ?_
  rintro e w4 ⟨rfl, b4⟩
  have D4 : Hid _ := D3.out.below b4
  have HT4 : Hid (Turn O w w4) := HT3.out.then_below b4
  have HS4 : w4.cell? ⟨p, 1, none⟩ = some (.slice (some ⟨b, 0, none⟩) n cb) := by have := D4.out.c.2.1; rw [HN.out] at this; exact this
  have HRg : Hid (w4.rangeAt b (i * 129) BC.toList) := by rw [← HBC.out]; exact D4.out.rangeT i B HB.out
  refine hK.out _ _ HS4 (fun _ => ?_)
  clear hK K
  try simp only [List.getElem_toArray, List.getElem_cons_succ, List.getElem_cons_zero, Act.put, List.setIfInBounds_toArray, List.set_cons_zero, List.set_cons_succ]
  clear HS HS3
  refine wpAnyH_take (i := 12) (v := .pointer (some ⟨b, i * 129, none⟩)) rfl (by kernel_rfl) (by kernel_rfl) (by kernel_rfl) (fun _ _ _ h => h) (Or.inl ⟨by rfl, by intro w _; go_simp⟩) HS4 ?_
  simp only [List.getElem_toArray, List.getElem_cons_succ, List.getElem_cons_zero, Act.put, List.setIfInBounds_toArray, List.set_cons_zero, List.set_cons_succ]
  refine wpAnyH_ready (rs := [13]) (by kernel_rfl) (by simp) (AllReadyH.cons (by simp only [List.getElem?_toArray, List.getElem?_cons_succ, List.getElem?_cons_zero]; rfl) (fun K hK => ?_) AllReadyH.nil)
  refine step_plain rfl (wp_load_mid 89 _ rfl b (i * 129) rfl BC.toList _ HRg.out Try.underlying89 rfl HIB.out ?_)
  refine hK.out _ _ HS4 (fun _ => ?_)
  clear hK K
  try simp only [List.getElem_toArray, List.getElem_cons_succ, List.getElem_cons_zero, Act.put, List.setIfInBounds_toArray, List.set_cons_zero, List.set_cons_succ]
  refine wpAnyH_ready (rs := [15]) (by kernel_rfl) (by simp) (AllReadyH.cons (by simp only [List.getElem?_toArray, List.getElem?_cons_succ, List.getElem?_cons_zero]; rfl) (fun K hK => ?_) AllReadyH.nil)
  refine step_plain rfl ?_
  go_simp
  refine (HKq.out _).mono ?_
  rintro e w5 ⟨rfl, b5⟩
  have D5 : Hid _ := D4.out.below b5
  have HT5 : Hid (Turn O w w5) := HT4.out.then_below b5
  have HS5 : w5.cell? ⟨p, 1, none⟩ = some (.slice (some ⟨b, 0, none⟩) n cb) := by have := D5.out.c.2.1; rw [HN.out] at this; exact this
  refine hK.out _ _ HS5 (fun _ => ?_)
  clear hK K
  try simp only [List.getElem_toArray, List.getElem_cons_succ, List.getElem_cons_zero, Act.put, List.setIfInBounds_toArray, List.set_cons_zero, List.set_cons_succ]
  obtain ⟨cur, new, g1, g2, g3, D6⟩ := D5.out.putTold i HX.out Y
  rw [HXY.out] at g2 g3
  have HOb : Hid (O b) := HOB.out
  have HD6 : Hid _ := D6
  have HT6 : Hid (Turn O w (w5.setRow b new)) := HT5.out.setRow HOb.out new
  have G1 : Hid _ := g1
  have G2 : Hid _ := g2
  have G3 : Hid _ := g3
  have HS6 : (w5.setRow b new).cell? ⟨p, 1, none⟩ = some (.slice (some ⟨b, 0, none⟩) n cb) := by have := HD6.out.c.2.1; rw [HN.out] at this; exact this
  clear g1 g2 g3 D6 HS4
  refine wpAnyH_take (i := 16) (v := .pointer (some ⟨b, i * 129, none⟩)) rfl (by kernel_rfl) (by kernel_rfl) (by kernel_rfl) (fun _ _ _ h => h) (Or.inl ⟨by rfl, by intro w _; go_simp⟩) HS5 ?_
  simp only [List.getElem_toArray, List.getElem_cons_succ, List.getElem_cons_zero, Act.put, List.setIfInBounds_toArray, List.set_cons_zero, List.set_cons_succ]
  refine wpAnyH_ready (rs := [17]) (by kernel_rfl) (by simp) (AllReadyH.cons (by simp only [List.getElem?_toArray, List.getElem?_cons_succ, List.getElem?_cons_zero]; rfl) (fun K hK => ?_) AllReadyH.nil)
  refine step_plain rfl (wp_store_midR 89 _ _ rfl b (i * 129) X cur new 89 rfl rfl G1.out G2.out HXi.out HX1.out G3.out ?_)
  refine hK.out _ _ HS6 (fun _ => ?_)
  clear hK K
  try simp only [List.getElem_toArray, List.getElem_cons_succ, List.getElem_cons_zero, Act.put, List.setIfInBounds_toArray, List.set_cons_zero, List.set_cons_succ]
  refine wpAnyH_done (by kernel_rfl) ?_ _
  have HSZ6 : Hid (w1.heap.size ≤ (w5.setRow b new).heap.size) := by
    show _ ≤ _
    rw [HSW.out]
    have q1 := b3.size
    have q2 := b4.size
    have q3 := b5.size
    have q4 : (w5.setRow b new).heap.size = w5.heap.size := by simp [World.setRow]
    have q5 : W2.heap.size = W1.heap.size := HW2.out
    omega
  clear G1 G2 G3 HS5 HS6 hM hCF
  generalize w5.setRow b new = W6 at *
  have HD1 : Hid (Dev W6 p d1 (grow O w w1)) := Dev.at (by rw [← HDE.out]; exact HD6.out)
  clear HD6
  cases hf : (failsD d1).1 with
  | false =>
    have hE : endD d1 = (0, (failsD d1).2) := by unfold endD; rw [hf]; rfl
    have HRE : Hid _ := HR0.out.symm.trans hE
    have HF : Hid (Calls Try.prog 56 #[.pointer (some ⟨p, 0, none⟩)] W6 fun e w' => e = .returned (.bool false) ∧ Dev w' p (failsD d1).2 (grow O w w1) ∧ Turn (grow O w w1) W6 w' ∧ w'.heap.size = W6.heap.size) := by have := fails_dev HD1.out; rw [hf] at this; exact this
    clear hf hE
    go_wp2_with fail
    refine HF.out.mono ?_
    rintro e w7 ⟨rfl, D7, T7, S7⟩
    have HR : Hid (Dev w7 p (failsD d1).2 (grow O w w7) ∧ Turn O w w7) := ⟨D7.mono fun k hk => by
      rcases hk with hk | hk
      · exact .inl hk
      · exact .inr ⟨hk.1, by have := HSZ6.out; omega⟩, HT6.out.trans T7 fun k hk hg => by
      rcases hg with hg | hg
      · exact hg
      · omega⟩
    clear D7 T7 S7
    go_wp2
    go_ret
    rw [HRE.out]
    exact ⟨rfl, HR.out.1, HR.out.2⟩
  | true =>
    obtain ⟨k, hk1, hk2, hk3⟩ := failsD_true hf
    have hE : endD d1 = (43, crashD d1 k) := by unfold endD; rw [hf, hk2, hk3]; rfl
    have HRE : Hid _ := HR0.out.symm.trans hE
    have HF : Hid (Calls Try.prog 56 #[.pointer (some ⟨p, 0, none⟩)] W6 fun e w' => e = .returned (.bool true) ∧ Dev w' p d1 (grow O w w1) ∧ Turn (grow O w w1) W6 w' ∧ w'.heap.size = W6.heap.size) := by have := fails_dev HD1.out; rw [hf, hk2] at this; exact this
    have HK1 : Hid (d1.fail = some (0, k)) := hk1
    clear hf hE hk1 hk2 hk3
    go_wp2_with fail
    refine HF.out.mono ?_
    rintro e w7 ⟨rfl, ⟨a', b', ca', cb', cv', fv', kv', D7⟩, T7, S7⟩
    have hfl := D7.fail
    rw [HK1.out] at hfl
    obtain ⟨f, rfl, q1, q2⟩ := hfl
    obtain ⟨-, -, -, -, -, c5⟩ := D7.c
    have cf : w7.cell? ⟨f, 1, none⟩ = some kv' := by rw [cell_of_row _ _ _ _ _ _ q1]; rfl
    have n6 := (nodup_mem D7.nodup).2.2.2.2.2
    have HC : Hid (Calls Try.prog 57 #[.pointer (some ⟨p, 0, none⟩), kv'] w7 fun e w' => e = .returned (.tuple #[]) ∧ Dev w' p (crashD d1 k) (grow O w w1) ∧ Turn (grow O w w1) w7 w') := crash_at D7 q2 (fun _ i hi _ => (n6 i hi).2)
    obtain ⟨ka, kc, rfl, -⟩ := q2
    have HT7 : Hid (Turn O w w7) := HT6.out.trans T7 fun k hk hg => by
      rcases hg with hg | hg
      · exact hg
      · omega
    have HS7 : Hid (w1.heap.size ≤ w7.heap.size) := by have := HSZ6.out; show _ ≤ _; omega
    clear D7 T7 S7 q1 n6
    go_wp2_with fail
    refine HC.out.mono ?_
    rintro e w8 ⟨rfl, D8, T8⟩
    have HR : Hid (Dev w8 p (crashD d1 k) (grow O w w8) ∧ Turn O w w8) := ⟨D8.mono fun k hk => by
      rcases hk with hk | hk
      · exact .inl hk
      · exact .inr ⟨hk.1, by have := HS7.out; have := T8.size; omega⟩, HT7.out.trans T8 fun k hk hg => by
      rcases hg with hg | hg
      · exact hg
      · omega⟩
    clear D8 T8 HC cf c5
    go_wp2
    go_ret
    rw [HRE.out]
    exact ⟨rfl, HR.out.1, HR.out.2⟩
end Go.Proofs.Ythlaackalmgfnaa
