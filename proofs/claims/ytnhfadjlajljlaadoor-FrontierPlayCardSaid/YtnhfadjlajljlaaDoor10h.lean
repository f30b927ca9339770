/- Contracts of put and Append of a frontier (layer 10). -/
import Derived.Test.YtnhfadjlajljlaaDoor10g
namespace Go.Proofs.YtnhfadjlajljlaaDoor
open Go.RowKit

/-- A frontier's box. -/
abbrev frC (v : Value) (n : Int) : Array Value := #[v, .bool true, .int .i64 n]
theorem HsAt.but {w w' : World} {a : Option Addr} {n c b : Nat} {L : List (List UInt8)} {C : Array Value} {ty : TypeId} {q : Nat × Nat} (h : HsAt w (.slice a n c) L) (hb : But b w w') (hg : w.heap[b]? = some (.cells C ty q)) (hC : C.size < 32) : HsAt w' (.slice a n c) L := by
  refine h.kept fun ad ha hn => ?_
  subst ha
  have hne := h.wide hn hg hC
  obtain ⟨a', c', e, hh⟩ := h
  obtain ⟨rfl, rfl, rfl⟩ := Value.slice.inj e
  obtain ⟨x, hx⟩ : ∃ x, L[0]? = some x := ⟨_, List.getElem?_eq_getElem hn⟩
  obtain ⟨h6, b', o, ea, h7⟩ := hh 0 x hx
  obtain rfl : ad = ⟨b', o, none⟩ := by simpa using ea
  have hs : (hv x).size = 32 := by rw [hv_size, h6]
  exact hb.block _ (World.block_lt_of_cell? w _ (h7 0 _ (by rw [Array.getElem?_toList]; exact Array.getElem?_eq_getElem (by omega)))) hne
theorem hs_made {w : World} {x : List UInt8} {C : Array Value} (hC : hv x = C) (hx : x.length = 32) : HsAt (w.alloc (.cells C 30)) (.slice (some ⟨w.heap.size, 0, none⟩) 1 1) [x] := by
  have := HsAt.made w x hx
  rw [hC] at this
  exact this
set_option maxRecDepth 100000 in
set_option maxHeartbeats 2000000 in
set_option linter.unusedSimpArgs false in
set_option linter.unusedVariables false in
theorem eput_any {w : World} {a : Option Addr} {b c t n : Nat} {L : List (List UInt8)} (h : List UInt8) (hT : TabL w) (hgb : 4 < b ∧ 3 < b) (hb : w.heap[b]? = some (.cells (frC (.slice a L.length c) n) 55 (0, 0))) (hL : HsAt w (.slice a L.length c) L) (hc : L.length ≤ c) (hown : ∀ ad, a = some ad → ∃ g o, ad = ⟨g, o, none⟩) (ht : t ≤ L.length) (hlen : L.length ≤ 1000) (hh : h.length = 32) :
    Calls Tryd.prog 28 #[.pointer (some ⟨b, 0, none⟩), .agg (hv h), .int .i64 t] w fun e w' => (∃ v, e = .returned v) ∧ (∃ a' c', w'.heap[b]? = some (.cells (frC (.slice a' (puL nodeL t L h).length c') n) 55 (0, 0)) ∧ HsAt w' (.slice a' (puL nodeL t L h).length c') (puL nodeL t L h) ∧ (puL nodeL t L h).length ≤ c' ∧ OwnA w.heap.size a') ∧ But b w w' := by
  have hlt := (Array.getElem?_eq_some_iff.1 hb).1
  obtain ⟨m, hm⟩ : ∃ m, L.length = m + t := ⟨L.length - t, by omega⟩
  obtain ⟨w1, hw1⟩ : ∃ w1, w.alloc (.cells (hv h) 30) = w1 := ⟨_, rfl⟩
  have bw1 : Below w.heap.size w w1 := by rw [← hw1]; exact (Below.refl _ _).alloc (Nat.le_refl _) _
  have g1 : w1.heap[w.heap.size]? = some (.cells (hv h) 30 (0, 0)) := by rw [← hw1]; exact heap_alloc_last w _
  have hb1 := (bw1.block _ hlt).trans hb
  have hs1 : w.heap.size < w1.heap.size := (Array.getElem?_eq_some_iff.1 g1).1
  have hL1 := hL.below bw1
  have hT1 := hT.below bw1 hT.lt
  obtain ⟨c0, -, -⟩ := fcells hb1
  have hpl : puL nodeL t L h = L.take m ++ [abL nodeL (L.drop m) h] := by unfold puL; rw [show L.length - t = m by omega]
  have hplen : (puL nodeL t L h).length = m + 1 := by rw [hpl, List.length_append, List.length_take]; simp; omega
  have hu32 : (abL nodeL (L.drop m) h).length = 32 := by
    unfold abL
    cases L.drop m with
    | nil => exact hh
    | cons y l => exact shaL_length _
  have HS : Hid (∀ W, But b w1 W → HsAt W (.slice a L.length c) L ∧ TabL W ∧ W.rangeAt w.heap.size 0 (hv h).toList) := fun W hW => ⟨hL1.but hW hb1 (by simp), hT1.but hW hgb, by
    exact range_row ((hW.block _ hs1 (by omega)).trans g1)⟩
  have HAb : Hid (∀ (rb : Option Addr) (W : World), HsAt W (.slice rb (L.length - m) (c - m)) (L.drop m) → TabL W → Calls Tryd.prog 31 #[.slice rb (L.length - m) (c - m), .agg (hv h)] W fun e w'' => e = .returned (.agg (hv (abL nodeL (L.drop m) h))) ∧ Below W.heap.size W w'') := fun rb W hW hTW => above_any h hTW hW (by rw [List.length_drop]; omega) hh
  have HCo : Hid (∀ (W : World) (g2 : Nat) (u : Option Addr) (cc : Nat), W.cell? ⟨g2, 0, none⟩ = some (.slice a m c) → W.cell? ⟨g2, 1, none⟩ = some (.slice u 1 cc) → HsAt W (.slice a m c) (L.take m) → HsAt W (.slice u 1 cc) [abL nodeL (L.drop m) h] →
      Calls Tryd.prog 39 #[.slice (some ⟨g2, 0, none⟩) 2 2] W fun e w' => ∃ a' c', e = .returned (.slice a' (m + 1) c') ∧ Mh W W.heap.size (.slice a' (m + 1) c') (puL nodeL t L h) w') := fun W g2 u cc e1 e2 h1 h2 => by
    have h3 : allH [(Value.slice a m c, L.take m), (Value.slice u 1 cc, [abL nodeL (L.drop m) h])] = puL nodeL t L h := by rw [hpl]; simp [allH]
    have h4 := hconcat_any (w := W) (b := g2) (c := 2) (ts := [(Value.slice a m c, L.take m), (Value.slice u 1 cc, [abL nodeL (L.drop m) h])]) (fun i v l hi => by
      match i, hi with
      | 0, hi => obtain ⟨rfl, rfl⟩ := Prod.mk.inj (Option.some.inj hi); exact ⟨e1, h1⟩
      | 1, hi => obtain ⟨rfl, rfl⟩ := Prod.mk.inj (Option.some.inj hi); exact ⟨e2, h2⟩
      | i + 2, hi => simp at hi) (by simp) (by rw [h3, hplen]; omega)
    rw [h3, hplen] at h4
    exact h4
  have HTk : Hid (∀ W, HsAt W (.slice a L.length c) L → HsAt W (.slice a m c) (L.take m)) := fun W hW => hW.take m (by omega)
  have HRs : Hid (∀ (W : World) (b1 o1 : Nat), a = some ⟨b1, o1, none⟩ → HsAt W (.slice a L.length c) L → HsAt W (.slice (if c = m then some ⟨b1, o1, none⟩ else some ⟨b1, o1 + m * 32, none⟩) (L.length - m) (c - m)) (L.drop m)) := fun W b1 o1 e hW => by
    subst e
    exact hW.rest m (by omega) hc
  have HRn : Hid (∀ (W : World), a = none → HsAt W (.slice none (L.length - m) (c - m)) (L.drop m)) := fun W e => by
    subst e
    have hL0 : L = [] := by
      cases L with
      | nil => rfl
      | cons z k => obtain ⟨_, b, o, e, _⟩ := hL.cells.2 0 z rfl; cases e
    subst hL0
    exact ⟨none, c - m, by simp, fun i x hi => by simp at hi⟩
  have hone := hv_one (abL nodeL (L.drop m) h)
  have hhs : (hv h).size = 32 := by rw [hv_size, hh]
  have hUs : (hv (abL nodeL (L.drop m) h)).size = 32 := by rw [hv_size, hu32]
  have ic : Hid ((Tryd.prog.info? 30).map (·.size) = some (hv h).toList.length) := by show _ = _; rw [info_h32, Array.length_toList, hhs]
  have HMk : Hid (∀ W : World, HsAt (W.alloc (.cells (hv (abL nodeL (L.drop m) h)) 30)) (.slice (some ⟨W.heap.size, 0, none⟩) 1 1) [abL nodeL (L.drop m) h]) := fun W => hs_made rfl hu32
  have hwm : wrap64 ((L.length : Int) - (t : Int)) = (m : Int) := by unfold wrap64; omega
  have HWm : Hid (wrap64 (m : Int) = (m : Int)) := by show _ = _; unfold wrap64; omega
  have HB1 : Hid (But b w w1) := But.of_below bw1
  have HX1 : Hid (But b w1 w1) := But.refl b w1
  have hb1' : Hid (w1.heap[b]? = some (.cells (frC (.slice a L.length c) n) 55 (0, 0))) := hb1
  have hmL : (m : Int) ≤ (L.length : Int) := by omega
  have hmc : (m : Int) ≤ (c : Int) := by omega
  have hLc : (L.length : Int) ≤ (c : Int) := by omega
  have hm0 : (0 : Int) ≤ (m : Int) := by omega
  have hLm : L.length - m = t := by omega
  have hmn : m ≤ L.length := by omega
  have hmc2 : m ≤ c := by omega
  have hsb : w.heap.size ≤ w1.heap.size := by omega
  clear hb hL hT hL1 hT1 g1 bw1 hh hpl hb1 ht hlen hs1 hu32 hm hLm
  rw [hplen]
  generalize L.length = q at *
  generalize hU : hv (abL nodeL (L.drop m) h) = U at *
  generalize hX : hv h = X at *
  have hbld := build_hash U hUs
  rw [zero_h32] at hbld
  cases a with
  | none =>
    go_enter Tryd.func28, Tryd.ntmps28
    go_upto_region 2 with fail
    have hp : ∃ p, w.heap.size = p := ⟨_, rfl⟩
    obtain ⟨p, hp⟩ := hp
    rw [hp] at HS hsb ⊢
    refine wp_region_held (S := But b w1) (by kernel_rfl) ?_
    change wpAnyH _ _ _ _ _ _ _ _ (World.drew _)
    have HX : But b w1 w1.drew := HX1.out.drew
    have hbx : w1.drew.heap[b]? = some (Obj.cells _ 55 (0, 0)) := hb1'.out
    clear HX1 hb1' hw1 c0
    generalize World.drew _ = x0 at *
    refine wpAnyH_take (i := 0) (v := .pointer (some ⟨b, 0, none⟩)) rfl (by kernel_rfl) (by kernel_rfl) (by kernel_rfl) (fun _ _ _ h => h) (Or.inl ⟨by rfl, by intro w9 _; go_simp⟩) HX ?_
    simp only [List.getElem_toArray, List.getElem_cons_succ, List.getElem_cons_zero, Act.put, List.setIfInBounds_toArray, List.set_cons_zero, List.set_cons_succ]
    refine wpAnyH_take (i := 1) (v := .pointer (some ⟨b, 0, none⟩)) rfl (by kernel_rfl) (by kernel_rfl) (by kernel_rfl) (fun _ _ _ h => h) (Or.inl ⟨by rfl, by intro w9 _; go_simp⟩) HX ?_
    simp only [List.getElem_toArray, List.getElem_cons_succ, List.getElem_cons_zero, Act.put, List.setIfInBounds_toArray, List.set_cons_zero, List.set_cons_succ]
    refine wpAnyH_take (i := 2) (v := .pointer (some ⟨b, 0, none⟩)) rfl (by kernel_rfl) (by kernel_rfl) (by kernel_rfl) (fun _ _ _ h => h) (Or.inl ⟨by rfl, by intro w9 _; go_simp⟩) HX ?_
    simp only [List.getElem_toArray, List.getElem_cons_succ, List.getElem_cons_zero, Act.put, List.setIfInBounds_toArray, List.set_cons_zero, List.set_cons_succ]
    refine wpAnyH_take (i := 3) (v := .pointer (some ⟨b, 0, none⟩)) rfl (by kernel_rfl) (by kernel_rfl) (by kernel_rfl) (fun _ _ _ h => h) (Or.inl ⟨by rfl, by intro w9 _; go_simp⟩) HX ?_
    simp only [List.getElem_toArray, List.getElem_cons_succ, List.getElem_cons_zero, Act.put, List.setIfInBounds_toArray, List.set_cons_zero, List.set_cons_succ]
    refine wpAnyH_take (i := 5) (v := .int .i64 (m : Int)) rfl (by kernel_rfl) (by kernel_rfl) (by kernel_rfl) (fun _ _ _ h => h) (Or.inl ⟨by rfl, by intro w9 _; go_simp⟩) HX ?_
    simp only [List.getElem_toArray, List.getElem_cons_succ, List.getElem_cons_zero, Act.put, List.setIfInBounds_toArray, List.set_cons_zero, List.set_cons_succ]
    refine wpAnyH_take (i := 7) (v := .pointer (some ⟨b, 0, none⟩)) rfl (by kernel_rfl) (by kernel_rfl) (by kernel_rfl) (fun _ _ _ h => h) (Or.inl ⟨by rfl, by intro w9 _; go_simp⟩) HX ?_
    simp only [List.getElem_toArray, List.getElem_cons_succ, List.getElem_cons_zero, Act.put, List.setIfInBounds_toArray, List.set_cons_zero, List.set_cons_succ]
    refine wpAnyH_take (i := 8) (v := .pointer (some ⟨b, 0, none⟩)) rfl (by kernel_rfl) (by kernel_rfl) (by kernel_rfl) (fun _ _ _ h => h) (Or.inl ⟨by rfl, by intro w9 _; go_simp⟩) HX ?_
    simp only [List.getElem_toArray, List.getElem_cons_succ, List.getElem_cons_zero, Act.put, List.setIfInBounds_toArray, List.set_cons_zero, List.set_cons_succ]
    refine wpAnyH_take (i := 9) (v := .pointer (some ⟨b, 0, none⟩)) rfl (by kernel_rfl) (by kernel_rfl) (by kernel_rfl) (fun _ _ _ h => h) (Or.inl ⟨by rfl, by intro w9 _; go_simp⟩) HX ?_
    simp only [List.getElem_toArray, List.getElem_cons_succ, List.getElem_cons_zero, Act.put, List.setIfInBounds_toArray, List.set_cons_zero, List.set_cons_succ]
    refine wpAnyH_take (i := 11) (v := .int .i64 (m : Int)) rfl (by kernel_rfl) (by kernel_rfl) (by kernel_rfl) (fun _ _ _ h => h) (Or.inl ⟨by rfl, by intro w9 _; go_simp⟩) HX ?_
    simp only [List.getElem_toArray, List.getElem_cons_succ, List.getElem_cons_zero, Act.put, List.setIfInBounds_toArray, List.set_cons_zero, List.set_cons_succ]
    refine wpAnyH_take (i := 13) (v := .agg X) rfl (by kernel_rfl) (by kernel_rfl) (by kernel_rfl) (fun _ _ _ h => h) (yieldsIf_load_mid (by rfl) 30 _ rfl p 0 rfl X.toList _ (fun w' h => (HS.out w' h).2.2) Tryd.underlying30 rfl ic.out) HX ?_
    simp only [List.getElem_toArray, List.getElem_cons_succ, List.getElem_cons_zero, Act.put, List.setIfInBounds_toArray, List.set_cons_zero, List.set_cons_succ]
    refine wpAnyH_ready (rs := [4, 10]) (by kernel_rfl) (by simp) (AllReadyH.cons (by simp only [List.getElem?_toArray, List.getElem?_cons_succ, List.getElem?_cons_zero]; rfl) (fun K hK => ?_) (AllReadyH.cons (by simp only [List.getElem?_toArray, List.getElem?_cons_succ, List.getElem?_cons_zero]; rfl) (fun K hK => ?_) AllReadyH.nil))
    · refine step_want (by rfl) ?_
      have c9 := (fcells hbx).1
      go_simp
      clear c9
      refine hK.out _ _ HX (fun _ => ?_)
      clear hK K
      try simp only [List.getElem_toArray, List.getElem_cons_succ, List.getElem_cons_zero, Act.put, List.setIfInBounds_toArray, List.set_cons_zero, List.set_cons_succ]
      refine wpAnyH_take (i := 6) (v := .slice none m c) rfl (by kernel_rfl) (by kernel_rfl) (by kernel_rfl) (fun _ _ _ h => h) (Or.inl ⟨by rfl, by intro w9 _; go_simp⟩) HX ?_
      simp only [List.getElem_toArray, List.getElem_cons_succ, List.getElem_cons_zero, Act.put, List.setIfInBounds_toArray, List.set_cons_zero, List.set_cons_succ]
      refine wpAnyH_ready (rs := [10]) (by kernel_rfl) (by simp) (AllReadyH.cons (by simp only [List.getElem?_toArray, List.getElem?_cons_succ, List.getElem?_cons_zero]; rfl) (fun K hK => ?_) AllReadyH.nil)
      refine step_want (by rfl) ?_
      have c9 := (fcells hbx).1
      go_simp
      clear c9
      refine hK.out _ _ HX (fun _ => ?_)
      clear hK K
      try simp only [List.getElem_toArray, List.getElem_cons_succ, List.getElem_cons_zero, Act.put, List.setIfInBounds_toArray, List.set_cons_zero, List.set_cons_succ]
      refine wpAnyH_take (i := 12) (v := .slice none (q - m) (c - m)) rfl (by kernel_rfl) (by kernel_rfl) (by kernel_rfl) (fun _ _ _ h => h) (Or.inl ⟨by rfl, by intro w9 _; go_simp⟩) HX ?_
      simp only [List.getElem_toArray, List.getElem_cons_succ, List.getElem_cons_zero, Act.put, List.setIfInBounds_toArray, List.set_cons_zero, List.set_cons_succ]
      refine wpAnyH_ready (rs := [14]) (by kernel_rfl) (by simp) (AllReadyH.cons (by simp only [List.getElem?_toArray, List.getElem?_cons_succ, List.getElem?_cons_zero]; rfl) (fun K hK => ?_) AllReadyH.nil)
      refine step_want (by rfl) ?_
      go_simp
      refine (HAb.out _ x0 (HRn.out x0 rfl) (HS.out _ HX).2.1).mono ?_
      rintro e x1 ⟨rfl, bc⟩
      have HX : But b w1 x1 := HX.trans (But.of_below bc)
      have hbx := (bc.block _ (Array.getElem?_eq_some_iff.1 hbx).1).trans hbx
      clear bc
      refine hK.out _ _ HX (fun _ => ?_)
      clear hK K
      try simp only [List.getElem_toArray, List.getElem_cons_succ, List.getElem_cons_zero, Act.put, List.setIfInBounds_toArray, List.set_cons_zero, List.set_cons_succ]
      refine wpAnyH_ready (rs := [15]) (by kernel_rfl) (by simp) (AllReadyH.cons (by simp only [List.getElem?_toArray, List.getElem?_cons_succ, List.getElem?_cons_zero]; rfl) (fun K hK => ?_) AllReadyH.nil)
      refine step_want (by rfl) ?_
      go_simp
      have hN := HMk.out x1
      obtain ⟨x2, hw⟩ : ∃ x2, x1.alloc (.cells U 30) = x2 := ⟨_, rfl⟩
      have bc : Below x1.heap.size x1 x2 := by rw [← hw]; exact (Below.refl _ _).alloc (Nat.le_refl _) _
      obtain ⟨e2, he0⟩ : ∃ e2, x1.heap.size = e2 := ⟨_, rfl⟩
      rw [hw, he0] at hN
      rw [hw, he0]
      have HX : But b w1 x2 := HX.trans (But.of_below bc)
      have hbx := (bc.block _ (Array.getElem?_eq_some_iff.1 hbx).1).trans hbx
      clear bc hw he0
      refine hK.out _ _ HX (fun _ => ?_)
      clear hK K
      try simp only [List.getElem_toArray, List.getElem_cons_succ, List.getElem_cons_zero, Act.put, List.setIfInBounds_toArray, List.set_cons_zero, List.set_cons_succ]
      refine wpAnyH_ready (rs := [16]) (by kernel_rfl) (by simp) (AllReadyH.cons (by simp only [List.getElem?_toArray, List.getElem?_cons_succ, List.getElem?_cons_zero]; rfl) (fun K hK => ?_) AllReadyH.nil)
      refine step_want (by rfl) ?_
      go_simp
      obtain ⟨x3, hw⟩ : ∃ x3, x2.alloc (.cells #[.slice none m c, .slice (some ⟨e2, 0, none⟩) 1 1] 22) = x3 := ⟨_, rfl⟩
      have bc : Below x2.heap.size x2 x3 := by rw [← hw]; exact (Below.refl _ _).alloc (Nat.le_refl _) _
      have hgd := heap_alloc_last x2 (.cells #[.slice none m c, .slice (some ⟨e2, 0, none⟩) 1 1] 22)
      obtain ⟨e3, he0⟩ : ∃ e3, x2.heap.size = e3 := ⟨_, rfl⟩
      rw [hw, he0] at hgd
      rw [hw, he0]
      have HX : But b w1 x3 := HX.trans (But.of_below bc)
      have hbx := (bc.block _ (Array.getElem?_eq_some_iff.1 hbx).1).trans hbx
      have hN := hN.below bc
      clear bc hw he0
      refine hK.out _ _ HX (fun _ => ?_)
      clear hK K
      try simp only [List.getElem_toArray, List.getElem_cons_succ, List.getElem_cons_zero, Act.put, List.setIfInBounds_toArray, List.set_cons_zero, List.set_cons_succ]
      refine wpAnyH_ready (rs := [17]) (by kernel_rfl) (by simp) (AllReadyH.cons (by simp only [List.getElem?_toArray, List.getElem?_cons_succ, List.getElem?_cons_zero]; rfl) (fun K hK => ?_) AllReadyH.nil)
      refine step_want (by rfl) ?_
      go_simp
      refine (HCo.out x3 e3 (some ⟨e2, 0, none⟩) 1 (by rw [cell_of_row _ _ _ _ _ _ hgd]; rfl) (by rw [cell_of_row _ _ _ _ _ _ hgd]; rfl) (HTk.out _ (HS.out _ HX).1) hN).mono ?_
      rintro e x4 ⟨xa, xc, rfl, hM⟩
      have hsx : p ≤ x3.heap.size := Nat.le_trans hsb HX.size
      have bc := hM.below
      have HX : But b w1 x4 := HX.trans (But.of_below bc)
      have hbx := (bc.block _ (Array.getElem?_eq_some_iff.1 hbx).1).trans hbx
      clear bc hN hgd
      refine hK.out _ _ HX (fun _ => ?_)
      clear hK K
      try simp only [List.getElem_toArray, List.getElem_cons_succ, List.getElem_cons_zero, Act.put, List.setIfInBounds_toArray, List.set_cons_zero, List.set_cons_succ]
      refine wpAnyH_take (i := 18) (v := .pointer (some ⟨b, 0, none⟩)) rfl (by kernel_rfl) (by kernel_rfl) (by kernel_rfl) (fun _ _ _ h => h) (Or.inl ⟨by rfl, by intro w9 _; go_simp⟩) HX ?_
      simp only [List.getElem_toArray, List.getElem_cons_succ, List.getElem_cons_zero, Act.put, List.setIfInBounds_toArray, List.set_cons_zero, List.set_cons_succ]
      refine wpAnyH_take (i := 19) (v := .pointer (some ⟨b, 0, none⟩)) rfl (by kernel_rfl) (by kernel_rfl) (by kernel_rfl) (fun _ _ _ h => h) (Or.inl ⟨by rfl, by intro w9 _; go_simp⟩) HX ?_
      simp only [List.getElem_toArray, List.getElem_cons_succ, List.getElem_cons_zero, Act.put, List.setIfInBounds_toArray, List.set_cons_zero, List.set_cons_succ]
      refine wpAnyH_ready (rs := [20]) (by kernel_rfl) (by simp) (AllReadyH.cons (by simp only [List.getElem?_toArray, List.getElem?_cons_succ, List.getElem?_cons_zero]; rfl) (fun K hK => ?_) AllReadyH.nil)
      refine step_want (by rfl) ?_
      have c9 := (fcells hbx).1
      have f9 : x4.frozen? ⟨b, 0, none⟩ = false := by rw [World.frozen?, hbx]; rfl
      have hQ := hM.at_
      have hOw := hM.own
      obtain ⟨a', c', hsl, hxc⟩ := hM.slice
      rw [hplen] at hsl hxc
      obtain ⟨rfl, -, rfl⟩ := Value.slice.inj hsl
      have HX : But b w1 (x4.setCell ⟨b, 0, none⟩ (.slice xa (m + 1) xc)) := HX.setCell _
      have hby := heap_set_same (o := 0) (v := .slice xa (m + 1) xc) hbx
      have hQ : HsAt (x4.setCell ⟨b, 0, none⟩ (.slice xa (m + 1) xc)) (.slice xa (m + 1) xc) (puL nodeL t L h) := hQ.kept fun ad ha _ => by
        obtain ⟨g, o, e, hg⟩ := hOw ad ha
        subst e
        exact Below.heap_setCell _ _ _ _ (by simp only; omega)
      have hOw : OwnA p xa := fun ad ha => by
        obtain ⟨g, o, e, hg⟩ := hOw ad ha
        exact ⟨g, o, e, by omega⟩
      clear hM hsl hbx
      go_simp
      generalize x4.setCell ⟨b, 0, none⟩ (.slice xa (m + 1) xc) = x5 at *
      refine hK.out _ _ HX (fun _ => ?_)
      clear hK K
      try simp only [List.getElem_toArray, List.getElem_cons_succ, List.getElem_cons_zero, Act.put, List.setIfInBounds_toArray, List.set_cons_zero, List.set_cons_succ]
      refine wpAnyH_done (by kernel_rfl) ?_ _
      have HF : Hid (But b w x5) := HB1.out.trans HX
      have HQ : Hid (∃ a' c', x5.heap[b]? = some (.cells (frC (.slice a' (m + 1) c') n) 55 (0, 0)) ∧ HsAt x5 (.slice a' (m + 1) c') (puL nodeL t L h) ∧ m + 1 ≤ c' ∧ OwnA p a') := ⟨xa, xc, hby, hQ, hxc, hOw⟩
      clear HX hby hQ hOw
      go_wp2
      all_goals (go_end0; exact ⟨⟨_, rfl⟩, HQ.out, HF.out⟩)
    · refine step_want (by rfl) ?_
      have c9 := (fcells hbx).1
      go_simp
      clear c9
      refine hK.out _ _ HX (fun _ => ?_)
      clear hK K
      try simp only [List.getElem_toArray, List.getElem_cons_succ, List.getElem_cons_zero, Act.put, List.setIfInBounds_toArray, List.set_cons_zero, List.set_cons_succ]
      refine wpAnyH_take (i := 12) (v := .slice none (q - m) (c - m)) rfl (by kernel_rfl) (by kernel_rfl) (by kernel_rfl) (fun _ _ _ h => h) (Or.inl ⟨by rfl, by intro w9 _; go_simp⟩) HX ?_
      simp only [List.getElem_toArray, List.getElem_cons_succ, List.getElem_cons_zero, Act.put, List.setIfInBounds_toArray, List.set_cons_zero, List.set_cons_succ]
      refine wpAnyH_ready (rs := [4, 14]) (by kernel_rfl) (by simp) (AllReadyH.cons (by simp only [List.getElem?_toArray, List.getElem?_cons_succ, List.getElem?_cons_zero]; rfl) (fun K hK => ?_) (AllReadyH.cons (by simp only [List.getElem?_toArray, List.getElem?_cons_succ, List.getElem?_cons_zero]; rfl) (fun K hK => ?_) AllReadyH.nil))
      · refine step_want (by rfl) ?_
        have c9 := (fcells hbx).1
        go_simp
        clear c9
        refine hK.out _ _ HX (fun _ => ?_)
        clear hK K
        try simp only [List.getElem_toArray, List.getElem_cons_succ, List.getElem_cons_zero, Act.put, List.setIfInBounds_toArray, List.set_cons_zero, List.set_cons_succ]
        refine wpAnyH_take (i := 6) (v := .slice none m c) rfl (by kernel_rfl) (by kernel_rfl) (by kernel_rfl) (fun _ _ _ h => h) (Or.inl ⟨by rfl, by intro w9 _; go_simp⟩) HX ?_
        simp only [List.getElem_toArray, List.getElem_cons_succ, List.getElem_cons_zero, Act.put, List.setIfInBounds_toArray, List.set_cons_zero, List.set_cons_succ]
        refine wpAnyH_ready (rs := [14]) (by kernel_rfl) (by simp) (AllReadyH.cons (by simp only [List.getElem?_toArray, List.getElem?_cons_succ, List.getElem?_cons_zero]; rfl) (fun K hK => ?_) AllReadyH.nil)
        refine step_want (by rfl) ?_
        go_simp
        refine (HAb.out _ x0 (HRn.out x0 rfl) (HS.out _ HX).2.1).mono ?_
        rintro e x1 ⟨rfl, bc⟩
        have HX : But b w1 x1 := HX.trans (But.of_below bc)
        have hbx := (bc.block _ (Array.getElem?_eq_some_iff.1 hbx).1).trans hbx
        clear bc
        refine hK.out _ _ HX (fun _ => ?_)
        clear hK K
        try simp only [List.getElem_toArray, List.getElem_cons_succ, List.getElem_cons_zero, Act.put, List.setIfInBounds_toArray, List.set_cons_zero, List.set_cons_succ]
        refine wpAnyH_ready (rs := [15]) (by kernel_rfl) (by simp) (AllReadyH.cons (by simp only [List.getElem?_toArray, List.getElem?_cons_succ, List.getElem?_cons_zero]; rfl) (fun K hK => ?_) AllReadyH.nil)
        refine step_want (by rfl) ?_
        go_simp
        have hN := HMk.out x1
        obtain ⟨x2, hw⟩ : ∃ x2, x1.alloc (.cells U 30) = x2 := ⟨_, rfl⟩
        have bc : Below x1.heap.size x1 x2 := by rw [← hw]; exact (Below.refl _ _).alloc (Nat.le_refl _) _
        obtain ⟨e2, he0⟩ : ∃ e2, x1.heap.size = e2 := ⟨_, rfl⟩
        rw [hw, he0] at hN
        rw [hw, he0]
        have HX : But b w1 x2 := HX.trans (But.of_below bc)
        have hbx := (bc.block _ (Array.getElem?_eq_some_iff.1 hbx).1).trans hbx
        clear bc hw he0
        refine hK.out _ _ HX (fun _ => ?_)
        clear hK K
        try simp only [List.getElem_toArray, List.getElem_cons_succ, List.getElem_cons_zero, Act.put, List.setIfInBounds_toArray, List.set_cons_zero, List.set_cons_succ]
        refine wpAnyH_ready (rs := [16]) (by kernel_rfl) (by simp) (AllReadyH.cons (by simp only [List.getElem?_toArray, List.getElem?_cons_succ, List.getElem?_cons_zero]; rfl) (fun K hK => ?_) AllReadyH.nil)
        refine step_want (by rfl) ?_
        go_simp
        obtain ⟨x3, hw⟩ : ∃ x3, x2.alloc (.cells #[.slice none m c, .slice (some ⟨e2, 0, none⟩) 1 1] 22) = x3 := ⟨_, rfl⟩
        have bc : Below x2.heap.size x2 x3 := by rw [← hw]; exact (Below.refl _ _).alloc (Nat.le_refl _) _
        have hgd := heap_alloc_last x2 (.cells #[.slice none m c, .slice (some ⟨e2, 0, none⟩) 1 1] 22)
        obtain ⟨e3, he0⟩ : ∃ e3, x2.heap.size = e3 := ⟨_, rfl⟩
        rw [hw, he0] at hgd
        rw [hw, he0]
        have HX : But b w1 x3 := HX.trans (But.of_below bc)
        have hbx := (bc.block _ (Array.getElem?_eq_some_iff.1 hbx).1).trans hbx
        have hN := hN.below bc
        clear bc hw he0
        refine hK.out _ _ HX (fun _ => ?_)
        clear hK K
        try simp only [List.getElem_toArray, List.getElem_cons_succ, List.getElem_cons_zero, Act.put, List.setIfInBounds_toArray, List.set_cons_zero, List.set_cons_succ]
        refine wpAnyH_ready (rs := [17]) (by kernel_rfl) (by simp) (AllReadyH.cons (by simp only [List.getElem?_toArray, List.getElem?_cons_succ, List.getElem?_cons_zero]; rfl) (fun K hK => ?_) AllReadyH.nil)
        refine step_want (by rfl) ?_
        go_simp
        refine (HCo.out x3 e3 (some ⟨e2, 0, none⟩) 1 (by rw [cell_of_row _ _ _ _ _ _ hgd]; rfl) (by rw [cell_of_row _ _ _ _ _ _ hgd]; rfl) (HTk.out _ (HS.out _ HX).1) hN).mono ?_
        rintro e x4 ⟨xa, xc, rfl, hM⟩
        have hsx : p ≤ x3.heap.size := Nat.le_trans hsb HX.size
        have bc := hM.below
        have HX : But b w1 x4 := HX.trans (But.of_below bc)
        have hbx := (bc.block _ (Array.getElem?_eq_some_iff.1 hbx).1).trans hbx
        clear bc hN hgd
        refine hK.out _ _ HX (fun _ => ?_)
        clear hK K
        try simp only [List.getElem_toArray, List.getElem_cons_succ, List.getElem_cons_zero, Act.put, List.setIfInBounds_toArray, List.set_cons_zero, List.set_cons_succ]
        refine wpAnyH_take (i := 18) (v := .pointer (some ⟨b, 0, none⟩)) rfl (by kernel_rfl) (by kernel_rfl) (by kernel_rfl) (fun _ _ _ h => h) (Or.inl ⟨by rfl, by intro w9 _; go_simp⟩) HX ?_
        simp only [List.getElem_toArray, List.getElem_cons_succ, List.getElem_cons_zero, Act.put, List.setIfInBounds_toArray, List.set_cons_zero, List.set_cons_succ]
        refine wpAnyH_take (i := 19) (v := .pointer (some ⟨b, 0, none⟩)) rfl (by kernel_rfl) (by kernel_rfl) (by kernel_rfl) (fun _ _ _ h => h) (Or.inl ⟨by rfl, by intro w9 _; go_simp⟩) HX ?_
        simp only [List.getElem_toArray, List.getElem_cons_succ, List.getElem_cons_zero, Act.put, List.setIfInBounds_toArray, List.set_cons_zero, List.set_cons_succ]
        refine wpAnyH_ready (rs := [20]) (by kernel_rfl) (by simp) (AllReadyH.cons (by simp only [List.getElem?_toArray, List.getElem?_cons_succ, List.getElem?_cons_zero]; rfl) (fun K hK => ?_) AllReadyH.nil)
        refine step_want (by rfl) ?_
        have c9 := (fcells hbx).1
        have f9 : x4.frozen? ⟨b, 0, none⟩ = false := by rw [World.frozen?, hbx]; rfl
        have hQ := hM.at_
        have hOw := hM.own
        obtain ⟨a', c', hsl, hxc⟩ := hM.slice
        rw [hplen] at hsl hxc
        obtain ⟨rfl, -, rfl⟩ := Value.slice.inj hsl
        have HX : But b w1 (x4.setCell ⟨b, 0, none⟩ (.slice xa (m + 1) xc)) := HX.setCell _
        have hby := heap_set_same (o := 0) (v := .slice xa (m + 1) xc) hbx
        have hQ : HsAt (x4.setCell ⟨b, 0, none⟩ (.slice xa (m + 1) xc)) (.slice xa (m + 1) xc) (puL nodeL t L h) := hQ.kept fun ad ha _ => by
          obtain ⟨g, o, e, hg⟩ := hOw ad ha
          subst e
          exact Below.heap_setCell _ _ _ _ (by simp only; omega)
        have hOw : OwnA p xa := fun ad ha => by
          obtain ⟨g, o, e, hg⟩ := hOw ad ha
          exact ⟨g, o, e, by omega⟩
        clear hM hsl hbx
        go_simp
        generalize x4.setCell ⟨b, 0, none⟩ (.slice xa (m + 1) xc) = x5 at *
        refine hK.out _ _ HX (fun _ => ?_)
        clear hK K
        try simp only [List.getElem_toArray, List.getElem_cons_succ, List.getElem_cons_zero, Act.put, List.setIfInBounds_toArray, List.set_cons_zero, List.set_cons_succ]
        refine wpAnyH_done (by kernel_rfl) ?_ _
        have HF : Hid (But b w x5) := HB1.out.trans HX
        have HQ : Hid (∃ a' c', x5.heap[b]? = some (.cells (frC (.slice a' (m + 1) c') n) 55 (0, 0)) ∧ HsAt x5 (.slice a' (m + 1) c') (puL nodeL t L h) ∧ m + 1 ≤ c' ∧ OwnA p a') := ⟨xa, xc, hby, hQ, hxc, hOw⟩
        clear HX hby hQ hOw
        go_wp2
        all_goals (go_end0; exact ⟨⟨_, rfl⟩, HQ.out, HF.out⟩)
      · refine step_want (by rfl) ?_
        go_simp
        refine (HAb.out _ x0 (HRn.out x0 rfl) (HS.out _ HX).2.1).mono ?_
        rintro e x1 ⟨rfl, bc⟩
        have HX : But b w1 x1 := HX.trans (But.of_below bc)
        have hbx := (bc.block _ (Array.getElem?_eq_some_iff.1 hbx).1).trans hbx
        clear bc
        refine hK.out _ _ HX (fun _ => ?_)
        clear hK K
        try simp only [List.getElem_toArray, List.getElem_cons_succ, List.getElem_cons_zero, Act.put, List.setIfInBounds_toArray, List.set_cons_zero, List.set_cons_succ]
        refine wpAnyH_ready (rs := [4, 15]) (by kernel_rfl) (by simp) (AllReadyH.cons (by simp only [List.getElem?_toArray, List.getElem?_cons_succ, List.getElem?_cons_zero]; rfl) (fun K hK => ?_) (AllReadyH.cons (by simp only [List.getElem?_toArray, List.getElem?_cons_succ, List.getElem?_cons_zero]; rfl) (fun K hK => ?_) AllReadyH.nil))
        · refine step_want (by rfl) ?_
          have c9 := (fcells hbx).1
          go_simp
          clear c9
          refine hK.out _ _ HX (fun _ => ?_)
          clear hK K
          try simp only [List.getElem_toArray, List.getElem_cons_succ, List.getElem_cons_zero, Act.put, List.setIfInBounds_toArray, List.set_cons_zero, List.set_cons_succ]
          refine wpAnyH_take (i := 6) (v := .slice none m c) rfl (by kernel_rfl) (by kernel_rfl) (by kernel_rfl) (fun _ _ _ h => h) (Or.inl ⟨by rfl, by intro w9 _; go_simp⟩) HX ?_
          simp only [List.getElem_toArray, List.getElem_cons_succ, List.getElem_cons_zero, Act.put, List.setIfInBounds_toArray, List.set_cons_zero, List.set_cons_succ]
          refine wpAnyH_ready (rs := [15]) (by kernel_rfl) (by simp) (AllReadyH.cons (by simp only [List.getElem?_toArray, List.getElem?_cons_succ, List.getElem?_cons_zero]; rfl) (fun K hK => ?_) AllReadyH.nil)
          refine step_want (by rfl) ?_
          go_simp
          have hN := HMk.out x1
          obtain ⟨x2, hw⟩ : ∃ x2, x1.alloc (.cells U 30) = x2 := ⟨_, rfl⟩
          have bc : Below x1.heap.size x1 x2 := by rw [← hw]; exact (Below.refl _ _).alloc (Nat.le_refl _) _
          obtain ⟨e2, he0⟩ : ∃ e2, x1.heap.size = e2 := ⟨_, rfl⟩
          rw [hw, he0] at hN
          rw [hw, he0]
          have HX : But b w1 x2 := HX.trans (But.of_below bc)
          have hbx := (bc.block _ (Array.getElem?_eq_some_iff.1 hbx).1).trans hbx
          clear bc hw he0
          refine hK.out _ _ HX (fun _ => ?_)
          clear hK K
          try simp only [List.getElem_toArray, List.getElem_cons_succ, List.getElem_cons_zero, Act.put, List.setIfInBounds_toArray, List.set_cons_zero, List.set_cons_succ]
          refine wpAnyH_ready (rs := [16]) (by kernel_rfl) (by simp) (AllReadyH.cons (by simp only [List.getElem?_toArray, List.getElem?_cons_succ, List.getElem?_cons_zero]; rfl) (fun K hK => ?_) AllReadyH.nil)
          refine step_want (by rfl) ?_
          go_simp
          obtain ⟨x3, hw⟩ : ∃ x3, x2.alloc (.cells #[.slice none m c, .slice (some ⟨e2, 0, none⟩) 1 1] 22) = x3 := ⟨_, rfl⟩
          have bc : Below x2.heap.size x2 x3 := by rw [← hw]; exact (Below.refl _ _).alloc (Nat.le_refl _) _
          have hgd := heap_alloc_last x2 (.cells #[.slice none m c, .slice (some ⟨e2, 0, none⟩) 1 1] 22)
          obtain ⟨e3, he0⟩ : ∃ e3, x2.heap.size = e3 := ⟨_, rfl⟩
          rw [hw, he0] at hgd
          rw [hw, he0]
          have HX : But b w1 x3 := HX.trans (But.of_below bc)
          have hbx := (bc.block _ (Array.getElem?_eq_some_iff.1 hbx).1).trans hbx
          have hN := hN.below bc
          clear bc hw he0
          refine hK.out _ _ HX (fun _ => ?_)
          clear hK K
          try simp only [List.getElem_toArray, List.getElem_cons_succ, List.getElem_cons_zero, Act.put, List.setIfInBounds_toArray, List.set_cons_zero, List.set_cons_succ]
          refine wpAnyH_ready (rs := [17]) (by kernel_rfl) (by simp) (AllReadyH.cons (by simp only [List.getElem?_toArray, List.getElem?_cons_succ, List.getElem?_cons_zero]; rfl) (fun K hK => ?_) AllReadyH.nil)
          refine step_want (by rfl) ?_
          go_simp
          refine (HCo.out x3 e3 (some ⟨e2, 0, none⟩) 1 (by rw [cell_of_row _ _ _ _ _ _ hgd]; rfl) (by rw [cell_of_row _ _ _ _ _ _ hgd]; rfl) (HTk.out _ (HS.out _ HX).1) hN).mono ?_
          rintro e x4 ⟨xa, xc, rfl, hM⟩
          have hsx : p ≤ x3.heap.size := Nat.le_trans hsb HX.size
          have bc := hM.below
          have HX : But b w1 x4 := HX.trans (But.of_below bc)
          have hbx := (bc.block _ (Array.getElem?_eq_some_iff.1 hbx).1).trans hbx
          clear bc hN hgd
          refine hK.out _ _ HX (fun _ => ?_)
          clear hK K
          try simp only [List.getElem_toArray, List.getElem_cons_succ, List.getElem_cons_zero, Act.put, List.setIfInBounds_toArray, List.set_cons_zero, List.set_cons_succ]
          refine wpAnyH_take (i := 18) (v := .pointer (some ⟨b, 0, none⟩)) rfl (by kernel_rfl) (by kernel_rfl) (by kernel_rfl) (fun _ _ _ h => h) (Or.inl ⟨by rfl, by intro w9 _; go_simp⟩) HX ?_
          simp only [List.getElem_toArray, List.getElem_cons_succ, List.getElem_cons_zero, Act.put, List.setIfInBounds_toArray, List.set_cons_zero, List.set_cons_succ]
          refine wpAnyH_take (i := 19) (v := .pointer (some ⟨b, 0, none⟩)) rfl (by kernel_rfl) (by kernel_rfl) (by kernel_rfl) (fun _ _ _ h => h) (Or.inl ⟨by rfl, by intro w9 _; go_simp⟩) HX ?_
          simp only [List.getElem_toArray, List.getElem_cons_succ, List.getElem_cons_zero, Act.put, List.setIfInBounds_toArray, List.set_cons_zero, List.set_cons_succ]
          refine wpAnyH_ready (rs := [20]) (by kernel_rfl) (by simp) (AllReadyH.cons (by simp only [List.getElem?_toArray, List.getElem?_cons_succ, List.getElem?_cons_zero]; rfl) (fun K hK => ?_) AllReadyH.nil)
          refine step_want (by rfl) ?_
          have c9 := (fcells hbx).1
          have f9 : x4.frozen? ⟨b, 0, none⟩ = false := by rw [World.frozen?, hbx]; rfl
          have hQ := hM.at_
          have hOw := hM.own
          obtain ⟨a', c', hsl, hxc⟩ := hM.slice
          rw [hplen] at hsl hxc
          obtain ⟨rfl, -, rfl⟩ := Value.slice.inj hsl
          have HX : But b w1 (x4.setCell ⟨b, 0, none⟩ (.slice xa (m + 1) xc)) := HX.setCell _
          have hby := heap_set_same (o := 0) (v := .slice xa (m + 1) xc) hbx
          have hQ : HsAt (x4.setCell ⟨b, 0, none⟩ (.slice xa (m + 1) xc)) (.slice xa (m + 1) xc) (puL nodeL t L h) := hQ.kept fun ad ha _ => by
            obtain ⟨g, o, e, hg⟩ := hOw ad ha
            subst e
            exact Below.heap_setCell _ _ _ _ (by simp only; omega)
          have hOw : OwnA p xa := fun ad ha => by
            obtain ⟨g, o, e, hg⟩ := hOw ad ha
            exact ⟨g, o, e, by omega⟩
          clear hM hsl hbx
          go_simp
          generalize x4.setCell ⟨b, 0, none⟩ (.slice xa (m + 1) xc) = x5 at *
          refine hK.out _ _ HX (fun _ => ?_)
          clear hK K
          try simp only [List.getElem_toArray, List.getElem_cons_succ, List.getElem_cons_zero, Act.put, List.setIfInBounds_toArray, List.set_cons_zero, List.set_cons_succ]
          refine wpAnyH_done (by kernel_rfl) ?_ _
          have HF : Hid (But b w x5) := HB1.out.trans HX
          have HQ : Hid (∃ a' c', x5.heap[b]? = some (.cells (frC (.slice a' (m + 1) c') n) 55 (0, 0)) ∧ HsAt x5 (.slice a' (m + 1) c') (puL nodeL t L h) ∧ m + 1 ≤ c' ∧ OwnA p a') := ⟨xa, xc, hby, hQ, hxc, hOw⟩
          clear HX hby hQ hOw
          go_wp2
          all_goals (go_end0; exact ⟨⟨_, rfl⟩, HQ.out, HF.out⟩)
        · refine step_want (by rfl) ?_
          go_simp
          have hN := HMk.out x1
          obtain ⟨x2, hw⟩ : ∃ x2, x1.alloc (.cells U 30) = x2 := ⟨_, rfl⟩
          have bc : Below x1.heap.size x1 x2 := by rw [← hw]; exact (Below.refl _ _).alloc (Nat.le_refl _) _
          obtain ⟨e2, he0⟩ : ∃ e2, x1.heap.size = e2 := ⟨_, rfl⟩
          rw [hw, he0] at hN
          rw [hw, he0]
          have HX : But b w1 x2 := HX.trans (But.of_below bc)
          have hbx := (bc.block _ (Array.getElem?_eq_some_iff.1 hbx).1).trans hbx
          clear bc hw he0
          refine hK.out _ _ HX (fun _ => ?_)
          clear hK K
          try simp only [List.getElem_toArray, List.getElem_cons_succ, List.getElem_cons_zero, Act.put, List.setIfInBounds_toArray, List.set_cons_zero, List.set_cons_succ]
          refine wpAnyH_ready (rs := [4]) (by kernel_rfl) (by simp) (AllReadyH.cons (by simp only [List.getElem?_toArray, List.getElem?_cons_succ, List.getElem?_cons_zero]; rfl) (fun K hK => ?_) AllReadyH.nil)
          refine step_want (by rfl) ?_
          have c9 := (fcells hbx).1
          go_simp
          clear c9
          refine hK.out _ _ HX (fun _ => ?_)
          clear hK K
          try simp only [List.getElem_toArray, List.getElem_cons_succ, List.getElem_cons_zero, Act.put, List.setIfInBounds_toArray, List.set_cons_zero, List.set_cons_succ]
          refine wpAnyH_take (i := 6) (v := .slice none m c) rfl (by kernel_rfl) (by kernel_rfl) (by kernel_rfl) (fun _ _ _ h => h) (Or.inl ⟨by rfl, by intro w9 _; go_simp⟩) HX ?_
          simp only [List.getElem_toArray, List.getElem_cons_succ, List.getElem_cons_zero, Act.put, List.setIfInBounds_toArray, List.set_cons_zero, List.set_cons_succ]
          refine wpAnyH_ready (rs := [16]) (by kernel_rfl) (by simp) (AllReadyH.cons (by simp only [List.getElem?_toArray, List.getElem?_cons_succ, List.getElem?_cons_zero]; rfl) (fun K hK => ?_) AllReadyH.nil)
          refine step_want (by rfl) ?_
          go_simp
          obtain ⟨x3, hw⟩ : ∃ x3, x2.alloc (.cells #[.slice none m c, .slice (some ⟨e2, 0, none⟩) 1 1] 22) = x3 := ⟨_, rfl⟩
          have bc : Below x2.heap.size x2 x3 := by rw [← hw]; exact (Below.refl _ _).alloc (Nat.le_refl _) _
          have hgd := heap_alloc_last x2 (.cells #[.slice none m c, .slice (some ⟨e2, 0, none⟩) 1 1] 22)
          obtain ⟨e3, he0⟩ : ∃ e3, x2.heap.size = e3 := ⟨_, rfl⟩
          rw [hw, he0] at hgd
          rw [hw, he0]
          have HX : But b w1 x3 := HX.trans (But.of_below bc)
          have hbx := (bc.block _ (Array.getElem?_eq_some_iff.1 hbx).1).trans hbx
          have hN := hN.below bc
          clear bc hw he0
          refine hK.out _ _ HX (fun _ => ?_)
          clear hK K
          try simp only [List.getElem_toArray, List.getElem_cons_succ, List.getElem_cons_zero, Act.put, List.setIfInBounds_toArray, List.set_cons_zero, List.set_cons_succ]
          refine wpAnyH_ready (rs := [17]) (by kernel_rfl) (by simp) (AllReadyH.cons (by simp only [List.getElem?_toArray, List.getElem?_cons_succ, List.getElem?_cons_zero]; rfl) (fun K hK => ?_) AllReadyH.nil)
          refine step_want (by rfl) ?_
          go_simp
          refine (HCo.out x3 e3 (some ⟨e2, 0, none⟩) 1 (by rw [cell_of_row _ _ _ _ _ _ hgd]; rfl) (by rw [cell_of_row _ _ _ _ _ _ hgd]; rfl) (HTk.out _ (HS.out _ HX).1) hN).mono ?_
          rintro e x4 ⟨xa, xc, rfl, hM⟩
          have hsx : p ≤ x3.heap.size := Nat.le_trans hsb HX.size
          have bc := hM.below
          have HX : But b w1 x4 := HX.trans (But.of_below bc)
          have hbx := (bc.block _ (Array.getElem?_eq_some_iff.1 hbx).1).trans hbx
          clear bc hN hgd
          refine hK.out _ _ HX (fun _ => ?_)
          clear hK K
          try simp only [List.getElem_toArray, List.getElem_cons_succ, List.getElem_cons_zero, Act.put, List.setIfInBounds_toArray, List.set_cons_zero, List.set_cons_succ]
          refine wpAnyH_take (i := 18) (v := .pointer (some ⟨b, 0, none⟩)) rfl (by kernel_rfl) (by kernel_rfl) (by kernel_rfl) (fun _ _ _ h => h) (Or.inl ⟨by rfl, by intro w9 _; go_simp⟩) HX ?_
          simp only [List.getElem_toArray, List.getElem_cons_succ, List.getElem_cons_zero, Act.put, List.setIfInBounds_toArray, List.set_cons_zero, List.set_cons_succ]
          refine wpAnyH_take (i := 19) (v := .pointer (some ⟨b, 0, none⟩)) rfl (by kernel_rfl) (by kernel_rfl) (by kernel_rfl) (fun _ _ _ h => h) (Or.inl ⟨by rfl, by intro w9 _; go_simp⟩) HX ?_
          simp only [List.getElem_toArray, List.getElem_cons_succ, List.getElem_cons_zero, Act.put, List.setIfInBounds_toArray, List.set_cons_zero, List.set_cons_succ]
          refine wpAnyH_ready (rs := [20]) (by kernel_rfl) (by simp) (AllReadyH.cons (by simp only [List.getElem?_toArray, List.getElem?_cons_succ, List.getElem?_cons_zero]; rfl) (fun K hK => ?_) AllReadyH.nil)
          refine step_want (by rfl) ?_
          have c9 := (fcells hbx).1
          have f9 : x4.frozen? ⟨b, 0, none⟩ = false := by rw [World.frozen?, hbx]; rfl
          have hQ := hM.at_
          have hOw := hM.own
          obtain ⟨a', c', hsl, hxc⟩ := hM.slice
          rw [hplen] at hsl hxc
          obtain ⟨rfl, -, rfl⟩ := Value.slice.inj hsl
          have HX : But b w1 (x4.setCell ⟨b, 0, none⟩ (.slice xa (m + 1) xc)) := HX.setCell _
          have hby := heap_set_same (o := 0) (v := .slice xa (m + 1) xc) hbx
          have hQ : HsAt (x4.setCell ⟨b, 0, none⟩ (.slice xa (m + 1) xc)) (.slice xa (m + 1) xc) (puL nodeL t L h) := hQ.kept fun ad ha _ => by
            obtain ⟨g, o, e, hg⟩ := hOw ad ha
            subst e
            exact Below.heap_setCell _ _ _ _ (by simp only; omega)
          have hOw : OwnA p xa := fun ad ha => by
            obtain ⟨g, o, e, hg⟩ := hOw ad ha
            exact ⟨g, o, e, by omega⟩
          clear hM hsl hbx
          go_simp
          generalize x4.setCell ⟨b, 0, none⟩ (.slice xa (m + 1) xc) = x5 at *
          refine hK.out _ _ HX (fun _ => ?_)
          clear hK K
          try simp only [List.getElem_toArray, List.getElem_cons_succ, List.getElem_cons_zero, Act.put, List.setIfInBounds_toArray, List.set_cons_zero, List.set_cons_succ]
          refine wpAnyH_done (by kernel_rfl) ?_ _
          have HF : Hid (But b w x5) := HB1.out.trans HX
          have HQ : Hid (∃ a' c', x5.heap[b]? = some (.cells (frC (.slice a' (m + 1) c') n) 55 (0, 0)) ∧ HsAt x5 (.slice a' (m + 1) c') (puL nodeL t L h) ∧ m + 1 ≤ c' ∧ OwnA p a') := ⟨xa, xc, hby, hQ, hxc, hOw⟩
          clear HX hby hQ hOw
          go_wp2
          all_goals (go_end0; exact ⟨⟨_, rfl⟩, HQ.out, HF.out⟩)
  | some ad =>
    obtain ⟨b1, o1, rfl⟩ := hown ad rfl
    go_enter Tryd.func28, Tryd.ntmps28
    go_upto_region 2 with fail
    have hp : ∃ p, w.heap.size = p := ⟨_, rfl⟩
    obtain ⟨p, hp⟩ := hp
    rw [hp] at HS hsb ⊢
    refine wp_region_held (S := But b w1) (by kernel_rfl) ?_
    change wpAnyH _ _ _ _ _ _ _ _ (World.drew _)
    have HX : But b w1 w1.drew := HX1.out.drew
    have hbx : w1.drew.heap[b]? = some (Obj.cells _ 55 (0, 0)) := hb1'.out
    clear HX1 hb1' hw1 c0
    generalize World.drew _ = x0 at *
    refine wpAnyH_take (i := 0) (v := .pointer (some ⟨b, 0, none⟩)) rfl (by kernel_rfl) (by kernel_rfl) (by kernel_rfl) (fun _ _ _ h => h) (Or.inl ⟨by rfl, by intro w9 _; go_simp⟩) HX ?_
    simp only [List.getElem_toArray, List.getElem_cons_succ, List.getElem_cons_zero, Act.put, List.setIfInBounds_toArray, List.set_cons_zero, List.set_cons_succ]
    refine wpAnyH_take (i := 1) (v := .pointer (some ⟨b, 0, none⟩)) rfl (by kernel_rfl) (by kernel_rfl) (by kernel_rfl) (fun _ _ _ h => h) (Or.inl ⟨by rfl, by intro w9 _; go_simp⟩) HX ?_
    simp only [List.getElem_toArray, List.getElem_cons_succ, List.getElem_cons_zero, Act.put, List.setIfInBounds_toArray, List.set_cons_zero, List.set_cons_succ]
    refine wpAnyH_take (i := 2) (v := .pointer (some ⟨b, 0, none⟩)) rfl (by kernel_rfl) (by kernel_rfl) (by kernel_rfl) (fun _ _ _ h => h) (Or.inl ⟨by rfl, by intro w9 _; go_simp⟩) HX ?_
    simp only [List.getElem_toArray, List.getElem_cons_succ, List.getElem_cons_zero, Act.put, List.setIfInBounds_toArray, List.set_cons_zero, List.set_cons_succ]
    refine wpAnyH_take (i := 3) (v := .pointer (some ⟨b, 0, none⟩)) rfl (by kernel_rfl) (by kernel_rfl) (by kernel_rfl) (fun _ _ _ h => h) (Or.inl ⟨by rfl, by intro w9 _; go_simp⟩) HX ?_
    simp only [List.getElem_toArray, List.getElem_cons_succ, List.getElem_cons_zero, Act.put, List.setIfInBounds_toArray, List.set_cons_zero, List.set_cons_succ]
    refine wpAnyH_take (i := 5) (v := .int .i64 (m : Int)) rfl (by kernel_rfl) (by kernel_rfl) (by kernel_rfl) (fun _ _ _ h => h) (Or.inl ⟨by rfl, by intro w9 _; go_simp⟩) HX ?_
    simp only [List.getElem_toArray, List.getElem_cons_succ, List.getElem_cons_zero, Act.put, List.setIfInBounds_toArray, List.set_cons_zero, List.set_cons_succ]
    refine wpAnyH_take (i := 7) (v := .pointer (some ⟨b, 0, none⟩)) rfl (by kernel_rfl) (by kernel_rfl) (by kernel_rfl) (fun _ _ _ h => h) (Or.inl ⟨by rfl, by intro w9 _; go_simp⟩) HX ?_
    simp only [List.getElem_toArray, List.getElem_cons_succ, List.getElem_cons_zero, Act.put, List.setIfInBounds_toArray, List.set_cons_zero, List.set_cons_succ]
    refine wpAnyH_take (i := 8) (v := .pointer (some ⟨b, 0, none⟩)) rfl (by kernel_rfl) (by kernel_rfl) (by kernel_rfl) (fun _ _ _ h => h) (Or.inl ⟨by rfl, by intro w9 _; go_simp⟩) HX ?_
    simp only [List.getElem_toArray, List.getElem_cons_succ, List.getElem_cons_zero, Act.put, List.setIfInBounds_toArray, List.set_cons_zero, List.set_cons_succ]
    refine wpAnyH_take (i := 9) (v := .pointer (some ⟨b, 0, none⟩)) rfl (by kernel_rfl) (by kernel_rfl) (by kernel_rfl) (fun _ _ _ h => h) (Or.inl ⟨by rfl, by intro w9 _; go_simp⟩) HX ?_
    simp only [List.getElem_toArray, List.getElem_cons_succ, List.getElem_cons_zero, Act.put, List.setIfInBounds_toArray, List.set_cons_zero, List.set_cons_succ]
    refine wpAnyH_take (i := 11) (v := .int .i64 (m : Int)) rfl (by kernel_rfl) (by kernel_rfl) (by kernel_rfl) (fun _ _ _ h => h) (Or.inl ⟨by rfl, by intro w9 _; go_simp⟩) HX ?_
    simp only [List.getElem_toArray, List.getElem_cons_succ, List.getElem_cons_zero, Act.put, List.setIfInBounds_toArray, List.set_cons_zero, List.set_cons_succ]
    refine wpAnyH_take (i := 13) (v := .agg X) rfl (by kernel_rfl) (by kernel_rfl) (by kernel_rfl) (fun _ _ _ h => h) (yieldsIf_load_mid (by rfl) 30 _ rfl p 0 rfl X.toList _ (fun w' h => (HS.out w' h).2.2) Tryd.underlying30 rfl ic.out) HX ?_
    simp only [List.getElem_toArray, List.getElem_cons_succ, List.getElem_cons_zero, Act.put, List.setIfInBounds_toArray, List.set_cons_zero, List.set_cons_succ]
    refine wpAnyH_ready (rs := [4, 10]) (by kernel_rfl) (by simp) (AllReadyH.cons (by simp only [List.getElem?_toArray, List.getElem?_cons_succ, List.getElem?_cons_zero]; rfl) (fun K hK => ?_) (AllReadyH.cons (by simp only [List.getElem?_toArray, List.getElem?_cons_succ, List.getElem?_cons_zero]; rfl) (fun K hK => ?_) AllReadyH.nil))
    · refine step_want (by rfl) ?_
      have c9 := (fcells hbx).1
      go_simp
      clear c9
      refine hK.out _ _ HX (fun _ => ?_)
      clear hK K
      try simp only [List.getElem_toArray, List.getElem_cons_succ, List.getElem_cons_zero, Act.put, List.setIfInBounds_toArray, List.set_cons_zero, List.set_cons_succ]
      refine wpAnyH_take (i := 6) (v := .slice (some ⟨b1, o1, none⟩) m c) rfl (by kernel_rfl) (by kernel_rfl) (by kernel_rfl) (fun _ _ _ h => h) (Or.inl ⟨by rfl, by intro w9 _; go_simp⟩) HX ?_
      simp only [List.getElem_toArray, List.getElem_cons_succ, List.getElem_cons_zero, Act.put, List.setIfInBounds_toArray, List.set_cons_zero, List.set_cons_succ]
      refine wpAnyH_ready (rs := [10]) (by kernel_rfl) (by simp) (AllReadyH.cons (by simp only [List.getElem?_toArray, List.getElem?_cons_succ, List.getElem?_cons_zero]; rfl) (fun K hK => ?_) AllReadyH.nil)
      refine step_want (by rfl) ?_
      have c9 := (fcells hbx).1
      go_simp
      clear c9
      refine hK.out _ _ HX (fun _ => ?_)
      clear hK K
      try simp only [List.getElem_toArray, List.getElem_cons_succ, List.getElem_cons_zero, Act.put, List.setIfInBounds_toArray, List.set_cons_zero, List.set_cons_succ]
      refine wpAnyH_take (i := 12) (v := .slice (if c = m then some ⟨b1, o1, none⟩ else some ⟨b1, o1 + m * 32, none⟩) (q - m) (c - m)) rfl (by kernel_rfl) (by kernel_rfl) (by kernel_rfl) (fun _ _ _ h => h) (Or.inl ⟨by rfl, by intro w9 _; go_simp⟩) HX ?_
      simp only [List.getElem_toArray, List.getElem_cons_succ, List.getElem_cons_zero, Act.put, List.setIfInBounds_toArray, List.set_cons_zero, List.set_cons_succ]
      refine wpAnyH_ready (rs := [14]) (by kernel_rfl) (by simp) (AllReadyH.cons (by simp only [List.getElem?_toArray, List.getElem?_cons_succ, List.getElem?_cons_zero]; rfl) (fun K hK => ?_) AllReadyH.nil)
      refine step_want (by rfl) ?_
      go_simp
      refine (HAb.out _ x0 (HRs.out x0 b1 o1 rfl (HS.out _ HX).1) (HS.out _ HX).2.1).mono ?_
      rintro e x1 ⟨rfl, bc⟩
      have HX : But b w1 x1 := HX.trans (But.of_below bc)
      have hbx := (bc.block _ (Array.getElem?_eq_some_iff.1 hbx).1).trans hbx
      clear bc
      refine hK.out _ _ HX (fun _ => ?_)
      clear hK K
      try simp only [List.getElem_toArray, List.getElem_cons_succ, List.getElem_cons_zero, Act.put, List.setIfInBounds_toArray, List.set_cons_zero, List.set_cons_succ]
      refine wpAnyH_ready (rs := [15]) (by kernel_rfl) (by simp) (AllReadyH.cons (by simp only [List.getElem?_toArray, List.getElem?_cons_succ, List.getElem?_cons_zero]; rfl) (fun K hK => ?_) AllReadyH.nil)
      refine step_want (by rfl) ?_
      go_simp
      have hN := HMk.out x1
      obtain ⟨x2, hw⟩ : ∃ x2, x1.alloc (.cells U 30) = x2 := ⟨_, rfl⟩
      have bc : Below x1.heap.size x1 x2 := by rw [← hw]; exact (Below.refl _ _).alloc (Nat.le_refl _) _
      obtain ⟨e2, he0⟩ : ∃ e2, x1.heap.size = e2 := ⟨_, rfl⟩
      rw [hw, he0] at hN
      rw [hw, he0]
      have HX : But b w1 x2 := HX.trans (But.of_below bc)
      have hbx := (bc.block _ (Array.getElem?_eq_some_iff.1 hbx).1).trans hbx
      clear bc hw he0
      refine hK.out _ _ HX (fun _ => ?_)
      clear hK K
      try simp only [List.getElem_toArray, List.getElem_cons_succ, List.getElem_cons_zero, Act.put, List.setIfInBounds_toArray, List.set_cons_zero, List.set_cons_succ]
      refine wpAnyH_ready (rs := [16]) (by kernel_rfl) (by simp) (AllReadyH.cons (by simp only [List.getElem?_toArray, List.getElem?_cons_succ, List.getElem?_cons_zero]; rfl) (fun K hK => ?_) AllReadyH.nil)
      refine step_want (by rfl) ?_
      go_simp
      obtain ⟨x3, hw⟩ : ∃ x3, x2.alloc (.cells #[.slice (some ⟨b1, o1, none⟩) m c, .slice (some ⟨e2, 0, none⟩) 1 1] 22) = x3 := ⟨_, rfl⟩
      have bc : Below x2.heap.size x2 x3 := by rw [← hw]; exact (Below.refl _ _).alloc (Nat.le_refl _) _
      have hgd := heap_alloc_last x2 (.cells #[.slice (some ⟨b1, o1, none⟩) m c, .slice (some ⟨e2, 0, none⟩) 1 1] 22)
      obtain ⟨e3, he0⟩ : ∃ e3, x2.heap.size = e3 := ⟨_, rfl⟩
      rw [hw, he0] at hgd
      rw [hw, he0]
      have HX : But b w1 x3 := HX.trans (But.of_below bc)
      have hbx := (bc.block _ (Array.getElem?_eq_some_iff.1 hbx).1).trans hbx
      have hN := hN.below bc
      clear bc hw he0
      refine hK.out _ _ HX (fun _ => ?_)
      clear hK K
      try simp only [List.getElem_toArray, List.getElem_cons_succ, List.getElem_cons_zero, Act.put, List.setIfInBounds_toArray, List.set_cons_zero, List.set_cons_succ]
      refine wpAnyH_ready (rs := [17]) (by kernel_rfl) (by simp) (AllReadyH.cons (by simp only [List.getElem?_toArray, List.getElem?_cons_succ, List.getElem?_cons_zero]; rfl) (fun K hK => ?_) AllReadyH.nil)
      refine step_want (by rfl) ?_
      go_simp
      refine (HCo.out x3 e3 (some ⟨e2, 0, none⟩) 1 (by rw [cell_of_row _ _ _ _ _ _ hgd]; rfl) (by rw [cell_of_row _ _ _ _ _ _ hgd]; rfl) (HTk.out _ (HS.out _ HX).1) hN).mono ?_
      rintro e x4 ⟨xa, xc, rfl, hM⟩
      have hsx : p ≤ x3.heap.size := Nat.le_trans hsb HX.size
      have bc := hM.below
      have HX : But b w1 x4 := HX.trans (But.of_below bc)
      have hbx := (bc.block _ (Array.getElem?_eq_some_iff.1 hbx).1).trans hbx
      clear bc hN hgd
      refine hK.out _ _ HX (fun _ => ?_)
      clear hK K
      try simp only [List.getElem_toArray, List.getElem_cons_succ, List.getElem_cons_zero, Act.put, List.setIfInBounds_toArray, List.set_cons_zero, List.set_cons_succ]
      refine wpAnyH_take (i := 18) (v := .pointer (some ⟨b, 0, none⟩)) rfl (by kernel_rfl) (by kernel_rfl) (by kernel_rfl) (fun _ _ _ h => h) (Or.inl ⟨by rfl, by intro w9 _; go_simp⟩) HX ?_
      simp only [List.getElem_toArray, List.getElem_cons_succ, List.getElem_cons_zero, Act.put, List.setIfInBounds_toArray, List.set_cons_zero, List.set_cons_succ]
      refine wpAnyH_take (i := 19) (v := .pointer (some ⟨b, 0, none⟩)) rfl (by kernel_rfl) (by kernel_rfl) (by kernel_rfl) (fun _ _ _ h => h) (Or.inl ⟨by rfl, by intro w9 _; go_simp⟩) HX ?_
      simp only [List.getElem_toArray, List.getElem_cons_succ, List.getElem_cons_zero, Act.put, List.setIfInBounds_toArray, List.set_cons_zero, List.set_cons_succ]
      refine wpAnyH_ready (rs := [20]) (by kernel_rfl) (by simp) (AllReadyH.cons (by simp only [List.getElem?_toArray, List.getElem?_cons_succ, List.getElem?_cons_zero]; rfl) (fun K hK => ?_) AllReadyH.nil)
      refine step_want (by rfl) ?_
      have c9 := (fcells hbx).1
      have f9 : x4.frozen? ⟨b, 0, none⟩ = false := by rw [World.frozen?, hbx]; rfl
      have hQ := hM.at_
      have hOw := hM.own
      obtain ⟨a', c', hsl, hxc⟩ := hM.slice
      rw [hplen] at hsl hxc
      obtain ⟨rfl, -, rfl⟩ := Value.slice.inj hsl
      have HX : But b w1 (x4.setCell ⟨b, 0, none⟩ (.slice xa (m + 1) xc)) := HX.setCell _
      have hby := heap_set_same (o := 0) (v := .slice xa (m + 1) xc) hbx
      have hQ : HsAt (x4.setCell ⟨b, 0, none⟩ (.slice xa (m + 1) xc)) (.slice xa (m + 1) xc) (puL nodeL t L h) := hQ.kept fun ad ha _ => by
        obtain ⟨g, o, e, hg⟩ := hOw ad ha
        subst e
        exact Below.heap_setCell _ _ _ _ (by simp only; omega)
      have hOw : OwnA p xa := fun ad ha => by
        obtain ⟨g, o, e, hg⟩ := hOw ad ha
        exact ⟨g, o, e, by omega⟩
      clear hM hsl hbx
      go_simp
      generalize x4.setCell ⟨b, 0, none⟩ (.slice xa (m + 1) xc) = x5 at *
      refine hK.out _ _ HX (fun _ => ?_)
      clear hK K
      try simp only [List.getElem_toArray, List.getElem_cons_succ, List.getElem_cons_zero, Act.put, List.setIfInBounds_toArray, List.set_cons_zero, List.set_cons_succ]
      refine wpAnyH_done (by kernel_rfl) ?_ _
      have HF : Hid (But b w x5) := HB1.out.trans HX
      have HQ : Hid (∃ a' c', x5.heap[b]? = some (.cells (frC (.slice a' (m + 1) c') n) 55 (0, 0)) ∧ HsAt x5 (.slice a' (m + 1) c') (puL nodeL t L h) ∧ m + 1 ≤ c' ∧ OwnA p a') := ⟨xa, xc, hby, hQ, hxc, hOw⟩
      clear HX hby hQ hOw
      go_wp2
      all_goals (go_end0; exact ⟨⟨_, rfl⟩, HQ.out, HF.out⟩)
    · refine step_want (by rfl) ?_
      have c9 := (fcells hbx).1
      go_simp
      clear c9
      refine hK.out _ _ HX (fun _ => ?_)
      clear hK K
      try simp only [List.getElem_toArray, List.getElem_cons_succ, List.getElem_cons_zero, Act.put, List.setIfInBounds_toArray, List.set_cons_zero, List.set_cons_succ]
      refine wpAnyH_take (i := 12) (v := .slice (if c = m then some ⟨b1, o1, none⟩ else some ⟨b1, o1 + m * 32, none⟩) (q - m) (c - m)) rfl (by kernel_rfl) (by kernel_rfl) (by kernel_rfl) (fun _ _ _ h => h) (Or.inl ⟨by rfl, by intro w9 _; go_simp⟩) HX ?_
      simp only [List.getElem_toArray, List.getElem_cons_succ, List.getElem_cons_zero, Act.put, List.setIfInBounds_toArray, List.set_cons_zero, List.set_cons_succ]
      refine wpAnyH_ready (rs := [4, 14]) (by kernel_rfl) (by simp) (AllReadyH.cons (by simp only [List.getElem?_toArray, List.getElem?_cons_succ, List.getElem?_cons_zero]; rfl) (fun K hK => ?_) (AllReadyH.cons (by simp only [List.getElem?_toArray, List.getElem?_cons_succ, List.getElem?_cons_zero]; rfl) (fun K hK => ?_) AllReadyH.nil))
      · refine step_want (by rfl) ?_
        have c9 := (fcells hbx).1
        go_simp
        clear c9
        refine hK.out _ _ HX (fun _ => ?_)
        clear hK K
        try simp only [List.getElem_toArray, List.getElem_cons_succ, List.getElem_cons_zero, Act.put, List.setIfInBounds_toArray, List.set_cons_zero, List.set_cons_succ]
        refine wpAnyH_take (i := 6) (v := .slice (some ⟨b1, o1, none⟩) m c) rfl (by kernel_rfl) (by kernel_rfl) (by kernel_rfl) (fun _ _ _ h => h) (Or.inl ⟨by rfl, by intro w9 _; go_simp⟩) HX ?_
        simp only [List.getElem_toArray, List.getElem_cons_succ, List.getElem_cons_zero, Act.put, List.setIfInBounds_toArray, List.set_cons_zero, List.set_cons_succ]
        refine wpAnyH_ready (rs := [14]) (by kernel_rfl) (by simp) (AllReadyH.cons (by simp only [List.getElem?_toArray, List.getElem?_cons_succ, List.getElem?_cons_zero]; rfl) (fun K hK => ?_) AllReadyH.nil)
        refine step_want (by rfl) ?_
        go_simp
        refine (HAb.out _ x0 (HRs.out x0 b1 o1 rfl (HS.out _ HX).1) (HS.out _ HX).2.1).mono ?_
        rintro e x1 ⟨rfl, bc⟩
        have HX : But b w1 x1 := HX.trans (But.of_below bc)
        have hbx := (bc.block _ (Array.getElem?_eq_some_iff.1 hbx).1).trans hbx
        clear bc
        refine hK.out _ _ HX (fun _ => ?_)
        clear hK K
        try simp only [List.getElem_toArray, List.getElem_cons_succ, List.getElem_cons_zero, Act.put, List.setIfInBounds_toArray, List.set_cons_zero, List.set_cons_succ]
        refine wpAnyH_ready (rs := [15]) (by kernel_rfl) (by simp) (AllReadyH.cons (by simp only [List.getElem?_toArray, List.getElem?_cons_succ, List.getElem?_cons_zero]; rfl) (fun K hK => ?_) AllReadyH.nil)
        refine step_want (by rfl) ?_
        go_simp
        have hN := HMk.out x1
        obtain ⟨x2, hw⟩ : ∃ x2, x1.alloc (.cells U 30) = x2 := ⟨_, rfl⟩
        have bc : Below x1.heap.size x1 x2 := by rw [← hw]; exact (Below.refl _ _).alloc (Nat.le_refl _) _
        obtain ⟨e2, he0⟩ : ∃ e2, x1.heap.size = e2 := ⟨_, rfl⟩
        rw [hw, he0] at hN
        rw [hw, he0]
        have HX : But b w1 x2 := HX.trans (But.of_below bc)
        have hbx := (bc.block _ (Array.getElem?_eq_some_iff.1 hbx).1).trans hbx
        clear bc hw he0
        refine hK.out _ _ HX (fun _ => ?_)
        clear hK K
        try simp only [List.getElem_toArray, List.getElem_cons_succ, List.getElem_cons_zero, Act.put, List.setIfInBounds_toArray, List.set_cons_zero, List.set_cons_succ]
        refine wpAnyH_ready (rs := [16]) (by kernel_rfl) (by simp) (AllReadyH.cons (by simp only [List.getElem?_toArray, List.getElem?_cons_succ, List.getElem?_cons_zero]; rfl) (fun K hK => ?_) AllReadyH.nil)
        refine step_want (by rfl) ?_
        go_simp
        obtain ⟨x3, hw⟩ : ∃ x3, x2.alloc (.cells #[.slice (some ⟨b1, o1, none⟩) m c, .slice (some ⟨e2, 0, none⟩) 1 1] 22) = x3 := ⟨_, rfl⟩
        have bc : Below x2.heap.size x2 x3 := by rw [← hw]; exact (Below.refl _ _).alloc (Nat.le_refl _) _
        have hgd := heap_alloc_last x2 (.cells #[.slice (some ⟨b1, o1, none⟩) m c, .slice (some ⟨e2, 0, none⟩) 1 1] 22)
        obtain ⟨e3, he0⟩ : ∃ e3, x2.heap.size = e3 := ⟨_, rfl⟩
        rw [hw, he0] at hgd
        rw [hw, he0]
        have HX : But b w1 x3 := HX.trans (But.of_below bc)
        have hbx := (bc.block _ (Array.getElem?_eq_some_iff.1 hbx).1).trans hbx
        have hN := hN.below bc
        clear bc hw he0
        refine hK.out _ _ HX (fun _ => ?_)
        clear hK K
        try simp only [List.getElem_toArray, List.getElem_cons_succ, List.getElem_cons_zero, Act.put, List.setIfInBounds_toArray, List.set_cons_zero, List.set_cons_succ]
        refine wpAnyH_ready (rs := [17]) (by kernel_rfl) (by simp) (AllReadyH.cons (by simp only [List.getElem?_toArray, List.getElem?_cons_succ, List.getElem?_cons_zero]; rfl) (fun K hK => ?_) AllReadyH.nil)
        refine step_want (by rfl) ?_
        go_simp
        refine (HCo.out x3 e3 (some ⟨e2, 0, none⟩) 1 (by rw [cell_of_row _ _ _ _ _ _ hgd]; rfl) (by rw [cell_of_row _ _ _ _ _ _ hgd]; rfl) (HTk.out _ (HS.out _ HX).1) hN).mono ?_
        rintro e x4 ⟨xa, xc, rfl, hM⟩
        have hsx : p ≤ x3.heap.size := Nat.le_trans hsb HX.size
        have bc := hM.below
        have HX : But b w1 x4 := HX.trans (But.of_below bc)
        have hbx := (bc.block _ (Array.getElem?_eq_some_iff.1 hbx).1).trans hbx
        clear bc hN hgd
        refine hK.out _ _ HX (fun _ => ?_)
        clear hK K
        try simp only [List.getElem_toArray, List.getElem_cons_succ, List.getElem_cons_zero, Act.put, List.setIfInBounds_toArray, List.set_cons_zero, List.set_cons_succ]
        refine wpAnyH_take (i := 18) (v := .pointer (some ⟨b, 0, none⟩)) rfl (by kernel_rfl) (by kernel_rfl) (by kernel_rfl) (fun _ _ _ h => h) (Or.inl ⟨by rfl, by intro w9 _; go_simp⟩) HX ?_
        simp only [List.getElem_toArray, List.getElem_cons_succ, List.getElem_cons_zero, Act.put, List.setIfInBounds_toArray, List.set_cons_zero, List.set_cons_succ]
        refine wpAnyH_take (i := 19) (v := .pointer (some ⟨b, 0, none⟩)) rfl (by kernel_rfl) (by kernel_rfl) (by kernel_rfl) (fun _ _ _ h => h) (Or.inl ⟨by rfl, by intro w9 _; go_simp⟩) HX ?_
        simp only [List.getElem_toArray, List.getElem_cons_succ, List.getElem_cons_zero, Act.put, List.setIfInBounds_toArray, List.set_cons_zero, List.set_cons_succ]
        refine wpAnyH_ready (rs := [20]) (by kernel_rfl) (by simp) (AllReadyH.cons (by simp only [List.getElem?_toArray, List.getElem?_cons_succ, List.getElem?_cons_zero]; rfl) (fun K hK => ?_) AllReadyH.nil)
        refine step_want (by rfl) ?_
        have c9 := (fcells hbx).1
        have f9 : x4.frozen? ⟨b, 0, none⟩ = false := by rw [World.frozen?, hbx]; rfl
        have hQ := hM.at_
        have hOw := hM.own
        obtain ⟨a', c', hsl, hxc⟩ := hM.slice
        rw [hplen] at hsl hxc
        obtain ⟨rfl, -, rfl⟩ := Value.slice.inj hsl
        have HX : But b w1 (x4.setCell ⟨b, 0, none⟩ (.slice xa (m + 1) xc)) := HX.setCell _
        have hby := heap_set_same (o := 0) (v := .slice xa (m + 1) xc) hbx
        have hQ : HsAt (x4.setCell ⟨b, 0, none⟩ (.slice xa (m + 1) xc)) (.slice xa (m + 1) xc) (puL nodeL t L h) := hQ.kept fun ad ha _ => by
          obtain ⟨g, o, e, hg⟩ := hOw ad ha
          subst e
          exact Below.heap_setCell _ _ _ _ (by simp only; omega)
        have hOw : OwnA p xa := fun ad ha => by
          obtain ⟨g, o, e, hg⟩ := hOw ad ha
          exact ⟨g, o, e, by omega⟩
        clear hM hsl hbx
        go_simp
        generalize x4.setCell ⟨b, 0, none⟩ (.slice xa (m + 1) xc) = x5 at *
        refine hK.out _ _ HX (fun _ => ?_)
        clear hK K
        try simp only [List.getElem_toArray, List.getElem_cons_succ, List.getElem_cons_zero, Act.put, List.setIfInBounds_toArray, List.set_cons_zero, List.set_cons_succ]
        refine wpAnyH_done (by kernel_rfl) ?_ _
        have HF : Hid (But b w x5) := HB1.out.trans HX
        have HQ : Hid (∃ a' c', x5.heap[b]? = some (.cells (frC (.slice a' (m + 1) c') n) 55 (0, 0)) ∧ HsAt x5 (.slice a' (m + 1) c') (puL nodeL t L h) ∧ m + 1 ≤ c' ∧ OwnA p a') := ⟨xa, xc, hby, hQ, hxc, hOw⟩
        clear HX hby hQ hOw
        go_wp2
        all_goals (go_end0; exact ⟨⟨_, rfl⟩, HQ.out, HF.out⟩)
      · refine step_want (by rfl) ?_
        go_simp
        refine (HAb.out _ x0 (HRs.out x0 b1 o1 rfl (HS.out _ HX).1) (HS.out _ HX).2.1).mono ?_
        rintro e x1 ⟨rfl, bc⟩
        have HX : But b w1 x1 := HX.trans (But.of_below bc)
        have hbx := (bc.block _ (Array.getElem?_eq_some_iff.1 hbx).1).trans hbx
        clear bc
        refine hK.out _ _ HX (fun _ => ?_)
        clear hK K
        try simp only [List.getElem_toArray, List.getElem_cons_succ, List.getElem_cons_zero, Act.put, List.setIfInBounds_toArray, List.set_cons_zero, List.set_cons_succ]
        refine wpAnyH_ready (rs := [4, 15]) (by kernel_rfl) (by simp) (AllReadyH.cons (by simp only [List.getElem?_toArray, List.getElem?_cons_succ, List.getElem?_cons_zero]; rfl) (fun K hK => ?_) (AllReadyH.cons (by simp only [List.getElem?_toArray, List.getElem?_cons_succ, List.getElem?_cons_zero]; rfl) (fun K hK => ?_) AllReadyH.nil))
        · refine step_want (by rfl) ?_
          have c9 := (fcells hbx).1
          go_simp
          clear c9
          refine hK.out _ _ HX (fun _ => ?_)
          clear hK K
          try simp only [List.getElem_toArray, List.getElem_cons_succ, List.getElem_cons_zero, Act.put, List.setIfInBounds_toArray, List.set_cons_zero, List.set_cons_succ]
          refine wpAnyH_take (i := 6) (v := .slice (some ⟨b1, o1, none⟩) m c) rfl (by kernel_rfl) (by kernel_rfl) (by kernel_rfl) (fun _ _ _ h => h) (Or.inl ⟨by rfl, by intro w9 _; go_simp⟩) HX ?_
          simp only [List.getElem_toArray, List.getElem_cons_succ, List.getElem_cons_zero, Act.put, List.setIfInBounds_toArray, List.set_cons_zero, List.set_cons_succ]
          refine wpAnyH_ready (rs := [15]) (by kernel_rfl) (by simp) (AllReadyH.cons (by simp only [List.getElem?_toArray, List.getElem?_cons_succ, List.getElem?_cons_zero]; rfl) (fun K hK => ?_) AllReadyH.nil)
          refine step_want (by rfl) ?_
          go_simp
          have hN := HMk.out x1
          obtain ⟨x2, hw⟩ : ∃ x2, x1.alloc (.cells U 30) = x2 := ⟨_, rfl⟩
          have bc : Below x1.heap.size x1 x2 := by rw [← hw]; exact (Below.refl _ _).alloc (Nat.le_refl _) _
          obtain ⟨e2, he0⟩ : ∃ e2, x1.heap.size = e2 := ⟨_, rfl⟩
          rw [hw, he0] at hN
          rw [hw, he0]
          have HX : But b w1 x2 := HX.trans (But.of_below bc)
          have hbx := (bc.block _ (Array.getElem?_eq_some_iff.1 hbx).1).trans hbx
          clear bc hw he0
          refine hK.out _ _ HX (fun _ => ?_)
          clear hK K
          try simp only [List.getElem_toArray, List.getElem_cons_succ, List.getElem_cons_zero, Act.put, List.setIfInBounds_toArray, List.set_cons_zero, List.set_cons_succ]
          refine wpAnyH_ready (rs := [16]) (by kernel_rfl) (by simp) (AllReadyH.cons (by simp only [List.getElem?_toArray, List.getElem?_cons_succ, List.getElem?_cons_zero]; rfl) (fun K hK => ?_) AllReadyH.nil)
          refine step_want (by rfl) ?_
          go_simp
          obtain ⟨x3, hw⟩ : ∃ x3, x2.alloc (.cells #[.slice (some ⟨b1, o1, none⟩) m c, .slice (some ⟨e2, 0, none⟩) 1 1] 22) = x3 := ⟨_, rfl⟩
          have bc : Below x2.heap.size x2 x3 := by rw [← hw]; exact (Below.refl _ _).alloc (Nat.le_refl _) _
          have hgd := heap_alloc_last x2 (.cells #[.slice (some ⟨b1, o1, none⟩) m c, .slice (some ⟨e2, 0, none⟩) 1 1] 22)
          obtain ⟨e3, he0⟩ : ∃ e3, x2.heap.size = e3 := ⟨_, rfl⟩
          rw [hw, he0] at hgd
          rw [hw, he0]
          have HX : But b w1 x3 := HX.trans (But.of_below bc)
          have hbx := (bc.block _ (Array.getElem?_eq_some_iff.1 hbx).1).trans hbx
          have hN := hN.below bc
          clear bc hw he0
          refine hK.out _ _ HX (fun _ => ?_)
          clear hK K
          try simp only [List.getElem_toArray, List.getElem_cons_succ, List.getElem_cons_zero, Act.put, List.setIfInBounds_toArray, List.set_cons_zero, List.set_cons_succ]
          refine wpAnyH_ready (rs := [17]) (by kernel_rfl) (by simp) (AllReadyH.cons (by simp only [List.getElem?_toArray, List.getElem?_cons_succ, List.getElem?_cons_zero]; rfl) (fun K hK => ?_) AllReadyH.nil)
          refine step_want (by rfl) ?_
          go_simp
          refine (HCo.out x3 e3 (some ⟨e2, 0, none⟩) 1 (by rw [cell_of_row _ _ _ _ _ _ hgd]; rfl) (by rw [cell_of_row _ _ _ _ _ _ hgd]; rfl) (HTk.out _ (HS.out _ HX).1) hN).mono ?_
          rintro e x4 ⟨xa, xc, rfl, hM⟩
          have hsx : p ≤ x3.heap.size := Nat.le_trans hsb HX.size
          have bc := hM.below
          have HX : But b w1 x4 := HX.trans (But.of_below bc)
          have hbx := (bc.block _ (Array.getElem?_eq_some_iff.1 hbx).1).trans hbx
          clear bc hN hgd
          refine hK.out _ _ HX (fun _ => ?_)
          clear hK K
          try simp only [List.getElem_toArray, List.getElem_cons_succ, List.getElem_cons_zero, Act.put, List.setIfInBounds_toArray, List.set_cons_zero, List.set_cons_succ]
          refine wpAnyH_take (i := 18) (v := .pointer (some ⟨b, 0, none⟩)) rfl (by kernel_rfl) (by kernel_rfl) (by kernel_rfl) (fun _ _ _ h => h) (Or.inl ⟨by rfl, by intro w9 _; go_simp⟩) HX ?_
          simp only [List.getElem_toArray, List.getElem_cons_succ, List.getElem_cons_zero, Act.put, List.setIfInBounds_toArray, List.set_cons_zero, List.set_cons_succ]
          refine wpAnyH_take (i := 19) (v := .pointer (some ⟨b, 0, none⟩)) rfl (by kernel_rfl) (by kernel_rfl) (by kernel_rfl) (fun _ _ _ h => h) (Or.inl ⟨by rfl, by intro w9 _; go_simp⟩) HX ?_
          simp only [List.getElem_toArray, List.getElem_cons_succ, List.getElem_cons_zero, Act.put, List.setIfInBounds_toArray, List.set_cons_zero, List.set_cons_succ]
          refine wpAnyH_ready (rs := [20]) (by kernel_rfl) (by simp) (AllReadyH.cons (by simp only [List.getElem?_toArray, List.getElem?_cons_succ, List.getElem?_cons_zero]; rfl) (fun K hK => ?_) AllReadyH.nil)
          refine step_want (by rfl) ?_
          have c9 := (fcells hbx).1
          have f9 : x4.frozen? ⟨b, 0, none⟩ = false := by rw [World.frozen?, hbx]; rfl
          have hQ := hM.at_
          have hOw := hM.own
          obtain ⟨a', c', hsl, hxc⟩ := hM.slice
          rw [hplen] at hsl hxc
          obtain ⟨rfl, -, rfl⟩ := Value.slice.inj hsl
          have HX : But b w1 (x4.setCell ⟨b, 0, none⟩ (.slice xa (m + 1) xc)) := HX.setCell _
          have hby := heap_set_same (o := 0) (v := .slice xa (m + 1) xc) hbx
          have hQ : HsAt (x4.setCell ⟨b, 0, none⟩ (.slice xa (m + 1) xc)) (.slice xa (m + 1) xc) (puL nodeL t L h) := hQ.kept fun ad ha _ => by
            obtain ⟨g, o, e, hg⟩ := hOw ad ha
            subst e
            exact Below.heap_setCell _ _ _ _ (by simp only; omega)
          have hOw : OwnA p xa := fun ad ha => by
            obtain ⟨g, o, e, hg⟩ := hOw ad ha
            exact ⟨g, o, e, by omega⟩
          clear hM hsl hbx
          go_simp
          generalize x4.setCell ⟨b, 0, none⟩ (.slice xa (m + 1) xc) = x5 at *
          refine hK.out _ _ HX (fun _ => ?_)
          clear hK K
          try simp only [List.getElem_toArray, List.getElem_cons_succ, List.getElem_cons_zero, Act.put, List.setIfInBounds_toArray, List.set_cons_zero, List.set_cons_succ]
          refine wpAnyH_done (by kernel_rfl) ?_ _
          have HF : Hid (But b w x5) := HB1.out.trans HX
          have HQ : Hid (∃ a' c', x5.heap[b]? = some (.cells (frC (.slice a' (m + 1) c') n) 55 (0, 0)) ∧ HsAt x5 (.slice a' (m + 1) c') (puL nodeL t L h) ∧ m + 1 ≤ c' ∧ OwnA p a') := ⟨xa, xc, hby, hQ, hxc, hOw⟩
          clear HX hby hQ hOw
          go_wp2
          all_goals (go_end0; exact ⟨⟨_, rfl⟩, HQ.out, HF.out⟩)
        · refine step_want (by rfl) ?_
          go_simp
          have hN := HMk.out x1
          obtain ⟨x2, hw⟩ : ∃ x2, x1.alloc (.cells U 30) = x2 := ⟨_, rfl⟩
          have bc : Below x1.heap.size x1 x2 := by rw [← hw]; exact (Below.refl _ _).alloc (Nat.le_refl _) _
          obtain ⟨e2, he0⟩ : ∃ e2, x1.heap.size = e2 := ⟨_, rfl⟩
          rw [hw, he0] at hN
          rw [hw, he0]
          have HX : But b w1 x2 := HX.trans (But.of_below bc)
          have hbx := (bc.block _ (Array.getElem?_eq_some_iff.1 hbx).1).trans hbx
          clear bc hw he0
          refine hK.out _ _ HX (fun _ => ?_)
          clear hK K
          try simp only [List.getElem_toArray, List.getElem_cons_succ, List.getElem_cons_zero, Act.put, List.setIfInBounds_toArray, List.set_cons_zero, List.set_cons_succ]
          refine wpAnyH_ready (rs := [4]) (by kernel_rfl) (by simp) (AllReadyH.cons (by simp only [List.getElem?_toArray, List.getElem?_cons_succ, List.getElem?_cons_zero]; rfl) (fun K hK => ?_) AllReadyH.nil)
          refine step_want (by rfl) ?_
          have c9 := (fcells hbx).1
          go_simp
          clear c9
          refine hK.out _ _ HX (fun _ => ?_)
          clear hK K
          try simp only [List.getElem_toArray, List.getElem_cons_succ, List.getElem_cons_zero, Act.put, List.setIfInBounds_toArray, List.set_cons_zero, List.set_cons_succ]
          refine wpAnyH_take (i := 6) (v := .slice (some ⟨b1, o1, none⟩) m c) rfl (by kernel_rfl) (by kernel_rfl) (by kernel_rfl) (fun _ _ _ h => h) (Or.inl ⟨by rfl, by intro w9 _; go_simp⟩) HX ?_
          simp only [List.getElem_toArray, List.getElem_cons_succ, List.getElem_cons_zero, Act.put, List.setIfInBounds_toArray, List.set_cons_zero, List.set_cons_succ]
          refine wpAnyH_ready (rs := [16]) (by kernel_rfl) (by simp) (AllReadyH.cons (by simp only [List.getElem?_toArray, List.getElem?_cons_succ, List.getElem?_cons_zero]; rfl) (fun K hK => ?_) AllReadyH.nil)
          refine step_want (by rfl) ?_
          go_simp
          obtain ⟨x3, hw⟩ : ∃ x3, x2.alloc (.cells #[.slice (some ⟨b1, o1, none⟩) m c, .slice (some ⟨e2, 0, none⟩) 1 1] 22) = x3 := ⟨_, rfl⟩
          have bc : Below x2.heap.size x2 x3 := by rw [← hw]; exact (Below.refl _ _).alloc (Nat.le_refl _) _
          have hgd := heap_alloc_last x2 (.cells #[.slice (some ⟨b1, o1, none⟩) m c, .slice (some ⟨e2, 0, none⟩) 1 1] 22)
          obtain ⟨e3, he0⟩ : ∃ e3, x2.heap.size = e3 := ⟨_, rfl⟩
          rw [hw, he0] at hgd
          rw [hw, he0]
          have HX : But b w1 x3 := HX.trans (But.of_below bc)
          have hbx := (bc.block _ (Array.getElem?_eq_some_iff.1 hbx).1).trans hbx
          have hN := hN.below bc
          clear bc hw he0
          refine hK.out _ _ HX (fun _ => ?_)
          clear hK K
          try simp only [List.getElem_toArray, List.getElem_cons_succ, List.getElem_cons_zero, Act.put, List.setIfInBounds_toArray, List.set_cons_zero, List.set_cons_succ]
          refine wpAnyH_ready (rs := [17]) (by kernel_rfl) (by simp) (AllReadyH.cons (by simp only [List.getElem?_toArray, List.getElem?_cons_succ, List.getElem?_cons_zero]; rfl) (fun K hK => ?_) AllReadyH.nil)
          refine step_want (by rfl) ?_
          go_simp
          refine (HCo.out x3 e3 (some ⟨e2, 0, none⟩) 1 (by rw [cell_of_row _ _ _ _ _ _ hgd]; rfl) (by rw [cell_of_row _ _ _ _ _ _ hgd]; rfl) (HTk.out _ (HS.out _ HX).1) hN).mono ?_
          rintro e x4 ⟨xa, xc, rfl, hM⟩
          have hsx : p ≤ x3.heap.size := Nat.le_trans hsb HX.size
          have bc := hM.below
          have HX : But b w1 x4 := HX.trans (But.of_below bc)
          have hbx := (bc.block _ (Array.getElem?_eq_some_iff.1 hbx).1).trans hbx
          clear bc hN hgd
          refine hK.out _ _ HX (fun _ => ?_)
          clear hK K
          try simp only [List.getElem_toArray, List.getElem_cons_succ, List.getElem_cons_zero, Act.put, List.setIfInBounds_toArray, List.set_cons_zero, List.set_cons_succ]
          refine wpAnyH_take (i := 18) (v := .pointer (some ⟨b, 0, none⟩)) rfl (by kernel_rfl) (by kernel_rfl) (by kernel_rfl) (fun _ _ _ h => h) (Or.inl ⟨by rfl, by intro w9 _; go_simp⟩) HX ?_
          simp only [List.getElem_toArray, List.getElem_cons_succ, List.getElem_cons_zero, Act.put, List.setIfInBounds_toArray, List.set_cons_zero, List.set_cons_succ]
          refine wpAnyH_take (i := 19) (v := .pointer (some ⟨b, 0, none⟩)) rfl (by kernel_rfl) (by kernel_rfl) (by kernel_rfl) (fun _ _ _ h => h) (Or.inl ⟨by rfl, by intro w9 _; go_simp⟩) HX ?_
          simp only [List.getElem_toArray, List.getElem_cons_succ, List.getElem_cons_zero, Act.put, List.setIfInBounds_toArray, List.set_cons_zero, List.set_cons_succ]
          refine wpAnyH_ready (rs := [20]) (by kernel_rfl) (by simp) (AllReadyH.cons (by simp only [List.getElem?_toArray, List.getElem?_cons_succ, List.getElem?_cons_zero]; rfl) (fun K hK => ?_) AllReadyH.nil)
          refine step_want (by rfl) ?_
          have c9 := (fcells hbx).1
          have f9 : x4.frozen? ⟨b, 0, none⟩ = false := by rw [World.frozen?, hbx]; rfl
          have hQ := hM.at_
          have hOw := hM.own
          obtain ⟨a', c', hsl, hxc⟩ := hM.slice
          rw [hplen] at hsl hxc
          obtain ⟨rfl, -, rfl⟩ := Value.slice.inj hsl
          have HX : But b w1 (x4.setCell ⟨b, 0, none⟩ (.slice xa (m + 1) xc)) := HX.setCell _
          have hby := heap_set_same (o := 0) (v := .slice xa (m + 1) xc) hbx
          have hQ : HsAt (x4.setCell ⟨b, 0, none⟩ (.slice xa (m + 1) xc)) (.slice xa (m + 1) xc) (puL nodeL t L h) := hQ.kept fun ad ha _ => by
            obtain ⟨g, o, e, hg⟩ := hOw ad ha
            subst e
            exact Below.heap_setCell _ _ _ _ (by simp only; omega)
          have hOw : OwnA p xa := fun ad ha => by
            obtain ⟨g, o, e, hg⟩ := hOw ad ha
            exact ⟨g, o, e, by omega⟩
          clear hM hsl hbx
          go_simp
          generalize x4.setCell ⟨b, 0, none⟩ (.slice xa (m + 1) xc) = x5 at *
          refine hK.out _ _ HX (fun _ => ?_)
          clear hK K
          try simp only [List.getElem_toArray, List.getElem_cons_succ, List.getElem_cons_zero, Act.put, List.setIfInBounds_toArray, List.set_cons_zero, List.set_cons_succ]
          refine wpAnyH_done (by kernel_rfl) ?_ _
          have HF : Hid (But b w x5) := HB1.out.trans HX
          have HQ : Hid (∃ a' c', x5.heap[b]? = some (.cells (frC (.slice a' (m + 1) c') n) 55 (0, 0)) ∧ HsAt x5 (.slice a' (m + 1) c') (puL nodeL t L h) ∧ m + 1 ≤ c' ∧ OwnA p a') := ⟨xa, xc, hby, hQ, hxc, hOw⟩
          clear HX hby hQ hOw
          go_wp2
          all_goals (go_end0; exact ⟨⟨_, rfl⟩, HQ.out, HF.out⟩)
end Go.Proofs.YtnhfadjlajljlaaDoor
