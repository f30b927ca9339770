/- put, Append and Load of a frontier, told of which kind the new list's block is (layer 10). -/
import Derived.Test.YtnhfadjlajljlaaDoor10j
namespace Go.Proofs.YtnhfadjlajljlaaDoor
open Go.RowKit

/-- A list's block, if there is one, is one of hashes. -/
def TyA (W : World) (a : Option Addr) : Prop := ∀ ad, a = some ad → ∃ cur, W.heap[ad.block]? = some (.cells cur 30 (0, 0))
/-- A frontier's box, whose list is one of hashes. -/
def LdA (W : World) (b m : Nat) (L : List (List UInt8)) : Prop := ∃ a' c', W.heap[b]? = some (.cells (frC (.slice a' L.length c') (m : Int)) 55 (0, 0)) ∧ TyA W a'
theorem Mh.ty {w0 w : World} {B n c : Nat} {a : Option Addr} {L : List (List UInt8)} (h : Mh w0 B (.slice a n c) L w) : TyA w a := by
  rintro ad rfl
  rcases h.owns.2 with ⟨q1, -⟩ | ⟨g, cap, cur, q1, q2, q3, -⟩
  · cases q1
  · have := (Value.slice.inj q1).1
    obtain rfl := Option.some.inj this
    exact ⟨cur, q3⟩
theorem TyA.set {W : World} {a : Option Addr} {b o : Nat} {C : Array Value} {v : Value} (h : TyA W a) (hb : W.heap[b]? = some (.cells C 55 (0, 0))) : TyA (W.setCell ⟨b, o, none⟩ v) a := fun ad ha => by
  obtain ⟨cur, h1⟩ := h ad ha
  refine ⟨cur, (Below.heap_setCell _ _ _ _ (fun e => ?_)).trans h1⟩
  rw [show ad.block = b from e, hb] at h1
  have e3 := (Obj.cells.inj (Option.some.inj h1)).2.1
  exact absurd e3 (by decide)
set_option maxRecDepth 100000 in
set_option maxHeartbeats 2000000 in
set_option linter.unusedSimpArgs false in
set_option linter.unusedVariables false in
theorem eput_typed {w : World} {a : Option Addr} {b c t n : Nat} {L : List (List UInt8)} (h : List UInt8) (hT : TabL w) (hgb : 4 < b ∧ 3 < b) (hb : w.heap[b]? = some (.cells (frC (.slice a L.length c) n) 55 (0, 0))) (hL : HsAt w (.slice a L.length c) L) (hc : L.length ≤ c) (hown : ∀ ad, a = some ad → ∃ g o, ad = ⟨g, o, none⟩) (ht : t ≤ L.length) (hlen : L.length ≤ 1000) (hh : h.length = 32) :
    Calls Tryd.prog 28 #[.pointer (some ⟨b, 0, none⟩), .agg (hv h), .int .i64 t] w fun e w' => (∃ v, e = .returned v) ∧ (∃ a' c', w'.heap[b]? = some (.cells (frC (.slice a' (puL nodeL t L h).length c') n) 55 (0, 0)) ∧ HsAt w' (.slice a' (puL nodeL t L h).length c') (puL nodeL t L h) ∧ (puL nodeL t L h).length ≤ c' ∧ OwnA w.heap.size a' ∧ TyA w' a') ∧ But b w w' := by
  have hlt := (Array.getElem?_eq_some_iff.1 hb).1
  obtain ⟨m, hm⟩ : ∃ m, L.length = m + t := ⟨L.length - t, by omega⟩
  obtain ⟨w1, hw1⟩ : ∃ w1, w.alloc (.cells (hv h) 30) = w1 := ⟨_, rfl⟩
  have bw1 : Below w.heap.size w w1 := by rw [← hw1]; exact (Below.refl _ _).alloc (Nat.le_refl _) _
  have g1 : w1.heap[w.heap.size]? = some (.cells (hv h) 30 (0, 0)) := by rw [← hw1]; exact heap_alloc_last w _
  have hb1 := (bw1.block _ hlt).trans hb
  have hs1 : w.heap.size < w1.heap.size := (Array.getElem?_eq_some_iff.1 g1).1
  have hL1 := hL.below bw1
  have hT1 := hT.below bw1 hT.lt
  obtain ⟨c0, -, -⟩ := fcells hb1
  have hpl : puL nodeL t L h = L.take m ++ [abL nodeL (L.drop m) h] := by unfold puL; rw [show L.length - t = m by omega]
  have hplen : (puL nodeL t L h).length = m + 1 := by rw [hpl, List.length_append, List.length_take]; simp; omega
  have hu32 : (abL nodeL (L.drop m) h).length = 32 := by
    unfold abL
    cases L.drop m with
    | nil => exact hh
    | cons y l => exact shaL_length _
  have HS : Hid (∀ W, But b w1 W → HsAt W (.slice a L.length c) L ∧ TabL W ∧ W.rangeAt w.heap.size 0 (hv h).toList) := fun W hW => ⟨hL1.but hW hb1 (by simp), hT1.but hW hgb, by
    exact range_row ((hW.block _ hs1 (by omega)).trans g1)⟩
  have HAb : Hid (∀ (rb : Option Addr) (W : World), HsAt W (.slice rb (L.length - m) (c - m)) (L.drop m) → TabL W → Calls Tryd.prog 31 #[.slice rb (L.length - m) (c - m), .agg (hv h)] W fun e w'' => e = .returned (.agg (hv (abL nodeL (L.drop m) h))) ∧ Below W.heap.size W w'') := fun rb W hW hTW => above_any h hTW hW (by rw [List.length_drop]; omega) hh
  have HCo : Hid (∀ (W : World) (g2 : Nat) (u : Option Addr) (cc : Nat), W.cell? ⟨g2, 0, none⟩ = some (.slice a m c) → W.cell? ⟨g2, 1, none⟩ = some (.slice u 1 cc) → HsAt W (.slice a m c) (L.take m) → HsAt W (.slice u 1 cc) [abL nodeL (L.drop m) h] →
      Calls Tryd.prog 39 #[.slice (some ⟨g2, 0, none⟩) 2 2] W fun e w' => ∃ a' c', e = .returned (.slice a' (m + 1) c') ∧ Mh W W.heap.size (.slice a' (m + 1) c') (puL nodeL t L h) w') := fun W g2 u cc e1 e2 h1 h2 => by
    have h3 : allH [(Value.slice a m c, L.take m), (Value.slice u 1 cc, [abL nodeL (L.drop m) h])] = puL nodeL t L h := by rw [hpl]; simp [allH]
    have h4 := hconcat_any (w := W) (b := g2) (c := 2) (ts := [(Value.slice a m c, L.take m), (Value.slice u 1 cc, [abL nodeL (L.drop m) h])]) (fun i v l hi => by
      match i, hi with
      | 0, hi => obtain ⟨rfl, rfl⟩ := Prod.mk.inj (Option.some.inj hi); exact ⟨e1, h1⟩
      | 1, hi => obtain ⟨rfl, rfl⟩ := Prod.mk.inj (Option.some.inj hi); exact ⟨e2, h2⟩
      | i + 2, hi => simp at hi) (by simp) (by rw [h3, hplen]; omega)
    rw [h3, hplen] at h4
    exact h4
  have HTk : Hid (∀ W, HsAt W (.slice a L.length c) L → HsAt W (.slice a m c) (L.take m)) := fun W hW => hW.take m (by omega)
  have HRs : Hid (∀ (W : World) (b1 o1 : Nat), a = some ⟨b1, o1, none⟩ → HsAt W (.slice a L.length c) L → HsAt W (.slice (if c = m then some ⟨b1, o1, none⟩ else some ⟨b1, o1 + m * 32, none⟩) (L.length - m) (c - m)) (L.drop m)) := fun W b1 o1 e hW => by
    subst e
    exact hW.rest m (by omega) hc
  have HRn : Hid (∀ (W : World), a = none → HsAt W (.slice none (L.length - m) (c - m)) (L.drop m)) := fun W e => by
    subst e
    have hL0 : L = [] := by
      cases L with
      | nil => rfl
      | cons z k => obtain ⟨_, b, o, e, _⟩ := hL.cells.2 0 z rfl; cases e
    subst hL0
    exact ⟨none, c - m, by simp, fun i x hi => by simp at hi⟩
  have hone := hv_one (abL nodeL (L.drop m) h)
  have hhs : (hv h).size = 32 := by rw [hv_size, hh]
  have hUs : (hv (abL nodeL (L.drop m) h)).size = 32 := by rw [hv_size, hu32]
  have ic : Hid ((Tryd.prog.info? 30).map (·.size) = some (hv h).toList.length) := by show _ = _; rw [info_h32, Array.length_toList, hhs]
  have HMk : Hid (∀ W : World, HsAt (W.alloc (.cells (hv (abL nodeL (L.drop m) h)) 30)) (.slice (some ⟨W.heap.size, 0, none⟩) 1 1) [abL nodeL (L.drop m) h]) := fun W => hs_made rfl hu32
  have hwm : wrap64 ((L.length : Int) - (t : Int)) = (m : Int) := by unfold wrap64; omega
  have HWm : Hid (wrap64 (m : Int) = (m : Int)) := by show _ = _; unfold wrap64; omega
  have HB1 : Hid (But b w w1) := But.of_below bw1
  have HX1 : Hid (But b w1 w1) := But.refl b w1
  have hb1' : Hid (w1.heap[b]? = some (.cells (frC (.slice a L.length c) n) 55 (0, 0))) := hb1
  have hmL : (m : Int) ≤ (L.length : Int) := by omega
  have hmc : (m : Int) ≤ (c : Int) := by omega
  have hLc : (L.length : Int) ≤ (c : Int) := by omega
  have hm0 : (0 : Int) ≤ (m : Int) := by omega
  have hLm : L.length - m = t := by omega
  have hmn : m ≤ L.length := by omega
  have hmc2 : m ≤ c := by omega
  have hsb : w.heap.size ≤ w1.heap.size := by omega
  clear hb hL hT hL1 hT1 g1 bw1 hh hpl hb1 ht hlen hs1 hu32 hm hLm
  rw [hplen]
  generalize L.length = q at *
  generalize hU : hv (abL nodeL (L.drop m) h) = U at *
  generalize hX : hv h = X at *
  have hbld := build_hash U hUs
  rw [zero_h32] at hbld
  cases a with
  | none =>
    go_enter Tryd.func28, Tryd.ntmps28
    go_upto_region 2 with fail
    have hp : ∃ p, w.heap.size = p := ⟨_, rfl⟩
    obtain ⟨p, hp⟩ := hp
    rw [hp] at HS hsb ⊢
    refine wp_region_held (S := But b w1) (by kernel_rfl) ?_
    change wpAnyH _ _ _ _ _ _ _ _ (World.drew _)
    have HX : But b w1 w1.drew := HX1.out.drew
    have hbx : w1.drew.heap[b]? = some (Obj.cells _ 55 (0, 0)) := hb1'.out
    clear HX1 hb1' hw1 c0
    generalize World.drew _ = x0 at *
    refine wpAnyH_take (i := 0) (v := .pointer (some ⟨b, 0, none⟩)) rfl (by kernel_rfl) (by kernel_rfl) (by kernel_rfl) (fun _ _ _ h => h) (Or.inl ⟨by rfl, by intro w9 _; go_simp⟩) HX ?_
    simp only [List.getElem_toArray, List.getElem_cons_succ, List.getElem_cons_zero, Act.put, List.setIfInBounds_toArray, List.set_cons_zero, List.set_cons_succ]
    refine wpAnyH_take (i := 1) (v := .pointer (some ⟨b, 0, none⟩)) rfl (by kernel_rfl) (by kernel_rfl) (by kernel_rfl) (fun _ _ _ h => h) (Or.inl ⟨by rfl, by intro w9 _; go_simp⟩) HX ?_
    simp only [List.getElem_toArray, List.getElem_cons_succ, List.getElem_cons_zero, Act.put, List.setIfInBounds_toArray, List.set_cons_zero, List.set_cons_succ]
    refine wpAnyH_take (i := 2) (v := .pointer (some ⟨b, 0, none⟩)) rfl (by kernel_rfl) (by kernel_rfl) (by kernel_rfl) (fun _ _ _ h => h) (Or.inl ⟨by rfl, by intro w9 _; go_simp⟩) HX ?_
    simp only [List.getElem_toArray, List.getElem_cons_succ, List.getElem_cons_zero, Act.put, List.setIfInBounds_toArray, List.set_cons_zero, List.set_cons_succ]
    refine wpAnyH_take (i := 3) (v := .pointer (some ⟨b, 0, none⟩)) rfl (by kernel_rfl) (by kernel_rfl) (by kernel_rfl) (fun _ _ _ h => h) (Or.inl ⟨by rfl, by intro w9 _; go_simp⟩) HX ?_
    simp only [List.getElem_toArray, List.getElem_cons_succ, List.getElem_cons_zero, Act.put, List.setIfInBounds_toArray, List.set_cons_zero, List.set_cons_succ]
    refine wpAnyH_take (i := 5) (v := .int .i64 (m : Int)) rfl (by kernel_rfl) (by kernel_rfl) (by kernel_rfl) (fun _ _ _ h => h) (Or.inl ⟨by rfl, by intro w9 _; go_simp⟩) HX ?_
    simp only [List.getElem_toArray, List.getElem_cons_succ, List.getElem_cons_zero, Act.put, List.setIfInBounds_toArray, List.set_cons_zero, List.set_cons_succ]
    refine wpAnyH_take (i := 7) (v := .pointer (some ⟨b, 0, none⟩)) rfl (by kernel_rfl) (by kernel_rfl) (by kernel_rfl) (fun _ _ _ h => h) (Or.inl ⟨by rfl, by intro w9 _; go_simp⟩) HX ?_
    simp only [List.getElem_toArray, List.getElem_cons_succ, List.getElem_cons_zero, Act.put, List.setIfInBounds_toArray, List.set_cons_zero, List.set_cons_succ]
    refine wpAnyH_take (i := 8) (v := .pointer (some ⟨b, 0, none⟩)) rfl (by kernel_rfl) (by kernel_rfl) (by kernel_rfl) (fun _ _ _ h => h) (Or.inl ⟨by rfl, by intro w9 _; go_simp⟩) HX ?_
    simp only [List.getElem_toArray, List.getElem_cons_succ, List.getElem_cons_zero, Act.put, List.setIfInBounds_toArray, List.set_cons_zero, List.set_cons_succ]
    refine wpAnyH_take (i := 9) (v := .pointer (some ⟨b, 0, none⟩)) rfl (by kernel_rfl) (by kernel_rfl) (by kernel_rfl) (fun _ _ _ h => h) (Or.inl ⟨by rfl, by intro w9 _; go_simp⟩) HX ?_
    simp only [List.getElem_toArray, List.getElem_cons_succ, List.getElem_cons_zero, Act.put, List.setIfInBounds_toArray, List.set_cons_zero, List.set_cons_succ]
    refine wpAnyH_take (i := 11) (v := .int .i64 (m : Int)) rfl (by kernel_rfl) (by kernel_rfl) (by kernel_rfl) (fun _ _ _ h => h) (Or.inl ⟨by rfl, by intro w9 _; go_simp⟩) HX ?_
    simp only [List.getElem_toArray, List.getElem_cons_succ, List.getElem_cons_zero, Act.put, List.setIfInBounds_toArray, List.set_cons_zero, List.set_cons_succ]
    refine wpAnyH_take (i := 13) (v := .agg X) rfl (by kernel_rfl) (by kernel_rfl) (by kernel_rfl) (fun _ _ _ h => h) (yieldsIf_load_mid (by rfl) 30 _ rfl p 0 rfl X.toList _ (fun w' h => (HS.out w' h).2.2) Tryd.underlying30 rfl ic.out) HX ?_
    simp only [List.getElem_toArray, List.getElem_cons_succ, List.getElem_cons_zero, Act.put, List.setIfInBounds_toArray, List.set_cons_zero, List.set_cons_succ]
    refine wpAnyH_ready (rs := [4, 10]) (by kernel_rfl) (by simp) (AllReadyH.cons (by simp only [List.getElem?_toArray, List.getElem?_cons_succ, List.getElem?_cons_zero]; rfl) (fun K hK => ?_) (AllReadyH.cons (by simp only [List.getElem?_toArray, List.getElem?_cons_succ, List.getElem?_cons_zero]; rfl) (fun K hK => ?_) AllReadyH.nil))
    · refine step_want (by rfl) ?_
      have c9 := (fcells hbx).1
      go_simp
      clear c9
      refine hK.out _ _ HX (fun _ => ?_)
      clear hK K
      try simp only [List.getElem_toArray, List.getElem_cons_succ, List.getElem_cons_zero, Act.put, List.setIfInBounds_toArray, List.set_cons_zero, List.set_cons_succ]
      refine wpAnyH_take (i := 6) (v := .slice none m c) rfl (by kernel_rfl) (by kernel_rfl) (by kernel_rfl) (fun _ _ _ h => h) (Or.inl ⟨by rfl, by intro w9 _; go_simp⟩) HX ?_
      simp only [List.getElem_toArray, List.getElem_cons_succ, List.getElem_cons_zero, Act.put, List.setIfInBounds_toArray, List.set_cons_zero, List.set_cons_succ]
      refine wpAnyH_ready (rs := [10]) (by kernel_rfl) (by simp) (AllReadyH.cons (by simp only [List.getElem?_toArray, List.getElem?_cons_succ, List.getElem?_cons_zero]; rfl) (fun K hK => ?_) AllReadyH.nil)
      refine step_want (by rfl) ?_
      have c9 := (fcells hbx).1
      go_simp
      clear c9
      refine hK.out _ _ HX (fun _ => ?_)
      clear hK K
      try simp only [List.getElem_toArray, List.getElem_cons_succ, List.getElem_cons_zero, Act.put, List.setIfInBounds_toArray, List.set_cons_zero, List.set_cons_succ]
      refine wpAnyH_take (i := 12) (v := .slice none (q - m) (c - m)) rfl (by kernel_rfl) (by kernel_rfl) (by kernel_rfl) (fun _ _ _ h => h) (Or.inl ⟨by rfl, by intro w9 _; go_simp⟩) HX ?_
      simp only [List.getElem_toArray, List.getElem_cons_succ, List.getElem_cons_zero, Act.put, List.setIfInBounds_toArray, List.set_cons_zero, List.set_cons_succ]
      refine wpAnyH_ready (rs := [14]) (by kernel_rfl) (by simp) (AllReadyH.cons (by simp only [List.getElem?_toArray, List.getElem?_cons_succ, List.getElem?_cons_zero]; rfl) (fun K hK => ?_) AllReadyH.nil)
      refine step_want (by rfl) ?_
      go_simp
      refine (HAb.out _ x0 (HRn.out x0 rfl) (HS.out _ HX).2.1).mono ?_
      rintro e x1 ⟨rfl, bc⟩
      have HX : But b w1 x1 := HX.trans (But.of_below bc)
      have hbx := (bc.block _ (Array.getElem?_eq_some_iff.1 hbx).1).trans hbx
      clear bc
      refine hK.out _ _ HX (fun _ => ?_)
      clear hK K
      try simp only [List.getElem_toArray, List.getElem_cons_succ, List.getElem_cons_zero, Act.put, List.setIfInBounds_toArray, List.set_cons_zero, List.set_cons_succ]
      refine wpAnyH_ready (rs := [15]) (by kernel_rfl) (by simp) (AllReadyH.cons (by simp only [List.getElem?_toArray, List.getElem?_cons_succ, List.getElem?_cons_zero]; rfl) (fun K hK => ?_) AllReadyH.nil)
      refine step_want (by rfl) ?_
      go_simp
      have hN := HMk.out x1
      obtain ⟨x2, hw⟩ : ∃ x2, x1.alloc (.cells U 30) = x2 := ⟨_, rfl⟩
      have bc : Below x1.heap.size x1 x2 := by rw [← hw]; exact (Below.refl _ _).alloc (Nat.le_refl _) _
      obtain ⟨e2, he0⟩ : ∃ e2, x1.heap.size = e2 := ⟨_, rfl⟩
      rw [hw, he0] at hN
      rw [hw, he0]
      have HX : But b w1 x2 := HX.trans (But.of_below bc)
      have hbx := (bc.block _ (Array.getElem?_eq_some_iff.1 hbx).1).trans hbx
      clear bc hw he0
      refine hK.out _ _ HX (fun _ => ?_)
      clear hK K
      try simp only [List.getElem_toArray, List.getElem_cons_succ, List.getElem_cons_zero, Act.put, List.setIfInBounds_toArray, List.set_cons_zero, List.set_cons_succ]
      refine wpAnyH_ready (rs := [16]) (by kernel_rfl) (by simp) (AllReadyH.cons (by simp only [List.getElem?_toArray, List.getElem?_cons_succ, List.getElem?_cons_zero]; rfl) (fun K hK => ?_) AllReadyH.nil)
      refine step_want (by rfl) ?_
      go_simp
      obtain ⟨x3, hw⟩ : ∃ x3, x2.alloc (.cells #[.slice none m c, .slice (some ⟨e2, 0, none⟩) 1 1] 22) = x3 := ⟨_, rfl⟩
      have bc : Below x2.heap.size x2 x3 := by rw [← hw]; exact (Below.refl _ _).alloc (Nat.le_refl _) _
      have hgd := heap_alloc_last x2 (.cells #[.slice none m c, .slice (some ⟨e2, 0, none⟩) 1 1] 22)
      obtain ⟨e3, he0⟩ : ∃ e3, x2.heap.size = e3 := ⟨_, rfl⟩
      rw [hw, he0] at hgd
      rw [hw, he0]
      have HX : But b w1 x3 := HX.trans (But.of_below bc)
      have hbx := (bc.block _ (Array.getElem?_eq_some_iff.1 hbx).1).trans hbx
      have hN := hN.below bc
      clear bc hw he0
      refine hK.out _ _ HX (fun _ => ?_)
      clear hK K
      try simp only [List.getElem_toArray, List.getElem_cons_succ, List.getElem_cons_zero, Act.put, List.setIfInBounds_toArray, List.set_cons_zero, List.set_cons_succ]
      refine wpAnyH_ready (rs := [17]) (by kernel_rfl) (by simp) (AllReadyH.cons (by simp only [List.getElem?_toArray, List.getElem?_cons_succ, List.getElem?_cons_zero]; rfl) (fun K hK => ?_) AllReadyH.nil)
      refine step_want (by rfl) ?_
      go_simp
      refine (HCo.out x3 e3 (some ⟨e2, 0, none⟩) 1 (by rw [cell_of_row _ _ _ _ _ _ hgd]; rfl) (by rw [cell_of_row _ _ _ _ _ _ hgd]; rfl) (HTk.out _ (HS.out _ HX).1) hN).mono ?_
      rintro e x4 ⟨xa, xc, rfl, hM⟩
      have hsx : p ≤ x3.heap.size := Nat.le_trans hsb HX.size
      have bc := hM.below
      have HX : But b w1 x4 := HX.trans (But.of_below bc)
      have hbx := (bc.block _ (Array.getElem?_eq_some_iff.1 hbx).1).trans hbx
      clear bc hN hgd
      refine hK.out _ _ HX (fun _ => ?_)
      clear hK K
      try simp only [List.getElem_toArray, List.getElem_cons_succ, List.getElem_cons_zero, Act.put, List.setIfInBounds_toArray, List.set_cons_zero, List.set_cons_succ]
      refine wpAnyH_take (i := 18) (v := .pointer (some ⟨b, 0, none⟩)) rfl (by kernel_rfl) (by kernel_rfl) (by kernel_rfl) (fun _ _ _ h => h) (Or.inl ⟨by rfl, by intro w9 _; go_simp⟩) HX ?_
      simp only [List.getElem_toArray, List.getElem_cons_succ, List.getElem_cons_zero, Act.put, List.setIfInBounds_toArray, List.set_cons_zero, List.set_cons_succ]
      refine wpAnyH_take (i := 19) (v := .pointer (some ⟨b, 0, none⟩)) rfl (by kernel_rfl) (by kernel_rfl) (by kernel_rfl) (fun _ _ _ h => h) (Or.inl ⟨by rfl, by intro w9 _; go_simp⟩) HX ?_
      simp only [List.getElem_toArray, List.getElem_cons_succ, List.getElem_cons_zero, Act.put, List.setIfInBounds_toArray, List.set_cons_zero, List.set_cons_succ]
      refine wpAnyH_ready (rs := [20]) (by kernel_rfl) (by simp) (AllReadyH.cons (by simp only [List.getElem?_toArray, List.getElem?_cons_succ, List.getElem?_cons_zero]; rfl) (fun K hK => ?_) AllReadyH.nil)
      refine step_want (by rfl) ?_
      have c9 := (fcells hbx).1
      have f9 : x4.frozen? ⟨b, 0, none⟩ = false := by rw [World.frozen?, hbx]; rfl
      have hQ := hM.at_
      have hOw := hM.own
      have hTy : TyA _ xa := Mh.ty hM
      obtain ⟨a', c', hsl, hxc⟩ := hM.slice
      rw [hplen] at hsl hxc
      obtain ⟨rfl, -, rfl⟩ := Value.slice.inj hsl
      have HX : But b w1 (x4.setCell ⟨b, 0, none⟩ (.slice xa (m + 1) xc)) := HX.setCell _
      have hby := heap_set_same (o := 0) (v := .slice xa (m + 1) xc) hbx
      have hQ : HsAt (x4.setCell ⟨b, 0, none⟩ (.slice xa (m + 1) xc)) (.slice xa (m + 1) xc) (puL nodeL t L h) := hQ.kept fun ad ha _ => by
        obtain ⟨g, o, e, hg⟩ := hOw ad ha
        subst e
        exact Below.heap_setCell _ _ _ _ (by simp only; omega)
      have hTy : TyA (x4.setCell ⟨b, 0, none⟩ (.slice xa (m + 1) xc)) xa := fun ad ha => by
        obtain ⟨g, o, e, hg⟩ := hOw ad ha
        obtain ⟨cur, h9⟩ := hTy ad ha
        subst e
        exact ⟨cur, (Below.heap_setCell _ _ _ _ (by simp only; omega)).trans h9⟩
      have hOw : OwnA p xa := fun ad ha => by
        obtain ⟨g, o, e, hg⟩ := hOw ad ha
        exact ⟨g, o, e, by omega⟩
      clear hM hsl hbx
      go_simp
      generalize x4.setCell ⟨b, 0, none⟩ (.slice xa (m + 1) xc) = x5 at *
      refine hK.out _ _ HX (fun _ => ?_)
      clear hK K
      try simp only [List.getElem_toArray, List.getElem_cons_succ, List.getElem_cons_zero, Act.put, List.setIfInBounds_toArray, List.set_cons_zero, List.set_cons_succ]
      refine wpAnyH_done (by kernel_rfl) ?_ _
      have HF : Hid (But b w x5) := HB1.out.trans HX
      have HQ : Hid (∃ a' c', x5.heap[b]? = some (.cells (frC (.slice a' (m + 1) c') n) 55 (0, 0)) ∧ HsAt x5 (.slice a' (m + 1) c') (puL nodeL t L h) ∧ m + 1 ≤ c' ∧ OwnA p a' ∧ TyA x5 a') := ⟨xa, xc, hby, hQ, hxc, hOw, hTy⟩
      clear HX hby hQ hOw hTy
      go_wp2
      all_goals (go_end0; exact ⟨⟨_, rfl⟩, HQ.out, HF.out⟩)
    · refine step_want (by rfl) ?_
      have c9 := (fcells hbx).1
      go_simp
      clear c9
      refine hK.out _ _ HX (fun _ => ?_)
      clear hK K
      try simp only [List.getElem_toArray, List.getElem_cons_succ, List.getElem_cons_zero, Act.put, List.setIfInBounds_toArray, List.set_cons_zero, List.set_cons_succ]
      refine wpAnyH_take (i := 12) (v := .slice none (q - m) (c - m)) rfl (by kernel_rfl) (by kernel_rfl) (by kernel_rfl) (fun _ _ _ h => h) (Or.inl ⟨by rfl, by intro w9 _; go_simp⟩) HX ?_
      simp only [List.getElem_toArray, List.getElem_cons_succ, List.getElem_cons_zero, Act.put, List.setIfInBounds_toArray, List.set_cons_zero, List.set_cons_succ]
      refine wpAnyH_ready (rs := [4, 14]) (by kernel_rfl) (by simp) (AllReadyH.cons (by simp only [List.getElem?_toArray, List.getElem?_cons_succ, List.getElem?_cons_zero]; rfl) (fun K hK => ?_) (AllReadyH.cons (by simp only [List.getElem?_toArray, List.getElem?_cons_succ, List.getElem?_cons_zero]; rfl) (fun K hK => ?_) AllReadyH.nil))
      · refine step_want (by rfl) ?_
        have c9 := (fcells hbx).1
        go_simp
        clear c9
        refine hK.out _ _ HX (fun _ => ?_)
        clear hK K
        try simp only [List.getElem_toArray, List.getElem_cons_succ, List.getElem_cons_zero, Act.put, List.setIfInBounds_toArray, List.set_cons_zero, List.set_cons_succ]
        refine wpAnyH_take (i := 6) (v := .slice none m c) rfl (by kernel_rfl) (by kernel_rfl) (by kernel_rfl) (fun _ _ _ h => h) (Or.inl ⟨by rfl, by intro w9 _; go_simp⟩) HX ?_
        simp only [List.getElem_toArray, List.getElem_cons_succ, List.getElem_cons_zero, Act.put, List.setIfInBounds_toArray, List.set_cons_zero, List.set_cons_succ]
        refine wpAnyH_ready (rs := [14]) (by kernel_rfl) (by simp) (AllReadyH.cons (by simp only [List.getElem?_toArray, List.getElem?_cons_succ, List.getElem?_cons_zero]; rfl) (fun K hK => ?_) AllReadyH.nil)
        refine step_want (by rfl) ?_
        go_simp
        refine (HAb.out _ x0 (HRn.out x0 rfl) (HS.out _ HX).2.1).mono ?_
        rintro e x1 ⟨rfl, bc⟩
        have HX : But b w1 x1 := HX.trans (But.of_below bc)
        have hbx := (bc.block _ (Array.getElem?_eq_some_iff.1 hbx).1).trans hbx
        clear bc
        refine hK.out _ _ HX (fun _ => ?_)
        clear hK K
        try simp only [List.getElem_toArray, List.getElem_cons_succ, List.getElem_cons_zero, Act.put, List.setIfInBounds_toArray, List.set_cons_zero, List.set_cons_succ]
        refine wpAnyH_ready (rs := [15]) (by kernel_rfl) (by simp) (AllReadyH.cons (by simp only [List.getElem?_toArray, List.getElem?_cons_succ, List.getElem?_cons_zero]; rfl) (fun K hK => ?_) AllReadyH.nil)
        refine step_want (by rfl) ?_
        go_simp
        have hN := HMk.out x1
        obtain ⟨x2, hw⟩ : ∃ x2, x1.alloc (.cells U 30) = x2 := ⟨_, rfl⟩
        have bc : Below x1.heap.size x1 x2 := by rw [← hw]; exact (Below.refl _ _).alloc (Nat.le_refl _) _
        obtain ⟨e2, he0⟩ : ∃ e2, x1.heap.size = e2 := ⟨_, rfl⟩
        rw [hw, he0] at hN
        rw [hw, he0]
        have HX : But b w1 x2 := HX.trans (But.of_below bc)
        have hbx := (bc.block _ (Array.getElem?_eq_some_iff.1 hbx).1).trans hbx
        clear bc hw he0
        refine hK.out _ _ HX (fun _ => ?_)
        clear hK K
        try simp only [List.getElem_toArray, List.getElem_cons_succ, List.getElem_cons_zero, Act.put, List.setIfInBounds_toArray, List.set_cons_zero, List.set_cons_succ]
        refine wpAnyH_ready (rs := [16]) (by kernel_rfl) (by simp) (AllReadyH.cons (by simp only [List.getElem?_toArray, List.getElem?_cons_succ, List.getElem?_cons_zero]; rfl) (fun K hK => ?_) AllReadyH.nil)
        refine step_want (by rfl) ?_
        go_simp
        obtain ⟨x3, hw⟩ : ∃ x3, x2.alloc (.cells #[.slice none m c, .slice (some ⟨e2, 0, none⟩) 1 1] 22) = x3 := ⟨_, rfl⟩
        have bc : Below x2.heap.size x2 x3 := by rw [← hw]; exact (Below.refl _ _).alloc (Nat.le_refl _) _
        have hgd := heap_alloc_last x2 (.cells #[.slice none m c, .slice (some ⟨e2, 0, none⟩) 1 1] 22)
        obtain ⟨e3, he0⟩ : ∃ e3, x2.heap.size = e3 := ⟨_, rfl⟩
        rw [hw, he0] at hgd
        rw [hw, he0]
        have HX : But b w1 x3 := HX.trans (But.of_below bc)
        have hbx := (bc.block _ (Array.getElem?_eq_some_iff.1 hbx).1).trans hbx
        have hN := hN.below bc
        clear bc hw he0
        refine hK.out _ _ HX (fun _ => ?_)
        clear hK K
        try simp only [List.getElem_toArray, List.getElem_cons_succ, List.getElem_cons_zero, Act.put, List.setIfInBounds_toArray, List.set_cons_zero, List.set_cons_succ]
        refine wpAnyH_ready (rs := [17]) (by kernel_rfl) (by simp) (AllReadyH.cons (by simp only [List.getElem?_toArray, List.getElem?_cons_succ, List.getElem?_cons_zero]; rfl) (fun K hK => ?_) AllReadyH.nil)
        refine step_want (by rfl) ?_
        go_simp
        refine (HCo.out x3 e3 (some ⟨e2, 0, none⟩) 1 (by rw [cell_of_row _ _ _ _ _ _ hgd]; rfl) (by rw [cell_of_row _ _ _ _ _ _ hgd]; rfl) (HTk.out _ (HS.out _ HX).1) hN).mono ?_
        rintro e x4 ⟨xa, xc, rfl, hM⟩
        have hsx : p ≤ x3.heap.size := Nat.le_trans hsb HX.size
        have bc := hM.below
        have HX : But b w1 x4 := HX.trans (But.of_below bc)
        have hbx := (bc.block _ (Array.getElem?_eq_some_iff.1 hbx).1).trans hbx
        clear bc hN hgd
        refine hK.out _ _ HX (fun _ => ?_)
        clear hK K
        try simp only [List.getElem_toArray, List.getElem_cons_succ, List.getElem_cons_zero, Act.put, List.setIfInBounds_toArray, List.set_cons_zero, List.set_cons_succ]
        refine wpAnyH_take (i := 18) (v := .pointer (some ⟨b, 0, none⟩)) rfl (by kernel_rfl) (by kernel_rfl) (by kernel_rfl) (fun _ _ _ h => h) (Or.inl ⟨by rfl, by intro w9 _; go_simp⟩) HX ?_
        simp only [List.getElem_toArray, List.getElem_cons_succ, List.getElem_cons_zero, Act.put, List.setIfInBounds_toArray, List.set_cons_zero, List.set_cons_succ]
        refine wpAnyH_take (i := 19) (v := .pointer (some ⟨b, 0, none⟩)) rfl (by kernel_rfl) (by kernel_rfl) (by kernel_rfl) (fun _ _ _ h => h) (Or.inl ⟨by rfl, by intro w9 _; go_simp⟩) HX ?_
        simp only [List.getElem_toArray, List.getElem_cons_succ, List.getElem_cons_zero, Act.put, List.setIfInBounds_toArray, List.set_cons_zero, List.set_cons_succ]
        refine wpAnyH_ready (rs := [20]) (by kernel_rfl) (by simp) (AllReadyH.cons (by simp only [List.getElem?_toArray, List.getElem?_cons_succ, List.getElem?_cons_zero]; rfl) (fun K hK => ?_) AllReadyH.nil)
        refine step_want (by rfl) ?_
        have c9 := (fcells hbx).1
        have f9 : x4.frozen? ⟨b, 0, none⟩ = false := by rw [World.frozen?, hbx]; rfl
        have hQ := hM.at_
        have hOw := hM.own
        have hTy : TyA _ xa := Mh.ty hM
        obtain ⟨a', c', hsl, hxc⟩ := hM.slice
        rw [hplen] at hsl hxc
        obtain ⟨rfl, -, rfl⟩ := Value.slice.inj hsl
        have HX : But b w1 (x4.setCell ⟨b, 0, none⟩ (.slice xa (m + 1) xc)) := HX.setCell _
        have hby := heap_set_same (o := 0) (v := .slice xa (m + 1) xc) hbx
        have hQ : HsAt (x4.setCell ⟨b, 0, none⟩ (.slice xa (m + 1) xc)) (.slice xa (m + 1) xc) (puL nodeL t L h) := hQ.kept fun ad ha _ => by
          obtain ⟨g, o, e, hg⟩ := hOw ad ha
          subst e
          exact Below.heap_setCell _ _ _ _ (by simp only; omega)
        have hTy : TyA (x4.setCell ⟨b, 0, none⟩ (.slice xa (m + 1) xc)) xa := fun ad ha => by
          obtain ⟨g, o, e, hg⟩ := hOw ad ha
          obtain ⟨cur, h9⟩ := hTy ad ha
          subst e
          exact ⟨cur, (Below.heap_setCell _ _ _ _ (by simp only; omega)).trans h9⟩
        have hOw : OwnA p xa := fun ad ha => by
          obtain ⟨g, o, e, hg⟩ := hOw ad ha
          exact ⟨g, o, e, by omega⟩
        clear hM hsl hbx
        go_simp
        generalize x4.setCell ⟨b, 0, none⟩ (.slice xa (m + 1) xc) = x5 at *
        refine hK.out _ _ HX (fun _ => ?_)
        clear hK K
        try simp only [List.getElem_toArray, List.getElem_cons_succ, List.getElem_cons_zero, Act.put, List.setIfInBounds_toArray, List.set_cons_zero, List.set_cons_succ]
        refine wpAnyH_done (by kernel_rfl) ?_ _
        have HF : Hid (But b w x5) := HB1.out.trans HX
        have HQ : Hid (∃ a' c', x5.heap[b]? = some (.cells (frC (.slice a' (m + 1) c') n) 55 (0, 0)) ∧ HsAt x5 (.slice a' (m + 1) c') (puL nodeL t L h) ∧ m + 1 ≤ c' ∧ OwnA p a' ∧ TyA x5 a') := ⟨xa, xc, hby, hQ, hxc, hOw, hTy⟩
        clear HX hby hQ hOw hTy
        go_wp2
        all_goals (go_end0; exact ⟨⟨_, rfl⟩, HQ.out, HF.out⟩)
      · refine step_want (by rfl) ?_
        go_simp
        refine (HAb.out _ x0 (HRn.out x0 rfl) (HS.out _ HX).2.1).mono ?_
        rintro e x1 ⟨rfl, bc⟩
        have HX : But b w1 x1 := HX.trans (But.of_below bc)
        have hbx := (bc.block _ (Array.getElem?_eq_some_iff.1 hbx).1).trans hbx
        clear bc
        refine hK.out _ _ HX (fun _ => ?_)
        clear hK K
        try simp only [List.getElem_toArray, List.getElem_cons_succ, List.getElem_cons_zero, Act.put, List.setIfInBounds_toArray, List.set_cons_zero, List.set_cons_succ]
        refine wpAnyH_ready (rs := [4, 15]) (by kernel_rfl) (by simp) (AllReadyH.cons (by simp only [List.getElem?_toArray, List.getElem?_cons_succ, List.getElem?_cons_zero]; rfl) (fun K hK => ?_) (AllReadyH.cons (by simp only [List.getElem?_toArray, List.getElem?_cons_succ, List.getElem?_cons_zero]; rfl) (fun K hK => ?_) AllReadyH.nil))
        · refine step_want (by rfl) ?_
          have c9 := (fcells hbx).1
          go_simp
          clear c9
          refine hK.out _ _ HX (fun _ => ?_)
          clear hK K
          try simp only [List.getElem_toArray, List.getElem_cons_succ, List.getElem_cons_zero, Act.put, List.setIfInBounds_toArray, List.set_cons_zero, List.set_cons_succ]
          refine wpAnyH_take (i := 6) (v := .slice none m c) rfl (by kernel_rfl) (by kernel_rfl) (by kernel_rfl) (fun _ _ _ h => h) (Or.inl ⟨by rfl, by intro w9 _; go_simp⟩) HX ?_
          simp only [List.getElem_toArray, List.getElem_cons_succ, List.getElem_cons_zero, Act.put, List.setIfInBounds_toArray, List.set_cons_zero, List.set_cons_succ]
          refine wpAnyH_ready (rs := [15]) (by kernel_rfl) (by simp) (AllReadyH.cons (by simp only [List.getElem?_toArray, List.getElem?_cons_succ, List.getElem?_cons_zero]; rfl) (fun K hK => ?_) AllReadyH.nil)
          refine step_want (by rfl) ?_
          go_simp
          have hN := HMk.out x1
          obtain ⟨x2, hw⟩ : ∃ x2, x1.alloc (.cells U 30) = x2 := ⟨_, rfl⟩
          have bc : Below x1.heap.size x1 x2 := by rw [← hw]; exact (Below.refl _ _).alloc (Nat.le_refl _) _
          obtain ⟨e2, he0⟩ : ∃ e2, x1.heap.size = e2 := ⟨_, rfl⟩
          rw [hw, he0] at hN
          rw [hw, he0]
          have HX : But b w1 x2 := HX.trans (But.of_below bc)
          have hbx := (bc.block _ (Array.getElem?_eq_some_iff.1 hbx).1).trans hbx
          clear bc hw he0
          refine hK.out _ _ HX (fun _ => ?_)
          clear hK K
          try simp only [List.getElem_toArray, List.getElem_cons_succ, List.getElem_cons_zero, Act.put, List.setIfInBounds_toArray, List.set_cons_zero, List.set_cons_succ]
          refine wpAnyH_ready (rs := [16]) (by kernel_rfl) (by simp) (AllReadyH.cons (by simp only [List.getElem?_toArray, List.getElem?_cons_succ, List.getElem?_cons_zero]; rfl) (fun K hK => ?_) AllReadyH.nil)
          refine step_want (by rfl) ?_
          go_simp
          obtain ⟨x3, hw⟩ : ∃ x3, x2.alloc (.cells #[.slice none m c, .slice (some ⟨e2, 0, none⟩) 1 1] 22) = x3 := ⟨_, rfl⟩
          have bc : Below x2.heap.size x2 x3 := by rw [← hw]; exact (Below.refl _ _).alloc (Nat.le_refl _) _
          have hgd := heap_alloc_last x2 (.cells #[.slice none m c, .slice (some ⟨e2, 0, none⟩) 1 1] 22)
          obtain ⟨e3, he0⟩ : ∃ e3, x2.heap.size = e3 := ⟨_, rfl⟩
          rw [hw, he0] at hgd
          rw [hw, he0]
          have HX : But b w1 x3 := HX.trans (But.of_below bc)
          have hbx := (bc.block _ (Array.getElem?_eq_some_iff.1 hbx).1).trans hbx
          have hN := hN.below bc
          clear bc hw he0
          refine hK.out _ _ HX (fun _ => ?_)
          clear hK K
          try simp only [List.getElem_toArray, List.getElem_cons_succ, List.getElem_cons_zero, Act.put, List.setIfInBounds_toArray, List.set_cons_zero, List.set_cons_succ]
          refine wpAnyH_ready (rs := [17]) (by kernel_rfl) (by simp) (AllReadyH.cons (by simp only [List.getElem?_toArray, List.getElem?_cons_succ, List.getElem?_cons_zero]; rfl) (fun K hK => ?_) AllReadyH.nil)
          refine step_want (by rfl) ?_
          go_simp
          refine (HCo.out x3 e3 (some ⟨e2, 0, none⟩) 1 (by rw [cell_of_row _ _ _ _ _ _ hgd]; rfl) (by rw [cell_of_row _ _ _ _ _ _ hgd]; rfl) (HTk.out _ (HS.out _ HX).1) hN).mono ?_
          rintro e x4 ⟨xa, xc, rfl, hM⟩
          have hsx : p ≤ x3.heap.size := Nat.le_trans hsb HX.size
          have bc := hM.below
          have HX : But b w1 x4 := HX.trans (But.of_below bc)
          have hbx := (bc.block _ (Array.getElem?_eq_some_iff.1 hbx).1).trans hbx
          clear bc hN hgd
          refine hK.out _ _ HX (fun _ => ?_)
          clear hK K
          try simp only [List.getElem_toArray, List.getElem_cons_succ, List.getElem_cons_zero, Act.put, List.setIfInBounds_toArray, List.set_cons_zero, List.set_cons_succ]
          refine wpAnyH_take (i := 18) (v := .pointer (some ⟨b, 0, none⟩)) rfl (by kernel_rfl) (by kernel_rfl) (by kernel_rfl) (fun _ _ _ h => h) (Or.inl ⟨by rfl, by intro w9 _; go_simp⟩) HX ?_
          simp only [List.getElem_toArray, List.getElem_cons_succ, List.getElem_cons_zero, Act.put, List.setIfInBounds_toArray, List.set_cons_zero, List.set_cons_succ]
          refine wpAnyH_take (i := 19) (v := .pointer (some ⟨b, 0, none⟩)) rfl (by kernel_rfl) (by kernel_rfl) (by kernel_rfl) (fun _ _ _ h => h) (Or.inl ⟨by rfl, by intro w9 _; go_simp⟩) HX ?_
          simp only [List.getElem_toArray, List.getElem_cons_succ, List.getElem_cons_zero, Act.put, List.setIfInBounds_toArray, List.set_cons_zero, List.set_cons_succ]
          refine wpAnyH_ready (rs := [20]) (by kernel_rfl) (by simp) (AllReadyH.cons (by simp only [List.getElem?_toArray, List.getElem?_cons_succ, List.getElem?_cons_zero]; rfl) (fun K hK => ?_) AllReadyH.nil)
          refine step_want (by rfl) ?_
          have c9 := (fcells hbx).1
          have f9 : x4.frozen? ⟨b, 0, none⟩ = false := by rw [World.frozen?, hbx]; rfl
          have hQ := hM.at_
          have hOw := hM.own
          have hTy : TyA _ xa := Mh.ty hM
          obtain ⟨a', c', hsl, hxc⟩ := hM.slice
          rw [hplen] at hsl hxc
          obtain ⟨rfl, -, rfl⟩ := Value.slice.inj hsl
          have HX : But b w1 (x4.setCell ⟨b, 0, none⟩ (.slice xa (m + 1) xc)) := HX.setCell _
          have hby := heap_set_same (o := 0) (v := .slice xa (m + 1) xc) hbx
          have hQ : HsAt (x4.setCell ⟨b, 0, none⟩ (.slice xa (m + 1) xc)) (.slice xa (m + 1) xc) (puL nodeL t L h) := hQ.kept fun ad ha _ => by
            obtain ⟨g, o, e, hg⟩ := hOw ad ha
            subst e
            exact Below.heap_setCell _ _ _ _ (by simp only; omega)
          have hTy : TyA (x4.setCell ⟨b, 0, none⟩ (.slice xa (m + 1) xc)) xa := fun ad ha => by
            obtain ⟨g, o, e, hg⟩ := hOw ad ha
            obtain ⟨cur, h9⟩ := hTy ad ha
            subst e
            exact ⟨cur, (Below.heap_setCell _ _ _ _ (by simp only; omega)).trans h9⟩
          have hOw : OwnA p xa := fun ad ha => by
            obtain ⟨g, o, e, hg⟩ := hOw ad ha
            exact ⟨g, o, e, by omega⟩
          clear hM hsl hbx
          go_simp
          generalize x4.setCell ⟨b, 0, none⟩ (.slice xa (m + 1) xc) = x5 at *
          refine hK.out _ _ HX (fun _ => ?_)
          clear hK K
          try simp only [List.getElem_toArray, List.getElem_cons_succ, List.getElem_cons_zero, Act.put, List.setIfInBounds_toArray, List.set_cons_zero, List.set_cons_succ]
          refine wpAnyH_done (by kernel_rfl) ?_ _
          have HF : Hid (But b w x5) := HB1.out.trans HX
          have HQ : Hid (∃ a' c', x5.heap[b]? = some (.cells (frC (.slice a' (m + 1) c') n) 55 (0, 0)) ∧ HsAt x5 (.slice a' (m + 1) c') (puL nodeL t L h) ∧ m + 1 ≤ c' ∧ OwnA p a' ∧ TyA x5 a') := ⟨xa, xc, hby, hQ, hxc, hOw, hTy⟩
          clear HX hby hQ hOw hTy
          go_wp2
          all_goals (go_end0; exact ⟨⟨_, rfl⟩, HQ.out, HF.out⟩)
        · refine step_want (by rfl) ?_
          go_simp
          have hN := HMk.out x1
          obtain ⟨x2, hw⟩ : ∃ x2, x1.alloc (.cells U 30) = x2 := ⟨_, rfl⟩
          have bc : Below x1.heap.size x1 x2 := by rw [← hw]; exact (Below.refl _ _).alloc (Nat.le_refl _) _
          obtain ⟨e2, he0⟩ : ∃ e2, x1.heap.size = e2 := ⟨_, rfl⟩
          rw [hw, he0] at hN
          rw [hw, he0]
          have HX : But b w1 x2 := HX.trans (But.of_below bc)
          have hbx := (bc.block _ (Array.getElem?_eq_some_iff.1 hbx).1).trans hbx
          clear bc hw he0
          refine hK.out _ _ HX (fun _ => ?_)
          clear hK K
          try simp only [List.getElem_toArray, List.getElem_cons_succ, List.getElem_cons_zero, Act.put, List.setIfInBounds_toArray, List.set_cons_zero, List.set_cons_succ]
          refine wpAnyH_ready (rs := [4]) (by kernel_rfl) (by simp) (AllReadyH.cons (by simp only [List.getElem?_toArray, List.getElem?_cons_succ, List.getElem?_cons_zero]; rfl) (fun K hK => ?_) AllReadyH.nil)
          refine step_want (by rfl) ?_
          have c9 := (fcells hbx).1
          go_simp
          clear c9
          refine hK.out _ _ HX (fun _ => ?_)
          clear hK K
          try simp only [List.getElem_toArray, List.getElem_cons_succ, List.getElem_cons_zero, Act.put, List.setIfInBounds_toArray, List.set_cons_zero, List.set_cons_succ]
          refine wpAnyH_take (i := 6) (v := .slice none m c) rfl (by kernel_rfl) (by kernel_rfl) (by kernel_rfl) (fun _ _ _ h => h) (Or.inl ⟨by rfl, by intro w9 _; go_simp⟩) HX ?_
          simp only [List.getElem_toArray, List.getElem_cons_succ, List.getElem_cons_zero, Act.put, List.setIfInBounds_toArray, List.set_cons_zero, List.set_cons_succ]
          refine wpAnyH_ready (rs := [16]) (by kernel_rfl) (by simp) (AllReadyH.cons (by simp only [List.getElem?_toArray, List.getElem?_cons_succ, List.getElem?_cons_zero]; rfl) (fun K hK => ?_) AllReadyH.nil)
          refine step_want (by rfl) ?_
          go_simp
          obtain ⟨x3, hw⟩ : ∃ x3, x2.alloc (.cells #[.slice none m c, .slice (some ⟨e2, 0, none⟩) 1 1] 22) = x3 := ⟨_, rfl⟩
          have bc : Below x2.heap.size x2 x3 := by rw [← hw]; exact (Below.refl _ _).alloc (Nat.le_refl _) _
          have hgd := heap_alloc_last x2 (.cells #[.slice none m c, .slice (some ⟨e2, 0, none⟩) 1 1] 22)
          obtain ⟨e3, he0⟩ : ∃ e3, x2.heap.size = e3 := ⟨_, rfl⟩
          rw [hw, he0] at hgd
          rw [hw, he0]
          have HX : But b w1 x3 := HX.trans (But.of_below bc)
          have hbx := (bc.block _ (Array.getElem?_eq_some_iff.1 hbx).1).trans hbx
          have hN := hN.below bc
          clear bc hw he0
          refine hK.out _ _ HX (fun _ => ?_)
          clear hK K
          try simp only [List.getElem_toArray, List.getElem_cons_succ, List.getElem_cons_zero, Act.put, List.setIfInBounds_toArray, List.set_cons_zero, List.set_cons_succ]
          refine wpAnyH_ready (rs := [17]) (by kernel_rfl) (by simp) (AllReadyH.cons (by simp only [List.getElem?_toArray, List.getElem?_cons_succ, List.getElem?_cons_zero]; rfl) (fun K hK => ?_) AllReadyH.nil)
          refine step_want (by rfl) ?_
          go_simp
          refine (HCo.out x3 e3 (some ⟨e2, 0, none⟩) 1 (by rw [cell_of_row _ _ _ _ _ _ hgd]; rfl) (by rw [cell_of_row _ _ _ _ _ _ hgd]; rfl) (HTk.out _ (HS.out _ HX).1) hN).mono ?_
          rintro e x4 ⟨xa, xc, rfl, hM⟩
          have hsx : p ≤ x3.heap.size := Nat.le_trans hsb HX.size
          have bc := hM.below
          have HX : But b w1 x4 := HX.trans (But.of_below bc)
          have hbx := (bc.block _ (Array.getElem?_eq_some_iff.1 hbx).1).trans hbx
          clear bc hN hgd
          refine hK.out _ _ HX (fun _ => ?_)
          clear hK K
          try simp only [List.getElem_toArray, List.getElem_cons_succ, List.getElem_cons_zero, Act.put, List.setIfInBounds_toArray, List.set_cons_zero, List.set_cons_succ]
          refine wpAnyH_take (i := 18) (v := .pointer (some ⟨b, 0, none⟩)) rfl (by kernel_rfl) (by kernel_rfl) (by kernel_rfl) (fun _ _ _ h => h) (Or.inl ⟨by rfl, by intro w9 _; go_simp⟩) HX ?_
          simp only [List.getElem_toArray, List.getElem_cons_succ, List.getElem_cons_zero, Act.put, List.setIfInBounds_toArray, List.set_cons_zero, List.set_cons_succ]
          refine wpAnyH_take (i := 19) (v := .pointer (some ⟨b, 0, none⟩)) rfl (by kernel_rfl) (by kernel_rfl) (by kernel_rfl) (fun _ _ _ h => h) (Or.inl ⟨by rfl, by intro w9 _; go_simp⟩) HX ?_
          simp only [List.getElem_toArray, List.getElem_cons_succ, List.getElem_cons_zero, Act.put, List.setIfInBounds_toArray, List.set_cons_zero, List.set_cons_succ]
          refine wpAnyH_ready (rs := [20]) (by kernel_rfl) (by simp) (AllReadyH.cons (by simp only [List.getElem?_toArray, List.getElem?_cons_succ, List.getElem?_cons_zero]; rfl) (fun K hK => ?_) AllReadyH.nil)
          refine step_want (by rfl) ?_
          have c9 := (fcells hbx).1
          have f9 : x4.frozen? ⟨b, 0, none⟩ = false := by rw [World.frozen?, hbx]; rfl
          have hQ := hM.at_
          have hOw := hM.own
          have hTy : TyA _ xa := Mh.ty hM
          obtain ⟨a', c', hsl, hxc⟩ := hM.slice
          rw [hplen] at hsl hxc
          obtain ⟨rfl, -, rfl⟩ := Value.slice.inj hsl
          have HX : But b w1 (x4.setCell ⟨b, 0, none⟩ (.slice xa (m + 1) xc)) := HX.setCell _
          have hby := heap_set_same (o := 0) (v := .slice xa (m + 1) xc) hbx
          have hQ : HsAt (x4.setCell ⟨b, 0, none⟩ (.slice xa (m + 1) xc)) (.slice xa (m + 1) xc) (puL nodeL t L h) := hQ.kept fun ad ha _ => by
            obtain ⟨g, o, e, hg⟩ := hOw ad ha
            subst e
            exact Below.heap_setCell _ _ _ _ (by simp only; omega)
          have hTy : TyA (x4.setCell ⟨b, 0, none⟩ (.slice xa (m + 1) xc)) xa := fun ad ha => by
            obtain ⟨g, o, e, hg⟩ := hOw ad ha
            obtain ⟨cur, h9⟩ := hTy ad ha
            subst e
            exact ⟨cur, (Below.heap_setCell _ _ _ _ (by simp only; omega)).trans h9⟩
          have hOw : OwnA p xa := fun ad ha => by
            obtain ⟨g, o, e, hg⟩ := hOw ad ha
            exact ⟨g, o, e, by omega⟩
          clear hM hsl hbx
          go_simp
          generalize x4.setCell ⟨b, 0, none⟩ (.slice xa (m + 1) xc) = x5 at *
          refine hK.out _ _ HX (fun _ => ?_)
          clear hK K
          try simp only [List.getElem_toArray, List.getElem_cons_succ, List.getElem_cons_zero, Act.put, List.setIfInBounds_toArray, List.set_cons_zero, List.set_cons_succ]
          refine wpAnyH_done (by kernel_rfl) ?_ _
          have HF : Hid (But b w x5) := HB1.out.trans HX
          have HQ : Hid (∃ a' c', x5.heap[b]? = some (.cells (frC (.slice a' (m + 1) c') n) 55 (0, 0)) ∧ HsAt x5 (.slice a' (m + 1) c') (puL nodeL t L h) ∧ m + 1 ≤ c' ∧ OwnA p a' ∧ TyA x5 a') := ⟨xa, xc, hby, hQ, hxc, hOw, hTy⟩
          clear HX hby hQ hOw hTy
          go_wp2
          all_goals (go_end0; exact ⟨⟨_, rfl⟩, HQ.out, HF.out⟩)
  | some ad =>
    obtain ⟨b1, o1, rfl⟩ := hown ad rfl
    go_enter Tryd.func28, Tryd.ntmps28
    go_upto_region 2 with fail
    have hp : ∃ p, w.heap.size = p := ⟨_, rfl⟩
    obtain ⟨p, hp⟩ := hp
    rw [hp] at HS hsb ⊢
    refine wp_region_held (S := But b w1) (by kernel_rfl) ?_
    change wpAnyH _ _ _ _ _ _ _ _ (World.drew _)
    have HX : But b w1 w1.drew := HX1.out.drew
    have hbx : w1.drew.heap[b]? = some (Obj.cells _ 55 (0, 0)) := hb1'.out
    clear HX1 hb1' hw1 c0
    generalize World.drew _ = x0 at *
    refine wpAnyH_take (i := 0) (v := .pointer (some ⟨b, 0, none⟩)) rfl (by kernel_rfl) (by kernel_rfl) (by kernel_rfl) (fun _ _ _ h => h) (Or.inl ⟨by rfl, by intro w9 _; go_simp⟩) HX ?_
    simp only [List.getElem_toArray, List.getElem_cons_succ, List.getElem_cons_zero, Act.put, List.setIfInBounds_toArray, List.set_cons_zero, List.set_cons_succ]
    refine wpAnyH_take (i := 1) (v := .pointer (some ⟨b, 0, none⟩)) rfl (by kernel_rfl) (by kernel_rfl) (by kernel_rfl) (fun _ _ _ h => h) (Or.inl ⟨by rfl, by intro w9 _; go_simp⟩) HX ?_
    simp only [List.getElem_toArray, List.getElem_cons_succ, List.getElem_cons_zero, Act.put, List.setIfInBounds_toArray, List.set_cons_zero, List.set_cons_succ]
    refine wpAnyH_take (i := 2) (v := .pointer (some ⟨b, 0, none⟩)) rfl (by kernel_rfl) (by kernel_rfl) (by kernel_rfl) (fun _ _ _ h => h) (Or.inl ⟨by rfl, by intro w9 _; go_simp⟩) HX ?_
    simp only [List.getElem_toArray, List.getElem_cons_succ, List.getElem_cons_zero, Act.put, List.setIfInBounds_toArray, List.set_cons_zero, List.set_cons_succ]
    refine wpAnyH_take (i := 3) (v := .pointer (some ⟨b, 0, none⟩)) rfl (by kernel_rfl) (by kernel_rfl) (by kernel_rfl) (fun _ _ _ h => h) (Or.inl ⟨by rfl, by intro w9 _; go_simp⟩) HX ?_
    simp only [List.getElem_toArray, List.getElem_cons_succ, List.getElem_cons_zero, Act.put, List.setIfInBounds_toArray, List.set_cons_zero, List.set_cons_succ]
    refine wpAnyH_take (i := 5) (v := .int .i64 (m : Int)) rfl (by kernel_rfl) (by kernel_rfl) (by kernel_rfl) (fun _ _ _ h => h) (Or.inl ⟨by rfl, by intro w9 _; go_simp⟩) HX ?_
    simp only [List.getElem_toArray, List.getElem_cons_succ, List.getElem_cons_zero, Act.put, List.setIfInBounds_toArray, List.set_cons_zero, List.set_cons_succ]
    refine wpAnyH_take (i := 7) (v := .pointer (some ⟨b, 0, none⟩)) rfl (by kernel_rfl) (by kernel_rfl) (by kernel_rfl) (fun _ _ _ h => h) (Or.inl ⟨by rfl, by intro w9 _; go_simp⟩) HX ?_
    simp only [List.getElem_toArray, List.getElem_cons_succ, List.getElem_cons_zero, Act.put, List.setIfInBounds_toArray, List.set_cons_zero, List.set_cons_succ]
    refine wpAnyH_take (i := 8) (v := .pointer (some ⟨b, 0, none⟩)) rfl (by kernel_rfl) (by kernel_rfl) (by kernel_rfl) (fun _ _ _ h => h) (Or.inl ⟨by rfl, by intro w9 _; go_simp⟩) HX ?_
    simp only [List.getElem_toArray, List.getElem_cons_succ, List.getElem_cons_zero, Act.put, List.setIfInBounds_toArray, List.set_cons_zero, List.set_cons_succ]
    refine wpAnyH_take (i := 9) (v := .pointer (some ⟨b, 0, none⟩)) rfl (by kernel_rfl) (by kernel_rfl) (by kernel_rfl) (fun _ _ _ h => h) (Or.inl ⟨by rfl, by intro w9 _; go_simp⟩) HX ?_
    simp only [List.getElem_toArray, List.getElem_cons_succ, List.getElem_cons_zero, Act.put, List.setIfInBounds_toArray, List.set_cons_zero, List.set_cons_succ]
    refine wpAnyH_take (i := 11) (v := .int .i64 (m : Int)) rfl (by kernel_rfl) (by kernel_rfl) (by kernel_rfl) (fun _ _ _ h => h) (Or.inl ⟨by rfl, by intro w9 _; go_simp⟩) HX ?_
    simp only [List.getElem_toArray, List.getElem_cons_succ, List.getElem_cons_zero, Act.put, List.setIfInBounds_toArray, List.set_cons_zero, List.set_cons_succ]
    refine wpAnyH_take (i := 13) (v := .agg X) rfl (by kernel_rfl) (by kernel_rfl) (by kernel_rfl) (fun _ _ _ h => h) (yieldsIf_load_mid (by rfl) 30 _ rfl p 0 rfl X.toList _ (fun w' h => (HS.out w' h).2.2) Tryd.underlying30 rfl ic.out) HX ?_
    simp only [List.getElem_toArray, List.getElem_cons_succ, List.getElem_cons_zero, Act.put, List.setIfInBounds_toArray, List.set_cons_zero, List.set_cons_succ]
    refine wpAnyH_ready (rs := [4, 10]) (by kernel_rfl) (by simp) (AllReadyH.cons (by simp only [List.getElem?_toArray, List.getElem?_cons_succ, List.getElem?_cons_zero]; rfl) (fun K hK => ?_) (AllReadyH.cons (by simp only [List.getElem?_toArray, List.getElem?_cons_succ, List.getElem?_cons_zero]; rfl) (fun K hK => ?_) AllReadyH.nil))
    · refine step_want (by rfl) ?_
      have c9 := (fcells hbx).1
      go_simp
      clear c9
      refine hK.out _ _ HX (fun _ => ?_)
      clear hK K
      try simp only [List.getElem_toArray, List.getElem_cons_succ, List.getElem_cons_zero, Act.put, List.setIfInBounds_toArray, List.set_cons_zero, List.set_cons_succ]
      refine wpAnyH_take (i := 6) (v := .slice (some ⟨b1, o1, none⟩) m c) rfl (by kernel_rfl) (by kernel_rfl) (by kernel_rfl) (fun _ _ _ h => h) (Or.inl ⟨by rfl, by intro w9 _; go_simp⟩) HX ?_
      simp only [List.getElem_toArray, List.getElem_cons_succ, List.getElem_cons_zero, Act.put, List.setIfInBounds_toArray, List.set_cons_zero, List.set_cons_succ]
      refine wpAnyH_ready (rs := [10]) (by kernel_rfl) (by simp) (AllReadyH.cons (by simp only [List.getElem?_toArray, List.getElem?_cons_succ, List.getElem?_cons_zero]; rfl) (fun K hK => ?_) AllReadyH.nil)
      refine step_want (by rfl) ?_
      have c9 := (fcells hbx).1
      go_simp
      clear c9
      refine hK.out _ _ HX (fun _ => ?_)
      clear hK K
      try simp only [List.getElem_toArray, List.getElem_cons_succ, List.getElem_cons_zero, Act.put, List.setIfInBounds_toArray, List.set_cons_zero, List.set_cons_succ]
      refine wpAnyH_take (i := 12) (v := .slice (if c = m then some ⟨b1, o1, none⟩ else some ⟨b1, o1 + m * 32, none⟩) (q - m) (c - m)) rfl (by kernel_rfl) (by kernel_rfl) (by kernel_rfl) (fun _ _ _ h => h) (Or.inl ⟨by rfl, by intro w9 _; go_simp⟩) HX ?_
      simp only [List.getElem_toArray, List.getElem_cons_succ, List.getElem_cons_zero, Act.put, List.setIfInBounds_toArray, List.set_cons_zero, List.set_cons_succ]
      refine wpAnyH_ready (rs := [14]) (by kernel_rfl) (by simp) (AllReadyH.cons (by simp only [List.getElem?_toArray, List.getElem?_cons_succ, List.getElem?_cons_zero]; rfl) (fun K hK => ?_) AllReadyH.nil)
      refine step_want (by rfl) ?_
      go_simp
      refine (HAb.out _ x0 (HRs.out x0 b1 o1 rfl (HS.out _ HX).1) (HS.out _ HX).2.1).mono ?_
      rintro e x1 ⟨rfl, bc⟩
      have HX : But b w1 x1 := HX.trans (But.of_below bc)
      have hbx := (bc.block _ (Array.getElem?_eq_some_iff.1 hbx).1).trans hbx
      clear bc
      refine hK.out _ _ HX (fun _ => ?_)
      clear hK K
      try simp only [List.getElem_toArray, List.getElem_cons_succ, List.getElem_cons_zero, Act.put, List.setIfInBounds_toArray, List.set_cons_zero, List.set_cons_succ]
      refine wpAnyH_ready (rs := [15]) (by kernel_rfl) (by simp) (AllReadyH.cons (by simp only [List.getElem?_toArray, List.getElem?_cons_succ, List.getElem?_cons_zero]; rfl) (fun K hK => ?_) AllReadyH.nil)
      refine step_want (by rfl) ?_
      go_simp
      have hN := HMk.out x1
      obtain ⟨x2, hw⟩ : ∃ x2, x1.alloc (.cells U 30) = x2 := ⟨_, rfl⟩
      have bc : Below x1.heap.size x1 x2 := by rw [← hw]; exact (Below.refl _ _).alloc (Nat.le_refl _) _
      obtain ⟨e2, he0⟩ : ∃ e2, x1.heap.size = e2 := ⟨_, rfl⟩
      rw [hw, he0] at hN
      rw [hw, he0]
      have HX : But b w1 x2 := HX.trans (But.of_below bc)
      have hbx := (bc.block _ (Array.getElem?_eq_some_iff.1 hbx).1).trans hbx
      clear bc hw he0
      refine hK.out _ _ HX (fun _ => ?_)
      clear hK K
      try simp only [List.getElem_toArray, List.getElem_cons_succ, List.getElem_cons_zero, Act.put, List.setIfInBounds_toArray, List.set_cons_zero, List.set_cons_succ]
      refine wpAnyH_ready (rs := [16]) (by kernel_rfl) (by simp) (AllReadyH.cons (by simp only [List.getElem?_toArray, List.getElem?_cons_succ, List.getElem?_cons_zero]; rfl) (fun K hK => ?_) AllReadyH.nil)
      refine step_want (by rfl) ?_
      go_simp
      obtain ⟨x3, hw⟩ : ∃ x3, x2.alloc (.cells #[.slice (some ⟨b1, o1, none⟩) m c, .slice (some ⟨e2, 0, none⟩) 1 1] 22) = x3 := ⟨_, rfl⟩
      have bc : Below x2.heap.size x2 x3 := by rw [← hw]; exact (Below.refl _ _).alloc (Nat.le_refl _) _
      have hgd := heap_alloc_last x2 (.cells #[.slice (some ⟨b1, o1, none⟩) m c, .slice (some ⟨e2, 0, none⟩) 1 1] 22)
      obtain ⟨e3, he0⟩ : ∃ e3, x2.heap.size = e3 := ⟨_, rfl⟩
      rw [hw, he0] at hgd
      rw [hw, he0]
      have HX : But b w1 x3 := HX.trans (But.of_below bc)
      have hbx := (bc.block _ (Array.getElem?_eq_some_iff.1 hbx).1).trans hbx
      have hN := hN.below bc
      clear bc hw he0
      refine hK.out _ _ HX (fun _ => ?_)
      clear hK K
      try simp only [List.getElem_toArray, List.getElem_cons_succ, List.getElem_cons_zero, Act.put, List.setIfInBounds_toArray, List.set_cons_zero, List.set_cons_succ]
      refine wpAnyH_ready (rs := [17]) (by kernel_rfl) (by simp) (AllReadyH.cons (by simp only [List.getElem?_toArray, List.getElem?_cons_succ, List.getElem?_cons_zero]; rfl) (fun K hK => ?_) AllReadyH.nil)
      refine step_want (by rfl) ?_
      go_simp
      refine (HCo.out x3 e3 (some ⟨e2, 0, none⟩) 1 (by rw [cell_of_row _ _ _ _ _ _ hgd]; rfl) (by rw [cell_of_row _ _ _ _ _ _ hgd]; rfl) (HTk.out _ (HS.out _ HX).1) hN).mono ?_
      rintro e x4 ⟨xa, xc, rfl, hM⟩
      have hsx : p ≤ x3.heap.size := Nat.le_trans hsb HX.size
      have bc := hM.below
      have HX : But b w1 x4 := HX.trans (But.of_below bc)
      have hbx := (bc.block _ (Array.getElem?_eq_some_iff.1 hbx).1).trans hbx
      clear bc hN hgd
      refine hK.out _ _ HX (fun _ => ?_)
      clear hK K
      try simp only [List.getElem_toArray, List.getElem_cons_succ, List.getElem_cons_zero, Act.put, List.setIfInBounds_toArray, List.set_cons_zero, List.set_cons_succ]
      refine wpAnyH_take (i := 18) (v := .pointer (some ⟨b, 0, none⟩)) rfl (by kernel_rfl) (by kernel_rfl) (by kernel_rfl) (fun _ _ _ h => h) (Or.inl ⟨by rfl, by intro w9 _; go_simp⟩) HX ?_
      simp only [List.getElem_toArray, List.getElem_cons_succ, List.getElem_cons_zero, Act.put, List.setIfInBounds_toArray, List.set_cons_zero, List.set_cons_succ]
      refine wpAnyH_take (i := 19) (v := .pointer (some ⟨b, 0, none⟩)) rfl (by kernel_rfl) (by kernel_rfl) (by kernel_rfl) (fun _ _ _ h => h) (Or.inl ⟨by rfl, by intro w9 _; go_simp⟩) HX ?_
      simp only [List.getElem_toArray, List.getElem_cons_succ, List.getElem_cons_zero, Act.put, List.setIfInBounds_toArray, List.set_cons_zero, List.set_cons_succ]
      refine wpAnyH_ready (rs := [20]) (by kernel_rfl) (by simp) (AllReadyH.cons (by simp only [List.getElem?_toArray, List.getElem?_cons_succ, List.getElem?_cons_zero]; rfl) (fun K hK => ?_) AllReadyH.nil)
      refine step_want (by rfl) ?_
      have c9 := (fcells hbx).1
      have f9 : x4.frozen? ⟨b, 0, none⟩ = false := by rw [World.frozen?, hbx]; rfl
      have hQ := hM.at_
      have hOw := hM.own
      have hTy : TyA _ xa := Mh.ty hM
      obtain ⟨a', c', hsl, hxc⟩ := hM.slice
      rw [hplen] at hsl hxc
      obtain ⟨rfl, -, rfl⟩ := Value.slice.inj hsl
      have HX : But b w1 (x4.setCell ⟨b, 0, none⟩ (.slice xa (m + 1) xc)) := HX.setCell _
      have hby := heap_set_same (o := 0) (v := .slice xa (m + 1) xc) hbx
      have hQ : HsAt (x4.setCell ⟨b, 0, none⟩ (.slice xa (m + 1) xc)) (.slice xa (m + 1) xc) (puL nodeL t L h) := hQ.kept fun ad ha _ => by
        obtain ⟨g, o, e, hg⟩ := hOw ad ha
        subst e
        exact Below.heap_setCell _ _ _ _ (by simp only; omega)
      have hTy : TyA (x4.setCell ⟨b, 0, none⟩ (.slice xa (m + 1) xc)) xa := fun ad ha => by
        obtain ⟨g, o, e, hg⟩ := hOw ad ha
        obtain ⟨cur, h9⟩ := hTy ad ha
        subst e
        exact ⟨cur, (Below.heap_setCell _ _ _ _ (by simp only; omega)).trans h9⟩
      have hOw : OwnA p xa := fun ad ha => by
        obtain ⟨g, o, e, hg⟩ := hOw ad ha
        exact ⟨g, o, e, by omega⟩
      clear hM hsl hbx
      go_simp
      generalize x4.setCell ⟨b, 0, none⟩ (.slice xa (m + 1) xc) = x5 at *
      refine hK.out _ _ HX (fun _ => ?_)
      clear hK K
      try simp only [List.getElem_toArray, List.getElem_cons_succ, List.getElem_cons_zero, Act.put, List.setIfInBounds_toArray, List.set_cons_zero, List.set_cons_succ]
      refine wpAnyH_done (by kernel_rfl) ?_ _
      have HF : Hid (But b w x5) := HB1.out.trans HX
      have HQ : Hid (∃ a' c', x5.heap[b]? = some (.cells (frC (.slice a' (m + 1) c') n) 55 (0, 0)) ∧ HsAt x5 (.slice a' (m + 1) c') (puL nodeL t L h) ∧ m + 1 ≤ c' ∧ OwnA p a' ∧ TyA x5 a') := ⟨xa, xc, hby, hQ, hxc, hOw, hTy⟩
      clear HX hby hQ hOw hTy
      go_wp2
      all_goals (go_end0; exact ⟨⟨_, rfl⟩, HQ.out, HF.out⟩)
    · refine step_want (by rfl) ?_
      have c9 := (fcells hbx).1
      go_simp
      clear c9
      refine hK.out _ _ HX (fun _ => ?_)
      clear hK K
      try simp only [List.getElem_toArray, List.getElem_cons_succ, List.getElem_cons_zero, Act.put, List.setIfInBounds_toArray, List.set_cons_zero, List.set_cons_succ]
      refine wpAnyH_take (i := 12) (v := .slice (if c = m then some ⟨b1, o1, none⟩ else some ⟨b1, o1 + m * 32, none⟩) (q - m) (c - m)) rfl (by kernel_rfl) (by kernel_rfl) (by kernel_rfl) (fun _ _ _ h => h) (Or.inl ⟨by rfl, by intro w9 _; go_simp⟩) HX ?_
      simp only [List.getElem_toArray, List.getElem_cons_succ, List.getElem_cons_zero, Act.put, List.setIfInBounds_toArray, List.set_cons_zero, List.set_cons_succ]
      refine wpAnyH_ready (rs := [4, 14]) (by kernel_rfl) (by simp) (AllReadyH.cons (by simp only [List.getElem?_toArray, List.getElem?_cons_succ, List.getElem?_cons_zero]; rfl) (fun K hK => ?_) (AllReadyH.cons (by simp only [List.getElem?_toArray, List.getElem?_cons_succ, List.getElem?_cons_zero]; rfl) (fun K hK => ?_) AllReadyH.nil))
      · refine step_want (by rfl) ?_
        have c9 := (fcells hbx).1
        go_simp
        clear c9
        refine hK.out _ _ HX (fun _ => ?_)
        clear hK K
        try simp only [List.getElem_toArray, List.getElem_cons_succ, List.getElem_cons_zero, Act.put, List.setIfInBounds_toArray, List.set_cons_zero, List.set_cons_succ]
        refine wpAnyH_take (i := 6) (v := .slice (some ⟨b1, o1, none⟩) m c) rfl (by kernel_rfl) (by kernel_rfl) (by kernel_rfl) (fun _ _ _ h => h) (Or.inl ⟨by rfl, by intro w9 _; go_simp⟩) HX ?_
        simp only [List.getElem_toArray, List.getElem_cons_succ, List.getElem_cons_zero, Act.put, List.setIfInBounds_toArray, List.set_cons_zero, List.set_cons_succ]
        refine wpAnyH_ready (rs := [14]) (by kernel_rfl) (by simp) (AllReadyH.cons (by simp only [List.getElem?_toArray, List.getElem?_cons_succ, List.getElem?_cons_zero]; rfl) (fun K hK => ?_) AllReadyH.nil)
        refine step_want (by rfl) ?_
        go_simp
        refine (HAb.out _ x0 (HRs.out x0 b1 o1 rfl (HS.out _ HX).1) (HS.out _ HX).2.1).mono ?_
        rintro e x1 ⟨rfl, bc⟩
        have HX : But b w1 x1 := HX.trans (But.of_below bc)
        have hbx := (bc.block _ (Array.getElem?_eq_some_iff.1 hbx).1).trans hbx
        clear bc
        refine hK.out _ _ HX (fun _ => ?_)
        clear hK K
        try simp only [List.getElem_toArray, List.getElem_cons_succ, List.getElem_cons_zero, Act.put, List.setIfInBounds_toArray, List.set_cons_zero, List.set_cons_succ]
        refine wpAnyH_ready (rs := [15]) (by kernel_rfl) (by simp) (AllReadyH.cons (by simp only [List.getElem?_toArray, List.getElem?_cons_succ, List.getElem?_cons_zero]; rfl) (fun K hK => ?_) AllReadyH.nil)
        refine step_want (by rfl) ?_
        go_simp
        have hN := HMk.out x1
        obtain ⟨x2, hw⟩ : ∃ x2, x1.alloc (.cells U 30) = x2 := ⟨_, rfl⟩
        have bc : Below x1.heap.size x1 x2 := by rw [← hw]; exact (Below.refl _ _).alloc (Nat.le_refl _) _
        obtain ⟨e2, he0⟩ : ∃ e2, x1.heap.size = e2 := ⟨_, rfl⟩
        rw [hw, he0] at hN
        rw [hw, he0]
        have HX : But b w1 x2 := HX.trans (But.of_below bc)
        have hbx := (bc.block _ (Array.getElem?_eq_some_iff.1 hbx).1).trans hbx
        clear bc hw he0
        refine hK.out _ _ HX (fun _ => ?_)
        clear hK K
        try simp only [List.getElem_toArray, List.getElem_cons_succ, List.getElem_cons_zero, Act.put, List.setIfInBounds_toArray, List.set_cons_zero, List.set_cons_succ]
        refine wpAnyH_ready (rs := [16]) (by kernel_rfl) (by simp) (AllReadyH.cons (by simp only [List.getElem?_toArray, List.getElem?_cons_succ, List.getElem?_cons_zero]; rfl) (fun K hK => ?_) AllReadyH.nil)
        refine step_want (by rfl) ?_
        go_simp
        obtain ⟨x3, hw⟩ : ∃ x3, x2.alloc (.cells #[.slice (some ⟨b1, o1, none⟩) m c, .slice (some ⟨e2, 0, none⟩) 1 1] 22) = x3 := ⟨_, rfl⟩
        have bc : Below x2.heap.size x2 x3 := by rw [← hw]; exact (Below.refl _ _).alloc (Nat.le_refl _) _
        have hgd := heap_alloc_last x2 (.cells #[.slice (some ⟨b1, o1, none⟩) m c, .slice (some ⟨e2, 0, none⟩) 1 1] 22)
        obtain ⟨e3, he0⟩ : ∃ e3, x2.heap.size = e3 := ⟨_, rfl⟩
        rw [hw, he0] at hgd
        rw [hw, he0]
        have HX : But b w1 x3 := HX.trans (But.of_below bc)
        have hbx := (bc.block _ (Array.getElem?_eq_some_iff.1 hbx).1).trans hbx
        have hN := hN.below bc
        clear bc hw he0
        refine hK.out _ _ HX (fun _ => ?_)
        clear hK K
        try simp only [List.getElem_toArray, List.getElem_cons_succ, List.getElem_cons_zero, Act.put, List.setIfInBounds_toArray, List.set_cons_zero, List.set_cons_succ]
        refine wpAnyH_ready (rs := [17]) (by kernel_rfl) (by simp) (AllReadyH.cons (by simp only [List.getElem?_toArray, List.getElem?_cons_succ, List.getElem?_cons_zero]; rfl) (fun K hK => ?_) AllReadyH.nil)
        refine step_want (by rfl) ?_
        go_simp
        refine (HCo.out x3 e3 (some ⟨e2, 0, none⟩) 1 (by rw [cell_of_row _ _ _ _ _ _ hgd]; rfl) (by rw [cell_of_row _ _ _ _ _ _ hgd]; rfl) (HTk.out _ (HS.out _ HX).1) hN).mono ?_
        rintro e x4 ⟨xa, xc, rfl, hM⟩
        have hsx : p ≤ x3.heap.size := Nat.le_trans hsb HX.size
        have bc := hM.below
        have HX : But b w1 x4 := HX.trans (But.of_below bc)
        have hbx := (bc.block _ (Array.getElem?_eq_some_iff.1 hbx).1).trans hbx
        clear bc hN hgd
        refine hK.out _ _ HX (fun _ => ?_)
        clear hK K
        try simp only [List.getElem_toArray, List.getElem_cons_succ, List.getElem_cons_zero, Act.put, List.setIfInBounds_toArray, List.set_cons_zero, List.set_cons_succ]
        refine wpAnyH_take (i := 18) (v := .pointer (some ⟨b, 0, none⟩)) rfl (by kernel_rfl) (by kernel_rfl) (by kernel_rfl) (fun _ _ _ h => h) (Or.inl ⟨by rfl, by intro w9 _; go_simp⟩) HX ?_
        simp only [List.getElem_toArray, List.getElem_cons_succ, List.getElem_cons_zero, Act.put, List.setIfInBounds_toArray, List.set_cons_zero, List.set_cons_succ]
        refine wpAnyH_take (i := 19) (v := .pointer (some ⟨b, 0, none⟩)) rfl (by kernel_rfl) (by kernel_rfl) (by kernel_rfl) (fun _ _ _ h => h) (Or.inl ⟨by rfl, by intro w9 _; go_simp⟩) HX ?_
        simp only [List.getElem_toArray, List.getElem_cons_succ, List.getElem_cons_zero, Act.put, List.setIfInBounds_toArray, List.set_cons_zero, List.set_cons_succ]
        refine wpAnyH_ready (rs := [20]) (by kernel_rfl) (by simp) (AllReadyH.cons (by simp only [List.getElem?_toArray, List.getElem?_cons_succ, List.getElem?_cons_zero]; rfl) (fun K hK => ?_) AllReadyH.nil)
        refine step_want (by rfl) ?_
        have c9 := (fcells hbx).1
        have f9 : x4.frozen? ⟨b, 0, none⟩ = false := by rw [World.frozen?, hbx]; rfl
        have hQ := hM.at_
        have hOw := hM.own
        have hTy : TyA _ xa := Mh.ty hM
        obtain ⟨a', c', hsl, hxc⟩ := hM.slice
        rw [hplen] at hsl hxc
        obtain ⟨rfl, -, rfl⟩ := Value.slice.inj hsl
        have HX : But b w1 (x4.setCell ⟨b, 0, none⟩ (.slice xa (m + 1) xc)) := HX.setCell _
        have hby := heap_set_same (o := 0) (v := .slice xa (m + 1) xc) hbx
        have hQ : HsAt (x4.setCell ⟨b, 0, none⟩ (.slice xa (m + 1) xc)) (.slice xa (m + 1) xc) (puL nodeL t L h) := hQ.kept fun ad ha _ => by
          obtain ⟨g, o, e, hg⟩ := hOw ad ha
          subst e
          exact Below.heap_setCell _ _ _ _ (by simp only; omega)
        have hTy : TyA (x4.setCell ⟨b, 0, none⟩ (.slice xa (m + 1) xc)) xa := fun ad ha => by
          obtain ⟨g, o, e, hg⟩ := hOw ad ha
          obtain ⟨cur, h9⟩ := hTy ad ha
          subst e
          exact ⟨cur, (Below.heap_setCell _ _ _ _ (by simp only; omega)).trans h9⟩
        have hOw : OwnA p xa := fun ad ha => by
          obtain ⟨g, o, e, hg⟩ := hOw ad ha
          exact ⟨g, o, e, by omega⟩
        clear hM hsl hbx
        go_simp
        generalize x4.setCell ⟨b, 0, none⟩ (.slice xa (m + 1) xc) = x5 at *
        refine hK.out _ _ HX (fun _ => ?_)
        clear hK K
        try simp only [List.getElem_toArray, List.getElem_cons_succ, List.getElem_cons_zero, Act.put, List.setIfInBounds_toArray, List.set_cons_zero, List.set_cons_succ]
        refine wpAnyH_done (by kernel_rfl) ?_ _
        have HF : Hid (But b w x5) := HB1.out.trans HX
        have HQ : Hid (∃ a' c', x5.heap[b]? = some (.cells (frC (.slice a' (m + 1) c') n) 55 (0, 0)) ∧ HsAt x5 (.slice a' (m + 1) c') (puL nodeL t L h) ∧ m + 1 ≤ c' ∧ OwnA p a' ∧ TyA x5 a') := ⟨xa, xc, hby, hQ, hxc, hOw, hTy⟩
        clear HX hby hQ hOw hTy
        go_wp2
        all_goals (go_end0; exact ⟨⟨_, rfl⟩, HQ.out, HF.out⟩)
      · refine step_want (by rfl) ?_
        go_simp
        refine (HAb.out _ x0 (HRs.out x0 b1 o1 rfl (HS.out _ HX).1) (HS.out _ HX).2.1).mono ?_
        rintro e x1 ⟨rfl, bc⟩
        have HX : But b w1 x1 := HX.trans (But.of_below bc)
        have hbx := (bc.block _ (Array.getElem?_eq_some_iff.1 hbx).1).trans hbx
        clear bc
        refine hK.out _ _ HX (fun _ => ?_)
        clear hK K
        try simp only [List.getElem_toArray, List.getElem_cons_succ, List.getElem_cons_zero, Act.put, List.setIfInBounds_toArray, List.set_cons_zero, List.set_cons_succ]
        refine wpAnyH_ready (rs := [4, 15]) (by kernel_rfl) (by simp) (AllReadyH.cons (by simp only [List.getElem?_toArray, List.getElem?_cons_succ, List.getElem?_cons_zero]; rfl) (fun K hK => ?_) (AllReadyH.cons (by simp only [List.getElem?_toArray, List.getElem?_cons_succ, List.getElem?_cons_zero]; rfl) (fun K hK => ?_) AllReadyH.nil))
        · refine step_want (by rfl) ?_
          have c9 := (fcells hbx).1
          go_simp
          clear c9
          refine hK.out _ _ HX (fun _ => ?_)
          clear hK K
          try simp only [List.getElem_toArray, List.getElem_cons_succ, List.getElem_cons_zero, Act.put, List.setIfInBounds_toArray, List.set_cons_zero, List.set_cons_succ]
          refine wpAnyH_take (i := 6) (v := .slice (some ⟨b1, o1, none⟩) m c) rfl (by kernel_rfl) (by kernel_rfl) (by kernel_rfl) (fun _ _ _ h => h) (Or.inl ⟨by rfl, by intro w9 _; go_simp⟩) HX ?_
          simp only [List.getElem_toArray, List.getElem_cons_succ, List.getElem_cons_zero, Act.put, List.setIfInBounds_toArray, List.set_cons_zero, List.set_cons_succ]
          refine wpAnyH_ready (rs := [15]) (by kernel_rfl) (by simp) (AllReadyH.cons (by simp only [List.getElem?_toArray, List.getElem?_cons_succ, List.getElem?_cons_zero]; rfl) (fun K hK => ?_) AllReadyH.nil)
          refine step_want (by rfl) ?_
          go_simp
          have hN := HMk.out x1
          obtain ⟨x2, hw⟩ : ∃ x2, x1.alloc (.cells U 30) = x2 := ⟨_, rfl⟩
          have bc : Below x1.heap.size x1 x2 := by rw [← hw]; exact (Below.refl _ _).alloc (Nat.le_refl _) _
          obtain ⟨e2, he0⟩ : ∃ e2, x1.heap.size = e2 := ⟨_, rfl⟩
          rw [hw, he0] at hN
          rw [hw, he0]
          have HX : But b w1 x2 := HX.trans (But.of_below bc)
          have hbx := (bc.block _ (Array.getElem?_eq_some_iff.1 hbx).1).trans hbx
          clear bc hw he0
          refine hK.out _ _ HX (fun _ => ?_)
          clear hK K
          try simp only [List.getElem_toArray, List.getElem_cons_succ, List.getElem_cons_zero, Act.put, List.setIfInBounds_toArray, List.set_cons_zero, List.set_cons_succ]
          refine wpAnyH_ready (rs := [16]) (by kernel_rfl) (by simp) (AllReadyH.cons (by simp only [List.getElem?_toArray, List.getElem?_cons_succ, List.getElem?_cons_zero]; rfl) (fun K hK => ?_) AllReadyH.nil)
          refine step_want (by rfl) ?_
          go_simp
          obtain ⟨x3, hw⟩ : ∃ x3, x2.alloc (.cells #[.slice (some ⟨b1, o1, none⟩) m c, .slice (some ⟨e2, 0, none⟩) 1 1] 22) = x3 := ⟨_, rfl⟩
          have bc : Below x2.heap.size x2 x3 := by rw [← hw]; exact (Below.refl _ _).alloc (Nat.le_refl _) _
          have hgd := heap_alloc_last x2 (.cells #[.slice (some ⟨b1, o1, none⟩) m c, .slice (some ⟨e2, 0, none⟩) 1 1] 22)
          obtain ⟨e3, he0⟩ : ∃ e3, x2.heap.size = e3 := ⟨_, rfl⟩
          rw [hw, he0] at hgd
          rw [hw, he0]
          have HX : But b w1 x3 := HX.trans (But.of_below bc)
          have hbx := (bc.block _ (Array.getElem?_eq_some_iff.1 hbx).1).trans hbx
          have hN := hN.below bc
          clear bc hw he0
          refine hK.out _ _ HX (fun _ => ?_)
          clear hK K
          try simp only [List.getElem_toArray, List.getElem_cons_succ, List.getElem_cons_zero, Act.put, List.setIfInBounds_toArray, List.set_cons_zero, List.set_cons_succ]
          refine wpAnyH_ready (rs := [17]) (by kernel_rfl) (by simp) (AllReadyH.cons (by simp only [List.getElem?_toArray, List.getElem?_cons_succ, List.getElem?_cons_zero]; rfl) (fun K hK => ?_) AllReadyH.nil)
          refine step_want (by rfl) ?_
          go_simp
          refine (HCo.out x3 e3 (some ⟨e2, 0, none⟩) 1 (by rw [cell_of_row _ _ _ _ _ _ hgd]; rfl) (by rw [cell_of_row _ _ _ _ _ _ hgd]; rfl) (HTk.out _ (HS.out _ HX).1) hN).mono ?_
          rintro e x4 ⟨xa, xc, rfl, hM⟩
          have hsx : p ≤ x3.heap.size := Nat.le_trans hsb HX.size
          have bc := hM.below
          have HX : But b w1 x4 := HX.trans (But.of_below bc)
          have hbx := (bc.block _ (Array.getElem?_eq_some_iff.1 hbx).1).trans hbx
          clear bc hN hgd
          refine hK.out _ _ HX (fun _ => ?_)
          clear hK K
          try simp only [List.getElem_toArray, List.getElem_cons_succ, List.getElem_cons_zero, Act.put, List.setIfInBounds_toArray, List.set_cons_zero, List.set_cons_succ]
          refine wpAnyH_take (i := 18) (v := .pointer (some ⟨b, 0, none⟩)) rfl (by kernel_rfl) (by kernel_rfl) (by kernel_rfl) (fun _ _ _ h => h) (Or.inl ⟨by rfl, by intro w9 _; go_simp⟩) HX ?_
          simp only [List.getElem_toArray, List.getElem_cons_succ, List.getElem_cons_zero, Act.put, List.setIfInBounds_toArray, List.set_cons_zero, List.set_cons_succ]
          refine wpAnyH_take (i := 19) (v := .pointer (some ⟨b, 0, none⟩)) rfl (by kernel_rfl) (by kernel_rfl) (by kernel_rfl) (fun _ _ _ h => h) (Or.inl ⟨by rfl, by intro w9 _; go_simp⟩) HX ?_
          simp only [List.getElem_toArray, List.getElem_cons_succ, List.getElem_cons_zero, Act.put, List.setIfInBounds_toArray, List.set_cons_zero, List.set_cons_succ]
          refine wpAnyH_ready (rs := [20]) (by kernel_rfl) (by simp) (AllReadyH.cons (by simp only [List.getElem?_toArray, List.getElem?_cons_succ, List.getElem?_cons_zero]; rfl) (fun K hK => ?_) AllReadyH.nil)
          refine step_want (by rfl) ?_
          have c9 := (fcells hbx).1
          have f9 : x4.frozen? ⟨b, 0, none⟩ = false := by rw [World.frozen?, hbx]; rfl
          have hQ := hM.at_
          have hOw := hM.own
          have hTy : TyA _ xa := Mh.ty hM
          obtain ⟨a', c', hsl, hxc⟩ := hM.slice
          rw [hplen] at hsl hxc
          obtain ⟨rfl, -, rfl⟩ := Value.slice.inj hsl
          have HX : But b w1 (x4.setCell ⟨b, 0, none⟩ (.slice xa (m + 1) xc)) := HX.setCell _
          have hby := heap_set_same (o := 0) (v := .slice xa (m + 1) xc) hbx
          have hQ : HsAt (x4.setCell ⟨b, 0, none⟩ (.slice xa (m + 1) xc)) (.slice xa (m + 1) xc) (puL nodeL t L h) := hQ.kept fun ad ha _ => by
            obtain ⟨g, o, e, hg⟩ := hOw ad ha
            subst e
            exact Below.heap_setCell _ _ _ _ (by simp only; omega)
          have hTy : TyA (x4.setCell ⟨b, 0, none⟩ (.slice xa (m + 1) xc)) xa := fun ad ha => by
            obtain ⟨g, o, e, hg⟩ := hOw ad ha
            obtain ⟨cur, h9⟩ := hTy ad ha
            subst e
            exact ⟨cur, (Below.heap_setCell _ _ _ _ (by simp only; omega)).trans h9⟩
          have hOw : OwnA p xa := fun ad ha => by
            obtain ⟨g, o, e, hg⟩ := hOw ad ha
            exact ⟨g, o, e, by omega⟩
          clear hM hsl hbx
          go_simp
          generalize x4.setCell ⟨b, 0, none⟩ (.slice xa (m + 1) xc) = x5 at *
          refine hK.out _ _ HX (fun _ => ?_)
          clear hK K
          try simp only [List.getElem_toArray, List.getElem_cons_succ, List.getElem_cons_zero, Act.put, List.setIfInBounds_toArray, List.set_cons_zero, List.set_cons_succ]
          refine wpAnyH_done (by kernel_rfl) ?_ _
          have HF : Hid (But b w x5) := HB1.out.trans HX
          have HQ : Hid (∃ a' c', x5.heap[b]? = some (.cells (frC (.slice a' (m + 1) c') n) 55 (0, 0)) ∧ HsAt x5 (.slice a' (m + 1) c') (puL nodeL t L h) ∧ m + 1 ≤ c' ∧ OwnA p a' ∧ TyA x5 a') := ⟨xa, xc, hby, hQ, hxc, hOw, hTy⟩
          clear HX hby hQ hOw hTy
          go_wp2
          all_goals (go_end0; exact ⟨⟨_, rfl⟩, HQ.out, HF.out⟩)
        · refine step_want (by rfl) ?_
          go_simp
          have hN := HMk.out x1
          obtain ⟨x2, hw⟩ : ∃ x2, x1.alloc (.cells U 30) = x2 := ⟨_, rfl⟩
          have bc : Below x1.heap.size x1 x2 := by rw [← hw]; exact (Below.refl _ _).alloc (Nat.le_refl _) _
          obtain ⟨e2, he0⟩ : ∃ e2, x1.heap.size = e2 := ⟨_, rfl⟩
          rw [hw, he0] at hN
          rw [hw, he0]
          have HX : But b w1 x2 := HX.trans (But.of_below bc)
          have hbx := (bc.block _ (Array.getElem?_eq_some_iff.1 hbx).1).trans hbx
          clear bc hw he0
          refine hK.out _ _ HX (fun _ => ?_)
          clear hK K
          try simp only [List.getElem_toArray, List.getElem_cons_succ, List.getElem_cons_zero, Act.put, List.setIfInBounds_toArray, List.set_cons_zero, List.set_cons_succ]
          refine wpAnyH_ready (rs := [4]) (by kernel_rfl) (by simp) (AllReadyH.cons (by simp only [List.getElem?_toArray, List.getElem?_cons_succ, List.getElem?_cons_zero]; rfl) (fun K hK => ?_) AllReadyH.nil)
          refine step_want (by rfl) ?_
          have c9 := (fcells hbx).1
          go_simp
          clear c9
          refine hK.out _ _ HX (fun _ => ?_)
          clear hK K
          try simp only [List.getElem_toArray, List.getElem_cons_succ, List.getElem_cons_zero, Act.put, List.setIfInBounds_toArray, List.set_cons_zero, List.set_cons_succ]
          refine wpAnyH_take (i := 6) (v := .slice (some ⟨b1, o1, none⟩) m c) rfl (by kernel_rfl) (by kernel_rfl) (by kernel_rfl) (fun _ _ _ h => h) (Or.inl ⟨by rfl, by intro w9 _; go_simp⟩) HX ?_
          simp only [List.getElem_toArray, List.getElem_cons_succ, List.getElem_cons_zero, Act.put, List.setIfInBounds_toArray, List.set_cons_zero, List.set_cons_succ]
          refine wpAnyH_ready (rs := [16]) (by kernel_rfl) (by simp) (AllReadyH.cons (by simp only [List.getElem?_toArray, List.getElem?_cons_succ, List.getElem?_cons_zero]; rfl) (fun K hK => ?_) AllReadyH.nil)
          refine step_want (by rfl) ?_
          go_simp
          obtain ⟨x3, hw⟩ : ∃ x3, x2.alloc (.cells #[.slice (some ⟨b1, o1, none⟩) m c, .slice (some ⟨e2, 0, none⟩) 1 1] 22) = x3 := ⟨_, rfl⟩
          have bc : Below x2.heap.size x2 x3 := by rw [← hw]; exact (Below.refl _ _).alloc (Nat.le_refl _) _
          have hgd := heap_alloc_last x2 (.cells #[.slice (some ⟨b1, o1, none⟩) m c, .slice (some ⟨e2, 0, none⟩) 1 1] 22)
          obtain ⟨e3, he0⟩ : ∃ e3, x2.heap.size = e3 := ⟨_, rfl⟩
          rw [hw, he0] at hgd
          rw [hw, he0]
          have HX : But b w1 x3 := HX.trans (But.of_below bc)
          have hbx := (bc.block _ (Array.getElem?_eq_some_iff.1 hbx).1).trans hbx
          have hN := hN.below bc
          clear bc hw he0
          refine hK.out _ _ HX (fun _ => ?_)
          clear hK K
          try simp only [List.getElem_toArray, List.getElem_cons_succ, List.getElem_cons_zero, Act.put, List.setIfInBounds_toArray, List.set_cons_zero, List.set_cons_succ]
          refine wpAnyH_ready (rs := [17]) (by kernel_rfl) (by simp) (AllReadyH.cons (by simp only [List.getElem?_toArray, List.getElem?_cons_succ, List.getElem?_cons_zero]; rfl) (fun K hK => ?_) AllReadyH.nil)
          refine step_want (by rfl) ?_
          go_simp
          refine (HCo.out x3 e3 (some ⟨e2, 0, none⟩) 1 (by rw [cell_of_row _ _ _ _ _ _ hgd]; rfl) (by rw [cell_of_row _ _ _ _ _ _ hgd]; rfl) (HTk.out _ (HS.out _ HX).1) hN).mono ?_
          rintro e x4 ⟨xa, xc, rfl, hM⟩
          have hsx : p ≤ x3.heap.size := Nat.le_trans hsb HX.size
          have bc := hM.below
          have HX : But b w1 x4 := HX.trans (But.of_below bc)
          have hbx := (bc.block _ (Array.getElem?_eq_some_iff.1 hbx).1).trans hbx
          clear bc hN hgd
          refine hK.out _ _ HX (fun _ => ?_)
          clear hK K
          try simp only [List.getElem_toArray, List.getElem_cons_succ, List.getElem_cons_zero, Act.put, List.setIfInBounds_toArray, List.set_cons_zero, List.set_cons_succ]
          refine wpAnyH_take (i := 18) (v := .pointer (some ⟨b, 0, none⟩)) rfl (by kernel_rfl) (by kernel_rfl) (by kernel_rfl) (fun _ _ _ h => h) (Or.inl ⟨by rfl, by intro w9 _; go_simp⟩) HX ?_
          simp only [List.getElem_toArray, List.getElem_cons_succ, List.getElem_cons_zero, Act.put, List.setIfInBounds_toArray, List.set_cons_zero, List.set_cons_succ]
          refine wpAnyH_take (i := 19) (v := .pointer (some ⟨b, 0, none⟩)) rfl (by kernel_rfl) (by kernel_rfl) (by kernel_rfl) (fun _ _ _ h => h) (Or.inl ⟨by rfl, by intro w9 _; go_simp⟩) HX ?_
          simp only [List.getElem_toArray, List.getElem_cons_succ, List.getElem_cons_zero, Act.put, List.setIfInBounds_toArray, List.set_cons_zero, List.set_cons_succ]
          refine wpAnyH_ready (rs := [20]) (by kernel_rfl) (by simp) (AllReadyH.cons (by simp only [List.getElem?_toArray, List.getElem?_cons_succ, List.getElem?_cons_zero]; rfl) (fun K hK => ?_) AllReadyH.nil)
          refine step_want (by rfl) ?_
          have c9 := (fcells hbx).1
          have f9 : x4.frozen? ⟨b, 0, none⟩ = false := by rw [World.frozen?, hbx]; rfl
          have hQ := hM.at_
          have hOw := hM.own
          have hTy : TyA _ xa := Mh.ty hM
          obtain ⟨a', c', hsl, hxc⟩ := hM.slice
          rw [hplen] at hsl hxc
          obtain ⟨rfl, -, rfl⟩ := Value.slice.inj hsl
          have HX : But b w1 (x4.setCell ⟨b, 0, none⟩ (.slice xa (m + 1) xc)) := HX.setCell _
          have hby := heap_set_same (o := 0) (v := .slice xa (m + 1) xc) hbx
          have hQ : HsAt (x4.setCell ⟨b, 0, none⟩ (.slice xa (m + 1) xc)) (.slice xa (m + 1) xc) (puL nodeL t L h) := hQ.kept fun ad ha _ => by
            obtain ⟨g, o, e, hg⟩ := hOw ad ha
            subst e
            exact Below.heap_setCell _ _ _ _ (by simp only; omega)
          have hTy : TyA (x4.setCell ⟨b, 0, none⟩ (.slice xa (m + 1) xc)) xa := fun ad ha => by
            obtain ⟨g, o, e, hg⟩ := hOw ad ha
            obtain ⟨cur, h9⟩ := hTy ad ha
            subst e
            exact ⟨cur, (Below.heap_setCell _ _ _ _ (by simp only; omega)).trans h9⟩
          have hOw : OwnA p xa := fun ad ha => by
            obtain ⟨g, o, e, hg⟩ := hOw ad ha
            exact ⟨g, o, e, by omega⟩
          clear hM hsl hbx
          go_simp
          generalize x4.setCell ⟨b, 0, none⟩ (.slice xa (m + 1) xc) = x5 at *
          refine hK.out _ _ HX (fun _ => ?_)
          clear hK K
          try simp only [List.getElem_toArray, List.getElem_cons_succ, List.getElem_cons_zero, Act.put, List.setIfInBounds_toArray, List.set_cons_zero, List.set_cons_succ]
          refine wpAnyH_done (by kernel_rfl) ?_ _
          have HF : Hid (But b w x5) := HB1.out.trans HX
          have HQ : Hid (∃ a' c', x5.heap[b]? = some (.cells (frC (.slice a' (m + 1) c') n) 55 (0, 0)) ∧ HsAt x5 (.slice a' (m + 1) c') (puL nodeL t L h) ∧ m + 1 ≤ c' ∧ OwnA p a' ∧ TyA x5 a') := ⟨xa, xc, hby, hQ, hxc, hOw, hTy⟩
          clear HX hby hQ hOw hTy
          go_wp2
          all_goals (go_end0; exact ⟨⟨_, rfl⟩, HQ.out, HF.out⟩)
set_option maxRecDepth 100000 in
set_option maxHeartbeats 2000000 in
set_option linter.unusedSimpArgs false in
set_option linter.unusedVariables false in
theorem fappend_typed {w : World} {B b n : Nat} {L : List (List UInt8)} (x : List UInt8) (h : Fr w B b n L) (hT : TabF w) (hg : GtF B) (hx : x.length = 32) (hn : n < 9223372036854775807) : Calls Tryd.prog 10 #[.pointer (some ⟨b, 0, none⟩), .agg (hv x)] w fun e w' => e = .returned (.int .i64 0) ∧ Fr w' B b (n + 1) (puL nodeL (tlN n) L x) ∧ But b w w' ∧ ∃ a' c', w'.heap[b]? = some (.cells (frC (.slice a' (puL nodeL (tlN n) L x).length c') ((n + 1 : Nat) : Int)) 55 (0, 0)) ∧ OwnA w.heap.size a' ∧ TyA w' a' := by
  have hlt := h.lt
  have hge := h.ge
  obtain ⟨hl1, hl2, hl3⟩ := h.len
  have htl := tl_le n
  have hplen := puL_length nodeL x hl1
  have hgb : GtF b := ⟨⟨by omega, by omega⟩, by omega⟩
  obtain ⟨w1, hw1⟩ : ∃ w1, w.alloc (.cells (hv x) 30) = w1 := ⟨_, rfl⟩
  have bw1 : Below w.heap.size w w1 := by rw [← hw1]; exact (Below.refl _ _).alloc (Nat.le_refl _) _
  have g1 : w1.heap[w.heap.size]? = some (.cells (hv x) 30 (0, 0)) := by rw [← hw1]; exact heap_alloc_last w _
  have hs1 : w.heap.size < w1.heap.size := (Array.getElem?_eq_some_iff.1 g1).1
  obtain ⟨a, c, h1, hA, hc, how, -⟩ := h
  have hb1 := (bw1.block _ hlt).trans h1
  have hA1 := hA.below bw1
  have hT1 := hT.below bw1 hT.lt
  obtain ⟨c0, c1, c2⟩ := fcells hb1
  have HS : Hid (∀ W, But b w1 W → HsAt W (.slice a L.length c) L ∧ TabF W ∧ W.rangeAt w.heap.size 0 (hv x).toList) := fun W hW => ⟨hA1.but hW hb1 (by simp), hT1.but hW hgb, range_row ((hW.block _ hs1 (by omega)).trans g1)⟩
  have hxs : (hv x).size = 32 := by rw [hv_size, hx]
  have ic : Hid ((Tryd.prog.info? 30).map (·.size) = some (hv x).toList.length) := by show _ = _; rw [info_h32, Array.length_toList, hxs]
  have HTZ : Hid (∀ W, TabD W → Calls Tryd.prog 29 #[.int .u64 (18446744073709551615 - (n : Int))] W fun e w' => e = .returned (.int .i64 (tlN n)) ∧ w' = W) := fun W hW => tail_any n hn W hW
  have HPut : Hid (∀ W, W.heap[b]? = some (.cells (frC (.slice a L.length c) n) 55 (0, 0)) → HsAt W (.slice a L.length c) L → TabL W → Calls Tryd.prog 28 #[.pointer (some ⟨b, 0, none⟩), .agg (hv x), .int .i64 (tlN n)] W fun e w' => (∃ v, e = .returned v) ∧ (∃ a' c', w'.heap[b]? = some (.cells (frC (.slice a' (puL nodeL (tlN n) L x).length c') n) 55 (0, 0)) ∧ HsAt w' (.slice a' (puL nodeL (tlN n) L x).length c') (puL nodeL (tlN n) L x) ∧ (puL nodeL (tlN n) L x).length ≤ c' ∧ OwnA W.heap.size a' ∧ TyA w' a') ∧ But b W w') := fun W e1 e2 e3 => by
    refine eput_typed x e3 hgb.1 e1 e2 hc (fun ad ha => ?_) (by omega) (by omega) hx
    obtain ⟨g, o, e, -⟩ := how ad ha
    exact ⟨g, o, e⟩
  have HB1 : Hid (But b w w1) := But.of_below bw1
  have HX1 : Hid (But b w1 w1) := But.refl b w1
  have hb1' : Hid (w1.heap[b]? = some (.cells (frC (.slice a L.length c) n) 55 (0, 0))) := hb1
  have hsb : B ≤ w1.heap.size := by omega
  have hsp : w.heap.size ≤ w1.heap.size := bw1.size
  have hn1 : ((n : Int) == 9223372036854775807) = false := by rw [beq_eq_false_iff_ne]; omega
  have hwn : wrap64 ((n : Int) + 1) = ((n + 1 : Nat) : Int) := by unfold wrap64; omega
  have HFr : Hid (∀ (W : World) (a' : Option Addr) (c' : Nat), W.heap[b]? = some (.cells (frC (.slice a' (puL nodeL (tlN n) L x).length c') ((n + 1 : Nat) : Int)) 55 (0, 0)) → HsAt W (.slice a' (puL nodeL (tlN n) L x).length c') (puL nodeL (tlN n) L x) → (puL nodeL (tlN n) L x).length ≤ c' → OwnA B a' → Fr W B b (n + 1) (puL nodeL (tlN n) L x)) := fun W a' c' e1 e2 e3 e4 => ⟨a', c', e1, e2, e3, e4, hge, hplen, one_more hn⟩
  have hcv : IntKind.u64.wrap (n : Int) = (n : Int) := not_u64 n hl3
  have hpl : ∃ PL, puL nodeL (tlN n) L x = PL := ⟨_, rfl⟩
  obtain ⟨PL, hPL⟩ := hpl
  rw [hPL] at HPut HFr ⊢
  clear h1 hA hT hA1 hT1 g1 bw1 hx hb1 hl1 hl2 hplen hPL how htl hs1
  generalize hv x = X at *
  generalize L.length = q at *
  go_enter Tryd.func10, Tryd.ntmps10
  go_upto_region 5 with (first | (go_at_call 27; refine (fnone_any c1).mono ?_; rintro e w1 ⟨rfl, rfl⟩) | fail)
  have hp : ∃ p, w.heap.size = p := ⟨_, rfl⟩
  obtain ⟨p, hp⟩ := hp
  have HPw : Hid (w.heap.size = p) := hp
  rw [hp] at HS hsp ⊢
  refine wp_region_held (S := But b w1) (by kernel_rfl) ?_
  change wpAnyH _ _ _ _ _ _ _ _ (World.drew _)
  have HX : But b w1 w1.drew := HX1.out.drew
  have hbx : w1.drew.heap[b]? = some (Obj.cells _ 55 (0, 0)) := hb1'.out
  clear HX1 hb1' hw1 c0 c1 c2
  generalize World.drew _ = x0 at *
  refine wpAnyH_take (i := 0) (v := .pointer (some ⟨b, 0, none⟩)) rfl (by kernel_rfl) (by kernel_rfl) (by kernel_rfl) (fun _ _ _ h => h) (Or.inl ⟨by rfl, by intro w9 _; go_simp⟩) HX ?_
  simp only [List.getElem_toArray, List.getElem_cons_succ, List.getElem_cons_zero, Act.put, List.setIfInBounds_toArray, List.set_cons_zero, List.set_cons_succ]
  refine wpAnyH_take (i := 1) (v := .pointer (some ⟨b, 0, none⟩)) rfl (by kernel_rfl) (by kernel_rfl) (by kernel_rfl) (fun _ _ _ h => h) (Or.inl ⟨by rfl, by intro w9 _; go_simp⟩) HX ?_
  simp only [List.getElem_toArray, List.getElem_cons_succ, List.getElem_cons_zero, Act.put, List.setIfInBounds_toArray, List.set_cons_zero, List.set_cons_succ]
  refine wpAnyH_take (i := 2) (v := .pointer (some ⟨b, 0, none⟩)) rfl (by kernel_rfl) (by kernel_rfl) (by kernel_rfl) (fun _ _ _ h => h) (Or.inl ⟨by rfl, by intro w9 _; go_simp⟩) HX ?_
  simp only [List.getElem_toArray, List.getElem_cons_succ, List.getElem_cons_zero, Act.put, List.setIfInBounds_toArray, List.set_cons_zero, List.set_cons_succ]
  refine wpAnyH_take (i := 3) (v := .agg X) rfl (by kernel_rfl) (by kernel_rfl) (by kernel_rfl) (fun _ _ _ h => h) (yieldsIf_load_mid (by rfl) 30 _ rfl p 0 rfl X.toList _ (fun w' h => (HS.out w' h).2.2) Tryd.underlying30 rfl ic.out) HX ?_
  simp only [List.getElem_toArray, List.getElem_cons_succ, List.getElem_cons_zero, Act.put, List.setIfInBounds_toArray, List.set_cons_zero, List.set_cons_succ]
  refine wpAnyH_take (i := 4) (v := .pointer (some ⟨b, 0, none⟩)) rfl (by kernel_rfl) (by kernel_rfl) (by kernel_rfl) (fun _ _ _ h => h) (Or.inl ⟨by rfl, by intro w9 _; go_simp⟩) HX ?_
  simp only [List.getElem_toArray, List.getElem_cons_succ, List.getElem_cons_zero, Act.put, List.setIfInBounds_toArray, List.set_cons_zero, List.set_cons_succ]
  refine wpAnyH_take (i := 5) (v := .pointer (some ⟨b, 0, none⟩)) rfl (by kernel_rfl) (by kernel_rfl) (by kernel_rfl) (fun _ _ _ h => h) (Or.inl ⟨by rfl, by intro w9 _; go_simp⟩) HX ?_
  simp only [List.getElem_toArray, List.getElem_cons_succ, List.getElem_cons_zero, Act.put, List.setIfInBounds_toArray, List.set_cons_zero, List.set_cons_succ]
  refine wpAnyH_take (i := 6) (v := .pointer (some ⟨b, 2, none⟩)) rfl (by kernel_rfl) (by kernel_rfl) (by kernel_rfl) (fun _ _ _ h => h) (Or.inl ⟨by rfl, by intro w9 _; go_simp⟩) HX ?_
  simp only [List.getElem_toArray, List.getElem_cons_succ, List.getElem_cons_zero, Act.put, List.setIfInBounds_toArray, List.set_cons_zero, List.set_cons_succ]
  refine wpAnyH_ready (rs := [7]) (by kernel_rfl) (by simp) (AllReadyH.cons (by simp only [List.getElem?_toArray, List.getElem?_cons_succ, List.getElem?_cons_zero]; rfl) (fun K hK => ?_) AllReadyH.nil)
  refine step_want (by rfl) ?_
  have c9 := (fcells hbx).2.2
  go_simp
  clear c9
  refine hK.out _ _ HX (fun _ => ?_)
  clear hK K
  try simp only [List.getElem_toArray, List.getElem_cons_succ, List.getElem_cons_zero, Act.put, List.setIfInBounds_toArray, List.set_cons_zero, List.set_cons_succ]
  refine wpAnyH_take (i := 8) (v := .int .u64 (n : Int)) rfl (by kernel_rfl) (by kernel_rfl) (by kernel_rfl) (fun _ _ _ h => h) (Or.inl ⟨by rfl, by intro w9 _; go_simp⟩) HX ?_
  simp only [List.getElem_toArray, List.getElem_cons_succ, List.getElem_cons_zero, Act.put, List.setIfInBounds_toArray, List.set_cons_zero, List.set_cons_succ]
  refine wpAnyH_take (i := 9) (v := .int .u64 (18446744073709551615 - (n : Int))) rfl (by kernel_rfl) (by kernel_rfl) (by kernel_rfl) (fun _ _ _ h => h) (Or.inl ⟨by rfl, by intro w9 _; go_simp; exact not_any n hl3⟩) HX ?_
  simp only [List.getElem_toArray, List.getElem_cons_succ, List.getElem_cons_zero, Act.put, List.setIfInBounds_toArray, List.set_cons_zero, List.set_cons_succ]
  refine wpAnyH_ready (rs := [10]) (by kernel_rfl) (by simp) (AllReadyH.cons (by simp only [List.getElem?_toArray, List.getElem?_cons_succ, List.getElem?_cons_zero]; rfl) (fun K hK => ?_) AllReadyH.nil)
  refine step_want (by rfl) ?_
  go_simp
  refine (HTZ.out _ (HS.out _ HX).2.1.d).mono ?_
  rintro e x1 ⟨rfl, rfl⟩
  refine hK.out _ _ HX (fun _ => ?_)
  clear hK K
  try simp only [List.getElem_toArray, List.getElem_cons_succ, List.getElem_cons_zero, Act.put, List.setIfInBounds_toArray, List.set_cons_zero, List.set_cons_succ]
  refine wpAnyH_ready (rs := [11]) (by kernel_rfl) (by simp) (AllReadyH.cons (by simp only [List.getElem?_toArray, List.getElem?_cons_succ, List.getElem?_cons_zero]; rfl) (fun K hK => ?_) AllReadyH.nil)
  refine step_want (by rfl) ?_
  go_simp
  refine (HPut.out _ hbx (HS.out _ HX).1 (HS.out _ HX).2.1.l).mono ?_
  rintro e x2 ⟨⟨v2, rfl⟩, ⟨xa, xc, hby, hQ, hxc, hOw, hTy⟩, bc⟩
  have hOn : OwnA p xa := fun ad ha => by
    obtain ⟨g, o, e, hg⟩ := hOw ad ha
    exact ⟨g, o, e, Nat.le_trans (Nat.le_trans hsp HX.size) hg⟩
  have hOw : OwnA B xa := fun ad ha => by
    obtain ⟨g, o, e, hg⟩ := hOw ad ha
    exact ⟨g, o, e, Nat.le_trans (Nat.le_trans hsb HX.size) hg⟩
  have HX := HX.trans bc
  clear bc hbx
  refine hK.out _ _ HX (fun _ => ?_)
  clear hK K
  try simp only [List.getElem_toArray, List.getElem_cons_succ, List.getElem_cons_zero, Act.put, List.setIfInBounds_toArray, List.set_cons_zero, List.set_cons_succ]
  refine wpAnyH_done (by kernel_rfl) ?_ _
  obtain ⟨d0, d1, d2⟩ := fcells hby
  have f9 : x2.frozen? ⟨b, 2, none⟩ = false := by rw [World.frozen?, hby]; rfl
  have HF : Hid (Fr (x2.setCell ⟨b, 2, none⟩ (.int .i64 ((n + 1 : Nat) : Int))) B b (n + 1) PL) := by
    refine HFr.out _ xa xc ?_ ?_ hxc hOw
    · exact heap_set_same (o := 2) (v := .int .i64 ((n + 1 : Nat) : Int)) hby
    · refine hQ.kept fun ad ha hpos => ?_
      subst ha
      exact Below.heap_setCell _ _ _ _ (hQ.wide hpos hby (by simp))
  have HN9 : Hid (∃ a' c', (x2.setCell ⟨b, 2, none⟩ (.int .i64 ((n + 1 : Nat) : Int))).heap[b]? = some (.cells (frC (.slice a' PL.length c') ((n + 1 : Nat) : Int)) 55 (0, 0)) ∧ OwnA p a' ∧ TyA (x2.setCell ⟨b, 2, none⟩ (.int .i64 ((n + 1 : Nat) : Int))) a') := ⟨xa, xc, heap_set_same (o := 2) (v := .int .i64 ((n + 1 : Nat) : Int)) hby, hOn, hTy.set hby⟩
  have HX2 : Hid (But b w (x2.setCell ⟨b, 2, none⟩ (.int .i64 ((n + 1 : Nat) : Int)))) := (HB1.out.trans HX).setCell _
  clear HX hQ hby hOw
  go_wp2
  go_ret
  exact ⟨rfl, HF.out, HX2.out, by rw [HPw.out]; exact HN9.out⟩
set_option maxRecDepth 100000 in
theorem fload_typed {w : World} {v : Value} {L : List (List UInt8)} (m : Nat) (hL : HsAt w v L) (hlen : L.length ≤ 100000) (hm : m < 9223372036854775808) (hb : pcN m = L.length) : Calls Tryd.prog 8 #[.int .i64 m, v] w fun e w' => ∃ b, e = .returned (.tuple #[.pointer (some ⟨b, 0, none⟩), .int .i64 0]) ∧ (Fr w' w.heap.size b m L ∧ LdA w' b m L) ∧ Below w.heap.size w w' := by
  obtain ⟨a, c, rfl, -⟩ := id hL
  have HC : Hid (∀ W, Calls Tryd.prog 24 #[.int .u64 (m : Int)] W fun e w' => e = .returned (.int .i64 (L.length : Nat)) ∧ w' = W) := fun W => by
    have := ones_any m (by omega) W
    rwa [hb] at this
  have hcv : IntKind.u64.wrap (m : Int) = (m : Int) := not_u64 m hm
  have HN : Hid (Calls Tryd.prog 19 #[] w fun e w' => e = .returned (.pointer (some ⟨w.heap.size, 0, none⟩)) ∧ Fr w' w.heap.size w.heap.size 0 [] ∧ Below w.heap.size w w') := fnew_any w
  have HCl : Hid (∀ W, Below w.heap.size w W → Calls Tryd.prog 25 #[.slice a L.length c] W fun e w' => ∃ a c, e = .returned (.slice a L.length c) ∧ Mh W W.heap.size (.slice a L.length c) L w') := fun W hW => hclone_any (hL.below hW) hlen
  have hn : ¬ (m : Int) < 0 := by omega
  have HP : Hid (L.length = pcN m) := hb.symm
  clear hb hL
  obtain ⟨r, hr⟩ : ∃ r, L.length = r := ⟨_, rfl⟩
  rw [hr] at HC HCl ⊢
  go_enter Tryd.func8, Tryd.ntmps8
  go_wp2_with (first | (go_at_call 24; refine (HC.out _).mono ?_; rintro e w ⟨rfl, rfl⟩) | fail)
  refine HN.out.mono ?_
  rintro e w1 ⟨rfl, hF, hB⟩
  obtain ⟨a0, q0, h1, -⟩ := hF
  go_wp2_with fail
  refine (HCl.out w1 hB).mono ?_
  rintro e w2 ⟨xa, xc, rfl, hM⟩
  have h2 := (hM.below.block _ (Array.getElem?_eq_some_iff.1 h1).1).trans h1
  obtain ⟨c0, c1, c2⟩ := fcells h2
  have f0 : w2.frozen? ⟨w.heap.size, 0, none⟩ = false := by rw [World.frozen?, h2]; rfl
  have f2 : w2.frozen? ⟨w.heap.size, 2, none⟩ = false := by rw [World.frozen?, h2]; rfl
  have hQ := hM.at_
  have hOw := hM.own
  obtain ⟨a', c', hsl, hxc⟩ := hM.slice
  rw [hr] at hsl hxc
  obtain ⟨rfl, -, rfl⟩ := Value.slice.inj hsl
  have hbl : w.heap.size < w1.heap.size := (Array.getElem?_eq_some_iff.1 h1).1
  have HF : Hid ((Fr ((w2.setCell ⟨w.heap.size, 0, none⟩ (.slice xa r xc)).setCell ⟨w.heap.size, 2, none⟩ (.int .i64 (m : Int))) w.heap.size w.heap.size m L ∧ LdA ((w2.setCell ⟨w.heap.size, 0, none⟩ (.slice xa r xc)).setCell ⟨w.heap.size, 2, none⟩ (.int .i64 (m : Int))) w.heap.size m L) ∧ Below w.heap.size w ((w2.setCell ⟨w.heap.size, 0, none⟩ (.slice xa r xc)).setCell ⟨w.heap.size, 2, none⟩ (.int .i64 (m : Int)))) := by
    have s1 := heap_set_same (o := 0) (v := .slice xa r xc) h2
    have s2 := heap_set_same (o := 2) (v := .int .i64 (m : Int)) s1
    have hTy := ((Mh.ty hM).set h2 (v := .slice xa r xc) (o := 0)).set s1 (v := .int .i64 (m : Int)) (o := 2)
    refine ⟨⟨⟨xa, xc, ?_, ?_, by rw [hr]; exact hxc, fun ad ha => ?_, Nat.le_refl _, HP.out, hm⟩, xa, xc, by rw [hr]; exact s2, hTy⟩, ((hB.trans (hM.below.mono hB.size)).setCell (Nat.le_refl _) _).setCell (Nat.le_refl _) _⟩
    · rw [hr]
      exact s2
    · rw [hr]
      refine hQ.kept fun ad ha hpos => ?_
      obtain ⟨g, o, e, hg⟩ := hOw ad ha
      subst e
      rw [Below.heap_setCell _ _ _ _ (by simp only; omega), Below.heap_setCell _ _ _ _ (by simp only; omega)]
    · obtain ⟨g, o, e, hg⟩ := hOw ad ha
      exact ⟨g, o, e, by omega⟩
  clear hM hB h1 h2 hQ hOw hsl hxc
  go_wp2
  go_ret2
  exact ⟨_, rfl, HF.out⟩
end Go.Proofs.YtnhfadjlajljlaaDoor
