/- The document's own Append of a frontier (layer 10). -/
import Derived.Test.YtnhfadjlajljlaaDoor10h
import Derived.Test.YtnhfadjlajljlaaDoorWr
import Derived.Test.YtnhfadjlajljlaaDoorUb
namespace Go.Proofs.YtnhfadjlajljlaaDoor
open Go.RowKit

/-- What turns, told by its kind: of hashes this list's block alone. -/
structure Tu (w : World) (B : Nat) (hw : Value) (w' : World) : Prop where
  below : Below B w w'
  typed : ∀ (k : Nat) (C : Array Value) (ty : TypeId) (q : Nat × Nat), w.heap[k]? = some (.cells C ty q) → ty ≠ 38 → ty ≠ 3 → (ty = 30 → hw.ownBlock ≠ some k) → w'.heap[k]? = w.heap[k]?
/-- The list stays where it lies, or is new. -/
def Wh (w : World) (hw hw' : Value) : Prop := ∀ k, hw'.ownBlock = some k → hw.ownBlock = some k ∨ w.heap.size ≤ k
section
variable {w w1 w2 : World} {B b : Nat} {sv hw hw1 hw2 : Value} {Sz : List Nat} {Hs : List (List UInt8)}
theorem Wh.refl (w : World) (hw : Value) : Wh w hw hw := fun _ h => .inl h
theorem Wh.trans (h : Wh w hw hw1) (hs : w.heap.size ≤ w1.heap.size) (k : Wh w1 hw1 hw2) : Wh w hw hw2 := fun j hj => by
  rcases k j hj with h1 | h1
  · exact h j h1
  · exact .inr (Nat.le_trans hs h1)
theorem Tu.trans (h : Tu w B hw w1) (wh : Wh w hw hw1) (k : Tu w1 B hw1 w2) : Tu w B hw w2 := by
  refine ⟨h.below.trans k.below, fun j C ty q e h1 h2 h3 => ?_⟩
  have e1 := h.typed j C ty q e h1 h2 h3
  refine (k.typed j C ty q (e1.trans e) h1 h2 (fun e2 e3 => ?_)).trans e1
  rcases wh j e3 with h4 | h4
  · exact h3 e2 h4
  · have := (Array.getElem?_eq_some_iff.1 e).1
    omega
theorem Tu.of_below (hb : Below w.heap.size w w1) (hB : B ≤ w.heap.size) : Tu w B hw w1 := ⟨hb.mono hB, fun _ _ _ _ e _ _ _ => hb.block _ (Array.getElem?_eq_some_iff.1 e).1⟩
theorem Tu.of_ch (hF : Rf w B b sv hw Sz Hs) (h : Ch w b sv hw w1) : Tu w B hw w1 := by
  refine ⟨h.below hF, fun j C ty q e h1 h2 h3 => h.block j (Array.getElem?_eq_some_iff.1 e).1 (fun e2 => ?_) (fun e2 => ?_) (fun e2 => ?_)⟩
  · subst e2
    rw [hF.box] at e
    cases e
    exact h1 rfl
  · obtain ⟨-, cur, e3⟩ := row_at hF.sz e2
    rw [e] at e3
    cases e3
    exact h2 rfl
  · obtain ⟨-, cur, e3⟩ := row_at hF.hs e2
    have e4 : ty = 30 := by rw [e] at e3; cases e3; rfl
    exact h3 e4 e2
theorem Rf.frozen (h : Rf w B b sv hw Sz Hs) (i : Nat) : w.frozen? ⟨b, i, none⟩ = false := by rw [World.frozen?, h.box]; rfl
/-- The box, where a row of it has grown. -/
theorem Rf.grownS (h : Rf w B b sv hw Sz Hs) (hg : w.grownBy w1 sv.ownBlock) : w1.heap[b]? = some (.cells #[sv, hw] 38 (0, 0)) := (hg.block b h.lt (fun e => by
  obtain ⟨-, cur, e2⟩ := row_at h.sz e.symm
  rw [h.box] at e2
  cases e2)).trans h.box
theorem Rf.grownH (h : Rf w B b sv hw Sz Hs) (hg : w.grownBy w1 hw.ownBlock) : w1.heap[b]? = some (.cells #[sv, hw] 38 (0, 0)) := (hg.block b h.lt (fun e => by
  obtain ⟨-, cur, e2⟩ := row_at h.hs e.symm
  rw [h.box] at e2
  cases e2)).trans h.box
theorem rcells {sv hw : Value} (h : w.heap[b]? = some (.cells #[sv, hw] 38 (0, 0))) : w.cell? ⟨b, 0, none⟩ = some sv ∧ w.cell? ⟨b, 1, none⟩ = some hw ∧ w.frozen? ⟨b, 0, none⟩ = false ∧ w.frozen? ⟨b, 1, none⟩ = false :=
  ⟨by rw [cell_of_row _ _ _ _ _ _ h]; rfl, by rw [cell_of_row _ _ _ _ _ _ h]; rfl, by rw [World.frozen?, h]; rfl, by rw [World.frozen?, h]; rfl⟩
/-- A hash's block stays where another list grows, and where a frontier's box is set. -/
theorem box_stays {p : Nat} {X : Array Value} {q : Nat × Nat} {v : Value} {o : Nat} (hp : w.heap[p]? = some (.cells X 30 q)) (hg : w.grownBy w1 hw.ownBlock) (hne : hw.ownBlock ≠ some p) (hb : w1.heap[b]? = some (.cells #[sv, hw] 38 (0, 0))) : (w1.setCell ⟨b, o, none⟩ v).heap[p]? = some (.cells X 30 q) := by
  have h1 := (hg.block p (Array.getElem?_eq_some_iff.1 hp).1 (fun e => hne e.symm)).trans hp
  rw [Below.heap_setCell _ _ _ _ (fun e => by rw [show p = b from e, hb] at h1; cases h1)]
  exact h1
end
set_option maxRecDepth 100000 in
set_option linter.unusedSimpArgs false in
theorem rappend_long {w : World} {B b : Nat} {sv hw : Value} {Hs : List (List UInt8)} (x : List UInt8) (h : Rf w B b sv hw (szN 9223372036854775807) Hs) : Calls Tryd.prog 11 #[.pointer (some ⟨b, 0, none⟩), .agg (hv x)] w fun e w' => e = .returned (.int .i64 3) ∧ Below w.heap.size w w' := by
  obtain ⟨w1, hw1⟩ : ∃ w1, w.alloc (.cells (hv x) 30) = w1 := ⟨_, rfl⟩
  have b1 : Below w.heap.size w w1 := by rw [← hw1]; exact (Below.refl _ _).alloc (Nat.le_refl _) _
  have HL : Hid (Calls Tryd.prog 13 #[.pointer (some ⟨b, 0, none⟩)] w1 fun e w' => e = .returned (.int .i64 9223372036854775807) ∧ w' = w1) := rlen_any (h.next b1) (by decide)
  have HB : Hid (Below w.heap.size w w1) := b1
  clear h b1
  generalize hv x = X at *
  go_enter Tryd.func11, Tryd.ntmps11
  go_wp2_with fail
  refine HL.out.mono ?_
  rintro e w2 ⟨rfl, rfl⟩
  go_wp2
  go_ret
  exact ⟨rfl, HB.out⟩
theorem mgH_length {n s m : Nat} {L : List (List UInt8)} {h y : List UInt8} (g : Mg n L h s m y) : (mgH L m y).length = pcN m + 1 := by
  have := g.few
  rw [mgH, List.length_append, List.length_take, List.length_singleton]
  omega
theorem mgH_last {n s m : Nat} {L : List (List UInt8)} {h y : List UInt8} (g : Mg n L h s m y) : (mgH L m y)[pcN m]? = some y := by
  have := g.few
  rw [mgH, List.getElem?_append_right (by rw [List.length_take]; omega), List.length_take, Nat.min_eq_left g.few, Nat.sub_self]
  rfl
theorem mgH_at {n s m q : Nat} {L : List (List UInt8)} {h y : List UInt8} (g : Mg n L h s m y) (hq : q < pcN m) : (mgH L m y)[q]? = L[q]? := by
  have := g.few
  rw [mgH, List.getElem?_append_left (by rw [List.length_take]; omega), List.getElem?_take, if_pos hq]
theorem mgH_take {n s m q : Nat} {L : List (List UInt8)} {h y : List UInt8} (g : Mg n L h s m y) (hq : q ≤ pcN m) : (mgH L m y).take q = L.take q := by
  have := g.few
  rw [mgH, List.take_append_of_le_length (by rw [List.length_take]; omega), List.take_take, Nat.min_eq_left hq]
theorem hsv_take {L : List (List UInt8)} (h : ∀ x ∈ L, x.length = 32) {k : Nat} (hk : k ≤ L.length) : (hsv L).take (k * 32) = hsv (L.take k) := by
  have h1 : (hsv (L.take k)).length = k * 32 := by rw [hsv_length (fun x hx => h x (List.mem_of_mem_take hx)), List.length_take, Nat.min_eq_left hk]
  conv => lhs; rw [← List.take_append_drop k L, hsv_append]
  exact List.take_left' h1
theorem isv_take (L : List Nat) (k : Nat) : (isv L).take (k * 1) = isv (L.take k) := by rw [Nat.mul_one, isv, isv, List.map_take]
theorem two_wrap (s : Nat) (h : 2 * s ≤ 9223372036854775807) : wrap64 (2 * (s : Int)) = ((2 * s : Nat) : Int) := by unfold wrap64; omega
theorem k_wrap (q : Nat) (h : q ≤ 1000) : wrap64 ((q : Int) + 2 - 2) = (q : Int) ∧ wrap64 ((q : Int) + 2 - 1) = (q : Int) + 1 := ⟨by unfold wrap64; omega, by unfold wrap64; omega⟩
set_option maxRecDepth 100000 in
set_option maxHeartbeats 8000000 in
set_option linter.unusedSimpArgs false in
set_option linter.unusedVariables false in
theorem rappend_any {w : World} {B b n : Nat} {sv hw : Value} {Hs : List (List UInt8)} (x : List UInt8) (h : Rf w B b sv hw (szN n) Hs) (hl : Hs.length = pcN n) (hR : TabR w) (hgB : 2 < B) (hx : x.length = 32) (hn : n < 9223372036854775807) : Calls Tryd.prog 11 #[.pointer (some ⟨b, 0, none⟩), .agg (hv x)] w fun e w' => e = .returned (.int .i64 0) ∧ (∃ sv' hw', Rf w' B b sv' hw' (szN (n + 1)) (puL nodeL (tlN n) Hs x) ∧ Wh w hw hw') ∧ Tu w B hw w' := by
  have hBl := h.le
  have hpc63 := pc_le 63 n (by omega)
  have HPc : Hid (∀ m s y, Mg n Hs x s m y → pcN m ≤ 63) := fun m s y g => Nat.le_trans g.few (by omega)
  have HH32 : Hid (∀ x ∈ Hs, x.length = 32) := h.h32
  have HTR : Hid (∀ W, Below B w W → TabR W) := fun W hW => hR.below hW hgB
  have HMg0 : Hid (Mg n Hs x 1 n x) := Mg.start hl hx
  have HS0 : Hid (szN n ++ [1] = mgS 1 n) := by show _ = _; unfold mgS; simp
  have HHs0 : Hid (Hs ++ [x] = mgH Hs n x) := by show _ = _; unfold mgH; rw [← hl, List.take_length]
  obtain ⟨p, hp⟩ : ∃ p, w.heap.size = p := ⟨_, rfl⟩
  have HP : Hid (w.heap.size = p) := hp
  obtain ⟨w1, hw1⟩ : ∃ w1, w.alloc (.cells (hv x) 30) = w1 := ⟨_, rfl⟩
  have b1 : Below w.heap.size w w1 := by rw [← hw1]; exact (Below.refl _ _).alloc (Nat.le_refl _) _
  have g1 : w1.heap[p]? = some (.cells (hv x) 30 (0, 0)) := by rw [← hw1, ← hp]; exact heap_alloc_last w _
  have hF1 := h.next b1
  have hne : hw.ownBlock ≠ some p := fun e => by
    obtain ⟨-, cur, e2⟩ := row_at h.hs e
    have := (Array.getElem?_eq_some_iff.1 e2).1
    omega
  have HLn : Hid (Calls Tryd.prog 13 #[.pointer (some ⟨b, 0, none⟩)] w1 fun e w' => e = .returned (.int .i64 n) ∧ w' = w1) := rlen_any hF1 (by omega)
  have hn1 : ((n : Int) == 9223372036854775807) = false := by rw [beq_eq_false_iff_ne]; omega
  have hxs : (hv x).size = 32 := by rw [hv_size, hx]
  have ic : Hid ((Tryd.prog.info? 30).map (·.size) = some (hv x).toList.length) := by show _ = _; rw [info_h32, Array.length_toList, hxs]
  have hbld := build_hash (hv x) hxs
  rw [zero_h32] at hbld
  have HMk : Hid (∀ W : World, HsAt (W.alloc (.cells (hv x) 30)) (.slice (some ⟨W.heap.size, 0, none⟩) 1 1) [x]) := fun W => hs_made rfl hx
  obtain ⟨xa, xc, rfl, hxc⟩ := row_slice hF1.sz
  obtain ⟨ya, yc, rfl, hyc⟩ := row_slice hF1.hs
  have hpl : (szN n).length = pcN n := szN_length n
  -- the literal [1], and what becomes of the sizes
  obtain ⟨w2, hw2⟩ : ∃ w2, w1.alloc (.cells #[.int .i64 1] 3) = w2 := ⟨_, rfl⟩
  have b2 : Below w1.heap.size w1 w2 := by rw [← hw2]; exact (Below.refl _ _).alloc (Nat.le_refl _) _
  have g2 : w2.heap[w1.heap.size]? = some (.cells #[.int .i64 1] 3 (0, 0)) := by rw [← hw2]; exact heap_alloc_last w1 _
  have c2 : w2.cell? ⟨w1.heap.size, 0, none⟩ = some (.int .i64 ((1 : Nat) : Int)) := by rw [cell_of_row _ _ _ _ _ _ g2]; rfl
  obtain ⟨cc0, cc1⟩ := hF1.cells
  have HF2 : Hid (Rf w2 B b (.slice xa (szN n).length xc) (.slice ya Hs.length yc) (szN n) Hs ∧ Tu w B (.slice ya Hs.length yc) w2 ∧ w2.heap[p]? = some (.cells (hv x) 30 (0, 0))) :=
    ⟨hF1.next b2, Tu.of_below (b1.trans (b2.mono b1.size)) hBl, (b2.block _ (Array.getElem?_eq_some_iff.1 g1).1).trans g1⟩
  have hT : Hid (∀ (v' : Value) (w' : World), w'.ownsRow B 3 1 v' (szN n ++ [1]).length (isv (szN n ++ [1])) → w2.grownBy w' (Value.slice xa (szN n).length xc).ownBlock → Rf (w'.setCell ⟨b, 0, none⟩ v') B b v' (.slice ya Hs.length yc) (szN n ++ [1]) Hs ∧ Tu w B (.slice ya Hs.length yc) (w'.setCell ⟨b, 0, none⟩ v') ∧ (w'.setCell ⟨b, 0, none⟩ v').heap[p]? = some (.cells (hv x) 30 (0, 0)) ∧ (w'.cell? ⟨b, 0, none⟩ = some (.slice xa (szN n).length xc) ∧ w'.frozen? ⟨b, 0, none⟩ = false)) := fun v' w' h1 h2 => by
    obtain ⟨h3, h4⟩ := HF2.out.1.turnS h2 h1
    have hr := rcells (HF2.out.1.grownS h2)
    refine ⟨h3, HF2.out.2.1.trans (Wh.refl _ _) (Tu.of_ch HF2.out.1 h4), (h4.block p (Array.getElem?_eq_some_iff.1 HF2.out.2.2).1 (fun e => ?_) (fun e => ?_) hne).trans HF2.out.2.2, hr.1, hr.2.2.1⟩
    · have := HF2.out.2.2
      rw [show p = b from e, HF2.out.1.box] at this
      have e3 := (Obj.cells.inj (Option.some.inj this)).2.1
      exact absurd e3 (by decide)
    · obtain ⟨-, cur, e3⟩ := row_at HF2.out.1.sz e
      rw [HF2.out.2.2] at e3
      cases e3
  have hlen1 : Hid ((szN n).length ≤ 1000) := by show _ ≤ _; omega
  have hlen2 : Hid (Hs.length ≤ 1000) := by show _ ≤ _; omega
  have HBl : Hid (B ≤ p) := by show _ ≤ _; omega
  clear h hF1 b1 b2 g1 g2 hR hxc hyc hpl hpc63 hl hBl
  generalize hX : hv x = X at *
  go_enter Tryd.func11, Tryd.ntmps11
  go_wp2_with fail
  refine HLn.out.mono ?_
  rintro e w1 ⟨rfl, rfl⟩
  go_upto_region 4 with (first | (refine wpList_plain rfl fun _ hK => wp_append_i1 (M := szN n) (.tmp 15) (.tmp 16) rfl rfl HF2.out.1.sz w1.heap.size 1 rfl c2 hlen1.out HF2.out.1.le (fun v' w3 h1 h2 => hK _ _ ?_); have HT3 : Hid _ := hT.out v' w3 h1 h2; obtain ⟨d3, f3⟩ := HT3.out.2.2.2; obtain ⟨va, vc, rfl, -⟩ := row_slice h1; clear h1 h2 c2 cc0 cc1 hw1 hw2) | fail)
  have HT4 : Hid (Rf (w3.setCell ⟨b, 0, none⟩ (.slice va ((szN n).length + 1) vc)) B b (.slice va ((szN n).length + 1) vc) (.slice ya Hs.length yc) (szN n ++ [1]) Hs ∧ Tu w B (.slice ya Hs.length yc) (w3.setCell ⟨b, 0, none⟩ (.slice va ((szN n).length + 1) vc)) ∧ (w3.setCell ⟨b, 0, none⟩ (.slice va ((szN n).length + 1) vc)).heap[p]? = some (.cells X 30 (0, 0))) := by
    have h9 := HT3.out
    simp only [List.length_append, List.length_singleton] at h9
    exact ⟨h9.1, h9.2.1, h9.2.2.1⟩
  clear HT3 hT HF2 d3 f3 hlen1
  generalize w3.setCell ⟨b, 0, none⟩ (.slice va ((szN n).length + 1) vc) = w4 at *
  have k4row : ∀ {W : World} {sv : Value}, Rf W B b sv (.slice ya Hs.length yc) (szN n ++ [1]) Hs → W.ownsRow B 30 32 (.slice ya Hs.length yc) Hs.length (hsv Hs) := fun h => h.hs
  have k4h32 := HH32.out
  have k4len := hlen2.out
  have k4n32 : ∀ y ∈ Hs ++ [x], y.length = 32 := fun y hy => (List.mem_append.1 hy).elim (HH32.out y) (fun e => by rw [List.mem_singleton.1 e]; exact hx)
  refine wp_region_held (S := (fun W => W.heap[p]? = some (.cells X 30 (0, 0)))) (by kernel_rfl) ?_
  change wpAnyH _ _ _ _ _ _ _ _ (World.drew _)
  have HX : (fun W => W.heap[p]? = some (.cells X 30 (0, 0))) w4.drew := HT4.out.2.2
  have hF := HT4.out.1.next (Below.refl _ _).drew
  have hU := HT4.out.2.1.trans (Wh.refl _ _) (Tu.of_below (Below.refl _ _).drew HT4.out.1.le)
  clear HT4
  generalize World.drew _ = x0 at *
  refine wpAnyH_take (i := 0) (v := .pointer (some ⟨b, 0, none⟩)) rfl (by kernel_rfl) (by kernel_rfl) (by kernel_rfl) (fun _ _ _ h => h) (Or.inl ⟨by rfl, by intro w9 _; go_simp⟩) HX ?_
  simp only [List.getElem_toArray, List.getElem_cons_succ, List.getElem_cons_zero, Act.put, List.setIfInBounds_toArray, List.set_cons_zero, List.set_cons_succ]
  refine wpAnyH_take (i := 1) (v := .pointer (some ⟨b, 0, none⟩)) rfl (by kernel_rfl) (by kernel_rfl) (by kernel_rfl) (fun _ _ _ h => h) (Or.inl ⟨by rfl, by intro w9 _; go_simp⟩) HX ?_
  simp only [List.getElem_toArray, List.getElem_cons_succ, List.getElem_cons_zero, Act.put, List.setIfInBounds_toArray, List.set_cons_zero, List.set_cons_succ]
  refine wpAnyH_take (i := 2) (v := .pointer (some ⟨b, 0, none⟩)) rfl (by kernel_rfl) (by kernel_rfl) (by kernel_rfl) (fun _ _ _ h => h) (Or.inl ⟨by rfl, by intro w9 _; go_simp⟩) HX ?_
  simp only [List.getElem_toArray, List.getElem_cons_succ, List.getElem_cons_zero, Act.put, List.setIfInBounds_toArray, List.set_cons_zero, List.set_cons_succ]
  refine wpAnyH_take (i := 3) (v := .pointer (some ⟨b, 1, none⟩)) rfl (by kernel_rfl) (by kernel_rfl) (by kernel_rfl) (fun _ _ _ h => h) (Or.inl ⟨by rfl, by intro w9 _; go_simp⟩) HX ?_
  simp only [List.getElem_toArray, List.getElem_cons_succ, List.getElem_cons_zero, Act.put, List.setIfInBounds_toArray, List.set_cons_zero, List.set_cons_succ]
  refine wpAnyH_take (i := 5) (v := .agg X) rfl (by kernel_rfl) (by kernel_rfl) (by kernel_rfl) (fun _ _ _ h => h) (yieldsIf_load_mid (by rfl) 30 _ rfl p 0 rfl X.toList _ (fun w' h => range_row h) Tryd.underlying30 rfl ic.out) HX ?_
  simp only [List.getElem_toArray, List.getElem_cons_succ, List.getElem_cons_zero, Act.put, List.setIfInBounds_toArray, List.set_cons_zero, List.set_cons_succ]
  refine wpAnyH_ready (rs := [4, 6]) (by kernel_rfl) (by simp) (AllReadyH.cons (by simp only [List.getElem?_toArray, List.getElem?_cons_succ, List.getElem?_cons_zero]; rfl) (fun K hK => ?_) (AllReadyH.cons (by simp only [List.getElem?_toArray, List.getElem?_cons_succ, List.getElem?_cons_zero]; rfl) (fun K hK => ?_) AllReadyH.nil))
  · refine step_want (by rfl) ?_
    have c9 := hF.cells.2
    go_simp
    clear c9
    refine hK.out _ _ HX (fun _ => ?_)
    clear hK K
    try simp only [List.getElem_toArray, List.getElem_cons_succ, List.getElem_cons_zero, Act.put, List.setIfInBounds_toArray, List.set_cons_zero, List.set_cons_succ]
    refine wpAnyH_ready (rs := [6]) (by kernel_rfl) (by simp) (AllReadyH.cons (by simp only [List.getElem?_toArray, List.getElem?_cons_succ, List.getElem?_cons_zero]; rfl) (fun K hK => ?_) AllReadyH.nil)
    refine step_want (by rfl) ?_
    go_simp
    have hN := HMk.out x0
    obtain ⟨x1, hw⟩ : ∃ x1, x0.alloc (.cells X 30) = x1 := ⟨_, rfl⟩
    have bc : Below x0.heap.size x0 x1 := by rw [← hw]; exact (Below.refl _ _).alloc (Nat.le_refl _) _
    obtain ⟨e1, he0⟩ : ∃ e1, x0.heap.size = e1 := ⟨_, rfl⟩
    rw [hw, he0] at hN
    rw [hw, he0]
    have HX := (bc.block _ (Array.getElem?_eq_some_iff.1 HX).1).trans HX
    have hU := hU.trans (Wh.refl _ _) (Tu.of_below bc hF.le)
    have hF := hF.next bc
    clear bc hw he0
    refine hK.out _ _ HX (fun _ => ?_)
    clear hK K
    try simp only [List.getElem_toArray, List.getElem_cons_succ, List.getElem_cons_zero, Act.put, List.setIfInBounds_toArray, List.set_cons_zero, List.set_cons_succ]
    refine wpAnyH_ready (rs := [7]) (by kernel_rfl) (by simp) (AllReadyH.cons (by simp only [List.getElem?_toArray, List.getElem?_cons_succ, List.getElem?_cons_zero]; rfl) (fun K hK => ?_) AllReadyH.nil)
    refine step_want (by rfl) ?_
    have hsz : w.heap.size ≤ x1.heap.size := hU.below.size
    refine wp_append_h1 (M := Hs) (.tmp 24) (.tmp 26) rfl rfl (k4row hF) (k4h32) e1 x rfl hN k4len hF.le ?_
    intro v' x2 r1 r2 r3
    obtain ⟨za, zc, rfl, -⟩ := row_slice r1
    have hbx := hF.grownH r2
    have hC := rcells hbx
    have HXo := HX
    have HX := (r2.block _ (Array.getElem?_eq_some_iff.1 HX).1 (fun e => hne e.symm)).trans HX
    clear hN
    refine hK.out _ _ HX (fun _ => ?_)
    clear hK K
    try simp only [List.getElem_toArray, List.getElem_cons_succ, List.getElem_cons_zero, Act.put, List.setIfInBounds_toArray, List.set_cons_zero, List.set_cons_succ]
    refine wpAnyH_take (i := 8) (v := .pointer (some ⟨b, 0, none⟩)) rfl (by kernel_rfl) (by kernel_rfl) (by kernel_rfl) (fun _ _ _ h => h) (Or.inl ⟨by rfl, by intro w9 _; go_simp⟩) HX ?_
    simp only [List.getElem_toArray, List.getElem_cons_succ, List.getElem_cons_zero, Act.put, List.setIfInBounds_toArray, List.set_cons_zero, List.set_cons_succ]
    refine wpAnyH_take (i := 9) (v := .pointer (some ⟨b, 1, none⟩)) rfl (by kernel_rfl) (by kernel_rfl) (by kernel_rfl) (fun _ _ _ h => h) (Or.inl ⟨by rfl, by intro w9 _; go_simp⟩) HX ?_
    simp only [List.getElem_toArray, List.getElem_cons_succ, List.getElem_cons_zero, Act.put, List.setIfInBounds_toArray, List.set_cons_zero, List.set_cons_succ]
    refine wpAnyH_ready (rs := [10]) (by kernel_rfl) (by simp) (AllReadyH.cons (by simp only [List.getElem?_toArray, List.getElem?_cons_succ, List.getElem?_cons_zero]; rfl) (fun K hK => ?_) AllReadyH.nil)
    refine step_want (by rfl) ?_
    obtain ⟨d0, d1, f0, f1⟩ := hC
    obtain ⟨hF9, hC9⟩ := hF.turnH r2 r1 (k4n32)
    have hU9 := hU.trans (Wh.refl _ _) (Tu.of_ch hF hC9)
    have HX : (fun W => W.heap[p]? = some (.cells X 30 (0, 0))) (x2.setCell ⟨b, 1, none⟩ (.slice za (Hs ++ [x]).length zc)) := box_stays HXo r2 hne hbx
    clear hF hU hC9 r1 r2 hbx HXo
    go_simp
    clear d0 d1 f0 f1
    simp only [List.length_append, List.length_singleton] at hF9 hU9 HX r3 ⊢
    generalize World.setCell _ _ (.slice za (Hs.length + 1) zc) = x3 at *
    refine hK.out _ _ HX (fun _ => ?_)
    clear hK K
    try simp only [List.getElem_toArray, List.getElem_cons_succ, List.getElem_cons_zero, Act.put, List.setIfInBounds_toArray, List.set_cons_zero, List.set_cons_succ]
    refine wpAnyH_done (by kernel_rfl) ?_ _
    have hWh : Wh w (.slice ya Hs.length yc) (.slice za (Hs.length + 1) zc) := fun k hk => by
      rcases r3 k hk with h8 | h8
      · exact .inl h8
      · exact .inr (Nat.le_trans hsz h8)
    have HL0 : Hid (Rf x3 B b (.slice va ((szN n).length + 1) vc) (.slice za (Hs.length + 1) zc) (mgS 1 n) (mgH Hs n x) ∧ Wh w (.slice ya Hs.length yc) (.slice za (Hs.length + 1) zc) ∧ Tu w B (.slice ya Hs.length yc) x3) := by
      rw [← HS0.out, ← HHs0.out]
      exact ⟨hF9, hWh, hU9⟩
    have hk0 : (szN n).length + 1 = pcN n + 1 := by rw [szN_length]
    have hcc := hF9.cells.1
    clear hF9 hU9 hWh r3 HX hsz
    go_wp2
    go_loopw [5] (fun kv wr => ∃ (s m : Nat) (y : List UInt8) (svv hwv : Value), Mg n Hs x s m y ∧ kv = .int .i64 ((pcN m + 1 : Nat) : Int) ∧ Rf wr B b svv hwv (mgS s m) (mgH Hs m y) ∧ Wh w (.slice ya Hs.length yc) hwv ∧ Tu w B (.slice ya Hs.length yc) wr) (fun kv _ => (intOf kv).toNat)
    case atStart => exact ⟨1, n, x, _, _, HMg0.out, by first | rfl | (rw [← hk0]; rfl), HL0.out.1, HL0.out.2.1, HL0.out.2.2⟩
    case round =>
      obtain ⟨s, m, y, svv, hwv, g, rfl, hF, hWh, hU⟩ := hrel
      clear HL0 hcc hk0
      obtain ⟨sa, sc, rfl, hsc⟩ := row_slice hF.sz
      rw [mgS_length] at hsc
      have hF' := hF
      rw [mgS_length] at hF
      obtain ⟨q, hq⟩ | hq0 : (∃ q, pcN m = q + 1) ∨ pcN m = 0 := by
        cases pcN m with
        | zero => exact .inr rfl
        | succ q => exact .inl ⟨q, rfl⟩
      · have hq63 : q + 1 ≤ 63 := by rw [← hq]; exact HPc.out m s y g
        rw [hq] at hF hsc ⊢
        have hlast := mgS_last s m
        rw [hq] at hlast
        obtain ⟨gs, sc', hsl, -, -⟩ := hF'.size_at hlast
        rw [mgS_length, hq] at hsl
        obtain ⟨rfl, -, rfl⟩ := Value.slice.inj hsl
        have hcl : ∀ W, Below wr.heap.size wr W → W.cell? ⟨gs, q + 1, none⟩ = some (.int .i64 (s : Int)) := fun W hW => by
          obtain ⟨g', c', e, -, h⟩ := (hF'.next hW).size_at hlast
          obtain ⟨e1, -, -⟩ := Value.slice.inj e
          simp at e1
          subst e1
          exact h
        have k0 : (0 : Int) ≤ (q : Int) := by omega
        have k1 : (1 : Int) < (q : Int) + 2 := by omega
        have k2 : (q : Int) + 1 < (q : Int) + 1 + 1 := by omega
        have k3 : (0 : Int) ≤ (q : Int) + 1 := by omega
        have k4 : (q : Int) < (q : Int) + 1 + 1 := by omega
        have kw := k_wrap q (by omega)
        have kw1 : Hid (IntKind.i64.wrap ((q : Int) + 2 - 1) = (q : Int) + 1 ∧ IntKind.i64.wrap ((q : Int) + 2 - 2) = (q : Int)) := ⟨by rw [IntKind.wrap_i64]; omega, by rw [IntKind.wrap_i64]; omega⟩
        have kw3 : Hid (IntKind.i64.wrap (q : Int) = (q : Int)) := by show _ = _; rw [IntKind.wrap_i64]; omega
        have KW : Hid (wrap64 ((q : Int) + 2 - 2) = (q : Int) ∧ wrap64 ((q : Int) + 2 - 1) = (q : Int) + 1) := kw
        have kk : ((q + 1 + 1 : Nat) : Int) = (q : Int) + 2 := by omega
        rw [kk]
        clear kw kk
        obtain ⟨tq, htq, hpar⟩ : ∃ tq, (mgS s m)[q]? = some tq ∧ ((∃ m', m = 2 * m' + 1 ∧ pcN m' = q ∧ tq = s) ∨ ((∃ m', m = 2 * m') ∧ tq ≠ s)) := by
          rcases two_or m with ⟨m', rfl⟩ | ⟨m', rfl⟩
          · rw [pc_two] at hq
            obtain ⟨tq, h1, h2⟩ := mgS_even s m' q g.le.2 hq
            exact ⟨tq, h1, .inr ⟨⟨m', rfl⟩, h2⟩⟩
          · rw [pc_odd] at hq
            have hq' : pcN m' = q := by omega
            exact ⟨s, by rw [← hq']; exact mgS_odd s m', .inl ⟨m', rfl, hq', rfl⟩⟩
        have hct : ∀ W, Below wr.heap.size wr W → W.cell? ⟨gs, q, none⟩ = some (.int .i64 (tq : Int)) := fun W hW => by
          obtain ⟨g', c', e, -, h⟩ := (hF'.next hW).size_at htq
          obtain ⟨e1, -, -⟩ := Value.slice.inj e
          simp at e1
          subst e1
          exact h
        have HCs : Hid (∀ W, Below wr.heap.size wr W → W.cell? ⟨b, 0, none⟩ = some (.slice (some ⟨gs, 0, none⟩) (q + 1 + 1) sc) ∧ W.cell? ⟨gs, q + 1, none⟩ = some (.int .i64 (s : Int)) ∧ W.cell? ⟨gs, q, none⟩ = some (.int .i64 (tq : Int))) := fun W hW => ⟨(hF.next hW).cells.1, hcl W hW, hct W hW⟩
        have H0 : Hid (∀ W, Below wr.heap.size wr W → Rf W B b (.slice (some ⟨gs, 0, none⟩) (q + 1 + 1) sc) hwv (mgS s m) (mgH Hs m y) ∧ Tu w B (.slice ya Hs.length yc) W) := fun W hW => ⟨hF.next hW, hU.trans hWh (Tu.of_below hW hF.le)⟩
        have HW0 : Hid (Wh w (.slice ya Hs.length yc) hwv) := hWh
        have HG : Hid (Mg n Hs x s m y) := g
        have HX0 : Hid (Below wr.heap.size wr wr) := Below.refl _ _
        clear hcl hct hF hF' hU hWh hlast htq hsl g hsc
        rcases hpar with ⟨m', rfl, hq', hts⟩ | ⟨⟨m', rfl⟩, htne⟩
        · obtain rfl : s = tq := hts.symm
          have HQ' : Hid (pcN m' = q) := hq'
          clear hq hts hq'
          go_upto_region 6 with fail
          refine wp_region_held (S := Below wr.heap.size wr) (by kernel_rfl) ?_
          change wpAnyH _ _ _ _ _ _ _ _ (World.drew _)
          have HX : Below wr.heap.size wr wr.drew := HX0.out.drew
          clear HX0
          generalize World.drew _ = y0 at *
          refine wpAnyH_take (i := 0) (v := .int .i64 ((q : Int) + 2)) rfl (by kernel_rfl) (by kernel_rfl) (by kernel_rfl) (fun _ _ _ h => h) (Or.inl ⟨by rfl, by intro w9 _; go_simp⟩) HX ?_
          simp only [List.getElem_toArray, List.getElem_cons_succ, List.getElem_cons_zero, Act.put, List.setIfInBounds_toArray, List.set_cons_zero, List.set_cons_succ]
          refine wpAnyH_take (i := 1) (v := .bool true) rfl (by kernel_rfl) (by kernel_rfl) (by kernel_rfl) (fun _ _ _ h => h) (Or.inl ⟨by rfl, by intro w9 _; go_simp⟩) HX ?_
          simp only [List.getElem_toArray, List.getElem_cons_succ, List.getElem_cons_zero, Act.put, List.setIfInBounds_toArray, List.set_cons_zero, List.set_cons_succ]
          refine wpAnyH_take (i := 2) (v := .bool true) rfl (by kernel_rfl) (by kernel_rfl) (by kernel_rfl) (fun _ _ _ h => h) (Or.inl ⟨by rfl, by intro w9 _; go_simp⟩) HX ?_
          simp only [List.getElem_toArray, List.getElem_cons_succ, List.getElem_cons_zero, Act.put, List.setIfInBounds_toArray, List.set_cons_zero, List.set_cons_succ]
          refine wpAnyH_take (i := 3) (v := .pointer (some ⟨b, 0, none⟩)) rfl (by kernel_rfl) (by kernel_rfl) (by kernel_rfl) (fun _ _ _ h => h) (Or.inl ⟨by rfl, by intro w9 _; go_simp⟩) HX ?_
          simp only [List.getElem_toArray, List.getElem_cons_succ, List.getElem_cons_zero, Act.put, List.setIfInBounds_toArray, List.set_cons_zero, List.set_cons_succ]
          refine wpAnyH_take (i := 4) (v := .pointer (some ⟨b, 0, none⟩)) rfl (by kernel_rfl) (by kernel_rfl) (by kernel_rfl) (fun _ _ _ h => h) (Or.inl ⟨by rfl, by intro w9 _; go_simp⟩) HX ?_
          simp only [List.getElem_toArray, List.getElem_cons_succ, List.getElem_cons_zero, Act.put, List.setIfInBounds_toArray, List.set_cons_zero, List.set_cons_succ]
          refine wpAnyH_take (i := 5) (v := .pointer (some ⟨b, 0, none⟩)) rfl (by kernel_rfl) (by kernel_rfl) (by kernel_rfl) (fun _ _ _ h => h) (Or.inl ⟨by rfl, by intro w9 _; go_simp⟩) HX ?_
          simp only [List.getElem_toArray, List.getElem_cons_succ, List.getElem_cons_zero, Act.put, List.setIfInBounds_toArray, List.set_cons_zero, List.set_cons_succ]
          refine wpAnyH_take (i := 6) (v := .slice (some ⟨gs, 0, none⟩) (q + 1 + 1) sc) rfl (by kernel_rfl) (by kernel_rfl) (by kernel_rfl) (fun _ _ _ h => h) (Or.inl ⟨by rfl, by intro w9 h9; obtain ⟨c7, c8, c9⟩ := HCs.out w9 h9; go_simp⟩) HX ?_
          simp only [List.getElem_toArray, List.getElem_cons_succ, List.getElem_cons_zero, Act.put, List.setIfInBounds_toArray, List.set_cons_zero, List.set_cons_succ]
          refine wpAnyH_take (i := 7) (v := .int .i64 ((q : Int) + 2)) rfl (by kernel_rfl) (by kernel_rfl) (by kernel_rfl) (fun _ _ _ h => h) (Or.inl ⟨by rfl, by intro w9 _; go_simp⟩) HX ?_
          simp only [List.getElem_toArray, List.getElem_cons_succ, List.getElem_cons_zero, Act.put, List.setIfInBounds_toArray, List.set_cons_zero, List.set_cons_succ]
          refine wpAnyH_take (i := 8) (v := .int .i64 ((q : Int) + 1)) rfl (by kernel_rfl) (by kernel_rfl) (by kernel_rfl) (fun _ _ _ h => h) (Or.inl ⟨by rfl, by intro w9 _; have k9 := kw1.out.1; go_simp⟩) HX ?_
          simp only [List.getElem_toArray, List.getElem_cons_succ, List.getElem_cons_zero, Act.put, List.setIfInBounds_toArray, List.set_cons_zero, List.set_cons_succ]
          refine wpAnyH_take (i := 9) (v := .pointer (some ⟨gs, q + 1, none⟩)) rfl (by kernel_rfl) (by kernel_rfl) (by kernel_rfl) (fun _ _ _ h => h) (Or.inl ⟨by rfl, by intro w9 _; go_simp⟩) HX ?_
          simp only [List.getElem_toArray, List.getElem_cons_succ, List.getElem_cons_zero, Act.put, List.setIfInBounds_toArray, List.set_cons_zero, List.set_cons_succ]
          refine wpAnyH_take (i := 10) (v := .int .i64 (s : Int)) rfl (by kernel_rfl) (by kernel_rfl) (by kernel_rfl) (fun _ _ _ h => h) (Or.inl ⟨by rfl, by intro w9 h9; obtain ⟨c7, c8, c9⟩ := HCs.out w9 h9; go_simp⟩) HX ?_
          simp only [List.getElem_toArray, List.getElem_cons_succ, List.getElem_cons_zero, Act.put, List.setIfInBounds_toArray, List.set_cons_zero, List.set_cons_succ]
          refine wpAnyH_take (i := 11) (v := .pointer (some ⟨b, 0, none⟩)) rfl (by kernel_rfl) (by kernel_rfl) (by kernel_rfl) (fun _ _ _ h => h) (Or.inl ⟨by rfl, by intro w9 _; go_simp⟩) HX ?_
          simp only [List.getElem_toArray, List.getElem_cons_succ, List.getElem_cons_zero, Act.put, List.setIfInBounds_toArray, List.set_cons_zero, List.set_cons_succ]
          refine wpAnyH_take (i := 12) (v := .pointer (some ⟨b, 0, none⟩)) rfl (by kernel_rfl) (by kernel_rfl) (by kernel_rfl) (fun _ _ _ h => h) (Or.inl ⟨by rfl, by intro w9 _; go_simp⟩) HX ?_
          simp only [List.getElem_toArray, List.getElem_cons_succ, List.getElem_cons_zero, Act.put, List.setIfInBounds_toArray, List.set_cons_zero, List.set_cons_succ]
          refine wpAnyH_take (i := 13) (v := .pointer (some ⟨b, 0, none⟩)) rfl (by kernel_rfl) (by kernel_rfl) (by kernel_rfl) (fun _ _ _ h => h) (Or.inl ⟨by rfl, by intro w9 _; go_simp⟩) HX ?_
          simp only [List.getElem_toArray, List.getElem_cons_succ, List.getElem_cons_zero, Act.put, List.setIfInBounds_toArray, List.set_cons_zero, List.set_cons_succ]
          refine wpAnyH_take (i := 14) (v := .slice (some ⟨gs, 0, none⟩) (q + 1 + 1) sc) rfl (by kernel_rfl) (by kernel_rfl) (by kernel_rfl) (fun _ _ _ h => h) (Or.inl ⟨by rfl, by intro w9 h9; obtain ⟨c7, c8, c9⟩ := HCs.out w9 h9; go_simp⟩) HX ?_
          simp only [List.getElem_toArray, List.getElem_cons_succ, List.getElem_cons_zero, Act.put, List.setIfInBounds_toArray, List.set_cons_zero, List.set_cons_succ]
          refine wpAnyH_take (i := 15) (v := .int .i64 ((q : Int) + 2)) rfl (by kernel_rfl) (by kernel_rfl) (by kernel_rfl) (fun _ _ _ h => h) (Or.inl ⟨by rfl, by intro w9 _; go_simp⟩) HX ?_
          simp only [List.getElem_toArray, List.getElem_cons_succ, List.getElem_cons_zero, Act.put, List.setIfInBounds_toArray, List.set_cons_zero, List.set_cons_succ]
          refine wpAnyH_take (i := 16) (v := .int .i64 (q : Int)) rfl (by kernel_rfl) (by kernel_rfl) (by kernel_rfl) (fun _ _ _ h => h) (Or.inl ⟨by rfl, by intro w9 _; go_simp; exact kw3.out⟩) HX ?_
          simp only [List.getElem_toArray, List.getElem_cons_succ, List.getElem_cons_zero, Act.put, List.setIfInBounds_toArray, List.set_cons_zero, List.set_cons_succ]
          refine wpAnyH_take (i := 17) (v := .pointer (some ⟨gs, q, none⟩)) rfl (by kernel_rfl) (by kernel_rfl) (by kernel_rfl) (fun _ _ _ h => h) (Or.inl ⟨by rfl, by intro w9 _; go_simp⟩) HX ?_
          simp only [List.getElem_toArray, List.getElem_cons_succ, List.getElem_cons_zero, Act.put, List.setIfInBounds_toArray, List.set_cons_zero, List.set_cons_succ]
          refine wpAnyH_take (i := 18) (v := .int .i64 (s : Int)) rfl (by kernel_rfl) (by kernel_rfl) (by kernel_rfl) (fun _ _ _ h => h) (Or.inl ⟨by rfl, by intro w9 h9; obtain ⟨c7, c8, c9⟩ := HCs.out w9 h9; go_simp⟩) HX ?_
          simp only [List.getElem_toArray, List.getElem_cons_succ, List.getElem_cons_zero, Act.put, List.setIfInBounds_toArray, List.set_cons_zero, List.set_cons_succ]
          refine wpAnyH_take (i := 19) (v := .bool true) rfl (by kernel_rfl) (by kernel_rfl) (by kernel_rfl) (fun _ _ _ h => h) (Or.inl ⟨by rfl, by intro w9 _; go_simp⟩) HX ?_
          simp only [List.getElem_toArray, List.getElem_cons_succ, List.getElem_cons_zero, Act.put, List.setIfInBounds_toArray, List.set_cons_zero, List.set_cons_succ]
          refine wpAnyH_take (i := 20) (v := .bool true) rfl (by kernel_rfl) (by kernel_rfl) (by kernel_rfl) (fun _ _ _ h => h) (Or.inl ⟨by rfl, by intro w9 _; go_simp⟩) HX ?_
          simp only [List.getElem_toArray, List.getElem_cons_succ, List.getElem_cons_zero, Act.put, List.setIfInBounds_toArray, List.set_cons_zero, List.set_cons_succ]
          refine wpAnyH_done (by kernel_rfl) ?_ _
          have HY : Hid (Below wr.heap.size wr y0) := HX
          clear HX
          have hF8 := (H0.out _ HY.out).1
          have hU8 := (H0.out _ HY.out).2
          have g := HG.out
          have hq := HQ'.out
          have hodd : pcN (2 * m' + 1) = q + 1 := by rw [pc_odd, hq]
          have hml := mgH_length g
          rw [hodd] at hml
          have hfew := g.few
          rw [hodd] at hfew
          obtain ⟨xq, hxq⟩ : ∃ xq, Hs[q]? = some xq := ⟨_, List.getElem?_eq_getElem (by omega)⟩
          have hxq32 := HH32.out xq (List.mem_of_getElem? hxq)
          have hat1 : (mgH Hs (2 * m' + 1) y)[q]? = some xq := by rw [mgH_at g (by omega)]; exact hxq
          have hat2 : (mgH Hs (2 * m' + 1) y)[q + 1]? = some y := by
            have := mgH_last g
            rwa [hodd] at this
          obtain ⟨wa, wc, rfl, hwc⟩ := row_slice hF8.hs
          have HML : Hid ((mgH Hs (2 * m' + 1) y).length = q + 1 + 1) := hml
          rw [hml] at hF8 HW0 H0 hwc
          have hA := hF8.hsAt
          obtain ⟨-, hb, ho, rfl, -⟩ := hA.cells.2 q xq hat1
          have HR1 : Hid (∀ W, Below y0.heap.size y0 W → W.rangeAt hb (ho + q * 32) (hv xq).toList ∧ W.rangeAt hb (ho + (q + 1) * 32) (hv y).toList ∧ W.cell? ⟨b, 1, none⟩ = some (.slice (some ⟨hb, ho, none⟩) (q + 1 + 1) wc)) := fun W hW => by
            obtain ⟨-, b1', o1', e1, r1⟩ := hA.cells.2 q xq hat1
            obtain ⟨-, b2', o2', e2, r2⟩ := hA.cells.2 (q + 1) y hat2
            simp at e1 e2
            obtain ⟨rfl, rfl⟩ := e1
            obtain ⟨rfl, rfl⟩ := e2
            exact ⟨r1 W hW, r2 W hW, (hF8.next hW).cells.2⟩
          have hRT : Hid (∀ W, Below B w W → TabR W) := HTR.out
          have hn32 : (nodeL xq y).length = 32 := shaL_length _
          have hy32 := g.y32
          have HNd : Hid (∀ W, Below y0.heap.size y0 W → Calls Tryd.prog 30 #[.agg (hv xq), .agg (hv y)] W fun e w' => e = .returned (.agg (hv (nodeL xq y))) ∧ Below W.heap.size W w') := fun W hW => rnode_any xq y W (HTR.out W (hU8.below.trans (hW.mono hF8.le))) hxq32 hy32
          have hqs : (hv xq).size = 32 := by rw [hv_size, hxq32]
          have hysz : (hv y).size = 32 := by rw [hv_size, hy32]
          have hUs : (hv (nodeL xq y)).size = 32 := by rw [hv_size, hn32]
          have icq : Hid ((Tryd.prog.info? 30).map (·.size) = some (hv xq).toList.length) := by show _ = _; rw [info_h32, Array.length_toList, hqs]
          have icy : Hid ((Tryd.prog.info? 30).map (·.size) = some (hv y).toList.length) := by show _ = _; rw [info_h32, Array.length_toList, hysz]
          have icU : Hid ((Tryd.prog.info? 30).map (·.size) = some (hv (nodeL xq y)).toList.length) := by show _ = _; rw [info_h32, Array.length_toList, hUs]
          have hU1 := hv_one (nodeL xq y)
          have hbldU := build_hash (hv (nodeL xq y)) hUs
          rw [zero_h32] at hbldU
          have HMkU : Hid (∀ W : World, HsAt (W.alloc (.cells (hv (nodeL xq y)) 30)) (.slice (some ⟨W.heap.size, 0, none⟩) 1 1) [nodeL xq y]) := fun W => hs_made rfl hn32
          have HZb : Hid (∀ W : World, ∃ W', W.alloc (.cells (hv (padTo 32 [])) 30) = W' ∧ Below W.heap.size W W' ∧ W'.heap[W.heap.size]? = some (.cells (hv (padTo 32 [])) 30 (0, 0))) := hash_box
          have hz32 := hz_size
          rw [zero_h32] at HZb hz32
          have HMs : Hid (Mg n Hs x (2 * s) m' (nodeL xq y)) := g.step (by rw [hq]; exact hxq)
          have HTKx : Hid ((mgH Hs (2 * m' + 1) y).take q = Hs.take q ∧ mgH Hs m' (nodeL xq y) = Hs.take q ++ [nodeL xq y] ∧ (Hs.take q).length = q) := ⟨mgH_take g (by omega), by rw [mgH, hq], by rw [List.length_take]; omega⟩
          have HSKx : Hid ((mgS s (2 * m' + 1)).take q ++ [2 * s] = mgS (2 * s) m' ∧ ((mgS s (2 * m' + 1)).take q).length = q) := ⟨by have := mgS_step s m'; rwa [hq] at this, by rw [List.length_take, mgS_length, hodd]; omega⟩
          have hs2 : 2 * s ≤ 9223372036854775807 := by
            have h1 := g.le.1
            have h2 : s * 2 ≤ s * (2 * m' + 1 + 1) := Nat.mul_le_mul_left s (by omega)
            omega
          obtain ⟨u, hu⟩ : ∃ u, 2 * s = u := ⟨_, rfl⟩
          have HTW : Hid (wrap64 (2 * (s : Int)) = (u : Int)) := by
            have := two_wrap s hs2
            rwa [hu] at this
          have HUU : Hid (2 * s = u) := hu
          have HF8 : Hid (Rf y0 B b (.slice (some ⟨gs, 0, none⟩) (q + 1 + 1) sc) (.slice (some ⟨hb, ho, none⟩) (q + 1 + 1) wc) (mgS s (2 * m' + 1)) (mgH Hs (2 * m' + 1) y) ∧ Tu w B (.slice ya Hs.length yc) y0) := ⟨hF8, hU8⟩
          have HCz : Hid (∀ W, Below y0.heap.size y0 W → W.cell? ⟨gs, q + 1, none⟩ = some (.int .i64 (s : Int))) := fun W hW => (HCs.out W (HY.out.trans (hW.mono HY.out.size))).2.1
          have HXy : Hid (Below y0.heap.size y0 y0) := Below.refl _ _
          have hqw : q ≤ wc := by omega
          have hqw1 : (q : Int) ≤ (wc : Int) := by omega
          have hqc : Hid (q + 1 + 1 ≤ sc) := by
            obtain ⟨a9, c9, e9, h9⟩ := row_slice hF8.sz
            have e8 := Value.slice.inj e9
            show _ ≤ _
            omega
          have hqc1 : q ≤ sc := by have := hqc.out; omega
          have hqc2 : (q : Int) ≤ (sc : Int) := by omega
          have hq63' : q ≤ 1000 := by omega
          clear hF8 hU8 g hq hodd hml hfew hxq hxq32 hat1 hat2 hwc hA hn32 hy32 hs2 hu HCs H0 HY HG HMg0 HS0 HHs0
          generalize hv xq = XQ at *
          generalize hv y = YY at *
          generalize hUU : hv (nodeL xq y) = U at *
          go_upto_region 8 with fail
          refine wp_region_held (S := Below y0.heap.size y0) (by kernel_rfl) ?_
          change wpAnyH _ _ _ _ _ _ _ _ (World.drew _)
          have HX : Below y0.heap.size y0 y0.drew := HXy.out.drew
          clear HXy
          generalize World.drew _ = z0 at *
          refine wpAnyH_take (i := 0) (v := .pointer (some ⟨b, 0, none⟩)) rfl (by kernel_rfl) (by kernel_rfl) (by kernel_rfl) (fun _ _ _ h => h) (Or.inl ⟨by rfl, by intro w9 _; go_simp⟩) HX ?_
          simp only [List.getElem_toArray, List.getElem_cons_succ, List.getElem_cons_zero, Act.put, List.setIfInBounds_toArray, List.set_cons_zero, List.set_cons_succ]
          refine wpAnyH_take (i := 1) (v := .pointer (some ⟨b, 0, none⟩)) rfl (by kernel_rfl) (by kernel_rfl) (by kernel_rfl) (fun _ _ _ h => h) (Or.inl ⟨by rfl, by intro w9 _; go_simp⟩) HX ?_
          simp only [List.getElem_toArray, List.getElem_cons_succ, List.getElem_cons_zero, Act.put, List.setIfInBounds_toArray, List.set_cons_zero, List.set_cons_succ]
          refine wpAnyH_take (i := 2) (v := .pointer (some ⟨b, 1, none⟩)) rfl (by kernel_rfl) (by kernel_rfl) (by kernel_rfl) (fun _ _ _ h => h) (Or.inl ⟨by rfl, by intro w9 _; go_simp⟩) HX ?_
          simp only [List.getElem_toArray, List.getElem_cons_succ, List.getElem_cons_zero, Act.put, List.setIfInBounds_toArray, List.set_cons_zero, List.set_cons_succ]
          refine wpAnyH_take (i := 3) (v := .slice (some ⟨hb, ho, none⟩) (q + 1 + 1) wc) rfl (by kernel_rfl) (by kernel_rfl) (by kernel_rfl) (fun _ _ _ h => h) (Or.inl ⟨by rfl, by intro w9 h9; have c9 := (HR1.out w9 h9).2.2; go_simp⟩) HX ?_
          simp only [List.getElem_toArray, List.getElem_cons_succ, List.getElem_cons_zero, Act.put, List.setIfInBounds_toArray, List.set_cons_zero, List.set_cons_succ]
          refine wpAnyH_take (i := 4) (v := .int .i64 ((q : Int) + 2)) rfl (by kernel_rfl) (by kernel_rfl) (by kernel_rfl) (fun _ _ _ h => h) (Or.inl ⟨by rfl, by intro w9 _; go_simp⟩) HX ?_
          simp only [List.getElem_toArray, List.getElem_cons_succ, List.getElem_cons_zero, Act.put, List.setIfInBounds_toArray, List.set_cons_zero, List.set_cons_succ]
          refine wpAnyH_take (i := 5) (v := .int .i64 (q : Int)) rfl (by kernel_rfl) (by kernel_rfl) (by kernel_rfl) (fun _ _ _ h => h) (Or.inl ⟨by rfl, by intro w9 _; go_simp; exact kw3.out⟩) HX ?_
          simp only [List.getElem_toArray, List.getElem_cons_succ, List.getElem_cons_zero, Act.put, List.setIfInBounds_toArray, List.set_cons_zero, List.set_cons_succ]
          refine wpAnyH_take (i := 6) (v := .pointer (some ⟨hb, ho + q * 32, none⟩)) rfl (by kernel_rfl) (by kernel_rfl) (by kernel_rfl) (fun _ _ _ h => h) (Or.inl ⟨by rfl, by intro w9 _; go_simp⟩) HX ?_
          simp only [List.getElem_toArray, List.getElem_cons_succ, List.getElem_cons_zero, Act.put, List.setIfInBounds_toArray, List.set_cons_zero, List.set_cons_succ]
          refine wpAnyH_take (i := 7) (v := .agg XQ) rfl (by kernel_rfl) (by kernel_rfl) (by kernel_rfl) (fun _ _ _ h => h) (yieldsIf_load_mid (by rfl) 30 _ rfl hb (ho + q * 32) rfl XQ.toList _ (fun w' h => (HR1.out w' h).1) Tryd.underlying30 rfl icq.out) HX ?_
          simp only [List.getElem_toArray, List.getElem_cons_succ, List.getElem_cons_zero, Act.put, List.setIfInBounds_toArray, List.set_cons_zero, List.set_cons_succ]
          refine wpAnyH_take (i := 8) (v := .pointer (some ⟨b, 0, none⟩)) rfl (by kernel_rfl) (by kernel_rfl) (by kernel_rfl) (fun _ _ _ h => h) (Or.inl ⟨by rfl, by intro w9 _; go_simp⟩) HX ?_
          simp only [List.getElem_toArray, List.getElem_cons_succ, List.getElem_cons_zero, Act.put, List.setIfInBounds_toArray, List.set_cons_zero, List.set_cons_succ]
          refine wpAnyH_take (i := 9) (v := .pointer (some ⟨b, 0, none⟩)) rfl (by kernel_rfl) (by kernel_rfl) (by kernel_rfl) (fun _ _ _ h => h) (Or.inl ⟨by rfl, by intro w9 _; go_simp⟩) HX ?_
          simp only [List.getElem_toArray, List.getElem_cons_succ, List.getElem_cons_zero, Act.put, List.setIfInBounds_toArray, List.set_cons_zero, List.set_cons_succ]
          refine wpAnyH_take (i := 10) (v := .pointer (some ⟨b, 1, none⟩)) rfl (by kernel_rfl) (by kernel_rfl) (by kernel_rfl) (fun _ _ _ h => h) (Or.inl ⟨by rfl, by intro w9 _; go_simp⟩) HX ?_
          simp only [List.getElem_toArray, List.getElem_cons_succ, List.getElem_cons_zero, Act.put, List.setIfInBounds_toArray, List.set_cons_zero, List.set_cons_succ]
          refine wpAnyH_take (i := 11) (v := .slice (some ⟨hb, ho, none⟩) (q + 1 + 1) wc) rfl (by kernel_rfl) (by kernel_rfl) (by kernel_rfl) (fun _ _ _ h => h) (Or.inl ⟨by rfl, by intro w9 h9; have c9 := (HR1.out w9 h9).2.2; go_simp⟩) HX ?_
          simp only [List.getElem_toArray, List.getElem_cons_succ, List.getElem_cons_zero, Act.put, List.setIfInBounds_toArray, List.set_cons_zero, List.set_cons_succ]
          refine wpAnyH_take (i := 12) (v := .int .i64 ((q : Int) + 2)) rfl (by kernel_rfl) (by kernel_rfl) (by kernel_rfl) (fun _ _ _ h => h) (Or.inl ⟨by rfl, by intro w9 _; go_simp⟩) HX ?_
          simp only [List.getElem_toArray, List.getElem_cons_succ, List.getElem_cons_zero, Act.put, List.setIfInBounds_toArray, List.set_cons_zero, List.set_cons_succ]
          refine wpAnyH_take (i := 13) (v := .int .i64 ((q : Int) + 1)) rfl (by kernel_rfl) (by kernel_rfl) (by kernel_rfl) (fun _ _ _ h => h) (Or.inl ⟨by rfl, by intro w9 _; have k9 := kw1.out.1; go_simp⟩) HX ?_
          simp only [List.getElem_toArray, List.getElem_cons_succ, List.getElem_cons_zero, Act.put, List.setIfInBounds_toArray, List.set_cons_zero, List.set_cons_succ]
          refine wpAnyH_take (i := 14) (v := .pointer (some ⟨hb, ho + (q + 1) * 32, none⟩)) rfl (by kernel_rfl) (by kernel_rfl) (by kernel_rfl) (fun _ _ _ h => h) (Or.inl ⟨by rfl, by intro w9 _; go_simp⟩) HX ?_
          simp only [List.getElem_toArray, List.getElem_cons_succ, List.getElem_cons_zero, Act.put, List.setIfInBounds_toArray, List.set_cons_zero, List.set_cons_succ]
          refine wpAnyH_take (i := 15) (v := .agg YY) rfl (by kernel_rfl) (by kernel_rfl) (by kernel_rfl) (fun _ _ _ h => h) (yieldsIf_load_mid (by rfl) 30 _ rfl hb (ho + (q + 1) * 32) rfl YY.toList _ (fun w' h => (HR1.out w' h).2.1) Tryd.underlying30 rfl icy.out) HX ?_
          simp only [List.getElem_toArray, List.getElem_cons_succ, List.getElem_cons_zero, Act.put, List.setIfInBounds_toArray, List.set_cons_zero, List.set_cons_succ]
          refine wpAnyH_ready (rs := [16, 17]) (by kernel_rfl) (by simp) (AllReadyH.cons (by simp only [List.getElem?_toArray, List.getElem?_cons_succ, List.getElem?_cons_zero]; rfl) (fun K hK => ?_) (AllReadyH.cons (by simp only [List.getElem?_toArray, List.getElem?_cons_succ, List.getElem?_cons_zero]; rfl) (fun K hK => ?_) AllReadyH.nil))
          · refine step_want (by rfl) ?_
            go_simp
            refine (HNd.out _ HX).mono ?_
            rintro e z1 ⟨rfl, bc⟩
            have HX : Below y0.heap.size y0 z1 := HX.trans (bc.mono HX.size)
            clear bc
            refine hK.out _ _ HX (fun _ => ?_)
            clear hK K
            try simp only [List.getElem_toArray, List.getElem_cons_succ, List.getElem_cons_zero, Act.put, List.setIfInBounds_toArray, List.set_cons_zero, List.set_cons_succ]
            refine wpAnyH_ready (rs := [17]) (by kernel_rfl) (by simp) (AllReadyH.cons (by simp only [List.getElem?_toArray, List.getElem?_cons_succ, List.getElem?_cons_zero]; rfl) (fun K hK => ?_) AllReadyH.nil)
            refine step_want (by rfl) ?_
            go_simp
            have hqy : y0.heap.size ≤ z1.heap.size := HX.size
            obtain ⟨z2, hw, bc, gq⟩ := HZb.out z1
            have HX : Below y0.heap.size y0 z2 := HX.trans (bc.mono HX.size)
            obtain ⟨q8, hq8⟩ : ∃ q8, z1.heap.size = q8 := ⟨_, rfl⟩
            rw [hq8] at gq hqy
            rw [hw, hq8]
            clear bc hw hq8
            refine hK.out _ _ HX (fun _ => ?_)
            clear hK K
            try simp only [List.getElem_toArray, List.getElem_cons_succ, List.getElem_cons_zero, Act.put, List.setIfInBounds_toArray, List.set_cons_zero, List.set_cons_succ]
            refine wpAnyH_ready (rs := [18]) (by kernel_rfl) (by simp) (AllReadyH.cons (by simp only [List.getElem?_toArray, List.getElem?_cons_succ, List.getElem?_cons_zero]; rfl) (fun K hK => ?_) AllReadyH.nil)
            refine step_want (by rfl) ?_
            refine wp_store_row 30 _ _ rfl q8 U rfl rfl _ _ gq (by rw [info_h32, hUs]) (by rw [hz32, hUs]) hU1 ?_
            have HX : Below y0.heap.size y0 (z2.setRow q8 U) := below_setRow HX hqy _
            have gq := heap_setRow_same (ds := U) gq
            generalize z2.setRow q8 U = z3 at *
            refine hK.out _ _ HX (fun _ => ?_)
            clear hK K
            try simp only [List.getElem_toArray, List.getElem_cons_succ, List.getElem_cons_zero, Act.put, List.setIfInBounds_toArray, List.set_cons_zero, List.set_cons_succ]
            refine wpAnyH_done (by kernel_rfl) ?_ _
            have HZ : Hid (Below y0.heap.size y0 z3 ∧ z3.heap[q8]? = some (.cells U 30 (0, 0)) ∧ y0.heap.size ≤ q8) := ⟨HX, gq, hqy⟩
            have hFz := HF8.out.1.next HX
            have hUz := HF8.out.2.trans HW0.out (Tu.of_below HX HF8.out.1.le)
            obtain ⟨cc0, cc1⟩ := hFz.cells
            have cs := HCz.out _ HX
            obtain ⟨w5, hw5⟩ : ∃ w5, World.alloc z3 (.cells #[.int .i64 (u : Int)] 3) = w5 := ⟨_, rfl⟩
            have b5 : Below (World.heap z3).size z3 w5 := by rw [← hw5]; exact (Below.refl _ _).alloc (Nat.le_refl _) _
            have g5 : w5.heap[(World.heap z3).size]? = some (.cells #[.int .i64 (u : Int)] 3 (0, 0)) := by rw [← hw5]; exact heap_alloc_last z3 _
            have c5 : w5.cell? ⟨(World.heap z3).size, 0, none⟩ = some (.int .i64 (u : Int)) := by rw [cell_of_row _ _ _ _ _ _ g5]; rfl
            have HF5 : Hid (Rf w5 B b (.slice (some ⟨gs, 0, none⟩) (q + 1 + 1) sc) (.slice (some ⟨hb, ho, none⟩) (q + 1 + 1) wc) (mgS s (2 * m' + 1)) (mgH Hs (2 * m' + 1) y) ∧ Tu w B (.slice ya Hs.length yc) w5 ∧ w5.heap[q8]? = some (.cells U 30 (0, 0))) := ⟨hFz.next b5, hUz.trans HW0.out (Tu.of_below b5 hFz.le), (b5.block _ (Array.getElem?_eq_some_iff.1 gq).1).trans gq⟩
            obtain ⟨SK, hSK⟩ : ∃ SK, (mgS s (2 * m' + 1)).take q = SK := ⟨_, rfl⟩
            have HSK : Hid (SK ++ [u] = mgS (2 * s) m' ∧ SK.length = q) := by
              have := HSKx.out
              rw [hSK, HUU.out] at this
              rw [← HUU.out] at this ⊢
              exact this
            have hrow : Hid (w5.ownsRow B 3 1 (.slice (some ⟨gs, 0, none⟩) q sc) SK.length (isv SK)) := by
              have h1 := HF5.out.1.sz
              rw [mgS_length, show pcN (2 * m' + 1) + 1 = q + 1 + 1 by rw [pc_odd, HQ'.out]] at h1
              have h2 := row_take h1 (show q ≤ q + 1 + 1 by omega)
              rw [isv_take, hSK] at h2
              show World.ownsRow _ _ _ _ _ _ _
              rw [HSK.out.2]
              exact h2
            have hne8 : (Value.slice (some ⟨hb, ho, none⟩) (q + 1 + 1) wc).ownBlock ≠ some q8 := fun e => by
              obtain ⟨-, cur, e2⟩ := row_at HF8.out.1.hs e
              have := (Array.getElem?_eq_some_iff.1 e2).1
              omega
            have HNE : Hid ((Value.slice (some ⟨hb, ho, none⟩) (q + 1 + 1) wc).ownBlock ≠ some q8) := hne8
            have hT5 : Hid (∀ (v' : Value) (w' : World), w'.ownsRow B 3 1 v' (SK ++ [u]).length (isv (SK ++ [u])) → w5.grownBy w' (Value.slice (some ⟨gs, 0, none⟩) q sc).ownBlock → Rf (w'.setCell ⟨b, 0, none⟩ v') B b v' (.slice (some ⟨hb, ho, none⟩) (q + 1 + 1) wc) (SK ++ [u]) (mgH Hs (2 * m' + 1) y) ∧ Tu w B (.slice ya Hs.length yc) (w'.setCell ⟨b, 0, none⟩ v') ∧ (w'.setCell ⟨b, 0, none⟩ v').heap[q8]? = some (.cells U 30 (0, 0)) ∧ (w'.cell? ⟨b, 0, none⟩ = some (.slice (some ⟨gs, 0, none⟩) (q + 1 + 1) sc) ∧ w'.frozen? ⟨b, 0, none⟩ = false)) := fun v' w' h1 h2 => by
              have h2' : w5.grownBy w' (Value.slice (some ⟨gs, 0, none⟩) (q + 1 + 1) sc).ownBlock := h2
              obtain ⟨h3, h4⟩ := HF5.out.1.turnS h2' h1
              have hr := rcells (HF5.out.1.grownS h2')
              refine ⟨h3, HF5.out.2.1.trans HW0.out (Tu.of_ch HF5.out.1 h4), (h4.block q8 (Array.getElem?_eq_some_iff.1 HF5.out.2.2).1 (fun e => ?_) (fun e => ?_) HNE.out).trans HF5.out.2.2, hr.1, hr.2.2.1⟩
              · have := HF5.out.2.2
                rw [show q8 = b from e, HF5.out.1.box] at this
                have e3 := (Obj.cells.inj (Option.some.inj this)).2.1
                exact absurd e3 (by decide)
              · obtain ⟨-, cur, e3⟩ := row_at HF5.out.1.sz e
                rw [HF5.out.2.2] at e3
                have e4 := (Obj.cells.inj (Option.some.inj e3)).2.1
                exact absurd e4 (by decide)
            have hSl : Hid (SK.length ≤ 1000) := by
              show _ ≤ _
              rw [HSK.out.2]
              exact hq63'
            clear HX gq hqy hFz hUz b5 g5 hne8 hSK
            go_upto_region 11 with (first | (simp only [KW.out.1, KW.out.2, HTW.out]) | (refine wpList_plain rfl fun _ hK => wp_append_i1 (M := SK) (.tmp 94) (.tmp 96) rfl rfl hrow.out (World.heap z3).size u rfl c5 hSl.out HF5.out.1.le (fun v' w6 h1 h2 => hK _ _ ?_); have HT6 : Hid _ := hT5.out v' w6 h1 h2; obtain ⟨d6, f6⟩ := HT6.out.2.2.2; obtain ⟨va2, vc2, rfl, -⟩ := row_slice h1; clear h1 h2 c5 cc0 cc1 hw5 cs) | fail)
            have HT7 : Hid (Rf (w6.setCell ⟨b, 0, none⟩ (.slice va2 (SK.length + 1) vc2)) B b (.slice va2 (SK.length + 1) vc2) (.slice (some ⟨hb, ho, none⟩) (q + 1 + 1) wc) (SK ++ [u]) (mgH Hs (2 * m' + 1) y) ∧ Tu w B (.slice ya Hs.length yc) (w6.setCell ⟨b, 0, none⟩ (.slice va2 (SK.length + 1) vc2)) ∧ (w6.setCell ⟨b, 0, none⟩ (.slice va2 (SK.length + 1) vc2)).heap[q8]? = some (.cells U 30 (0, 0))) := by
              have h9 := HT6.out
              simp only [List.length_append, List.length_singleton] at h9
              exact ⟨h9.1, h9.2.1, h9.2.2.1⟩
            clear HT6 hT5 HF5 d6 f6 hSl hrow
            generalize w6.setCell ⟨b, 0, none⟩ (.slice va2 (SK.length + 1) vc2) = w7 at *
            obtain ⟨TK, hTK⟩ : ∃ TK, Hs.take q = TK := ⟨_, rfl⟩
            have HTK : Hid ((mgH Hs (2 * m' + 1) y).take q = TK ∧ mgH Hs m' (nodeL xq y) = TK ++ [nodeL xq y] ∧ TK.length = q) := by
              have := HTKx.out
              rw [hTK] at this
              exact this
            have k11row : ∀ {W : World} {sv : Value}, Rf W B b sv (.slice (some ⟨hb, ho, none⟩) (q + 1 + 1) wc) (SK ++ [u]) (mgH Hs (2 * m' + 1) y) → W.ownsRow B 30 32 (.slice (some ⟨hb, ho, none⟩) q wc) TK.length (hsv TK) := fun h => by
              have h1 := h.hs
              rw [HML.out] at h1
              have h2 := row_take h1 (show q ≤ q + 1 + 1 by omega)
              rw [hsv_take h.h32 (by rw [HML.out]; omega), HTK.out.1] at h2
              rw [HTK.out.2.2]
              exact h2
            have k11h32 : ∀ z ∈ TK, z.length = 32 := fun z hz => HH32.out z (List.mem_of_mem_take (hTK ▸ hz))
            have k11len : TK.length ≤ 1000 := by rw [HTK.out.2.2]; exact hq63'
            have k11n32 : ∀ z ∈ TK ++ [nodeL xq y], z.length = 32 := fun z hz => (List.mem_append.1 hz).elim (k11h32 z) (fun e => by rw [List.mem_singleton.1 e]; exact shaL_length _)
            have hne8 := HNE.out
            clear hTK
            refine wp_region_held (S := (fun W => W.heap[q8]? = some (.cells U 30 (0, 0)))) (by kernel_rfl) ?_
            change wpAnyH _ _ _ _ _ _ _ _ (World.drew _)
            have HX : (fun W => W.heap[q8]? = some (.cells U 30 (0, 0))) w7.drew := HT7.out.2.2
            have hF := HT7.out.1.next (Below.refl _ _).drew
            have hU := HT7.out.2.1.trans HW0.out (Tu.of_below (Below.refl _ _).drew HT7.out.1.le)
            clear HT7
            generalize World.drew _ = u0 at *
            refine wpAnyH_take (i := 0) (v := .pointer (some ⟨b, 0, none⟩)) rfl (by kernel_rfl) (by kernel_rfl) (by kernel_rfl) (fun _ _ _ h => h) (Or.inl ⟨by rfl, by intro w9 _; go_simp⟩) HX ?_
            simp only [List.getElem_toArray, List.getElem_cons_succ, List.getElem_cons_zero, Act.put, List.setIfInBounds_toArray, List.set_cons_zero, List.set_cons_succ]
            refine wpAnyH_take (i := 1) (v := .pointer (some ⟨b, 0, none⟩)) rfl (by kernel_rfl) (by kernel_rfl) (by kernel_rfl) (fun _ _ _ h => h) (Or.inl ⟨by rfl, by intro w9 _; go_simp⟩) HX ?_
            simp only [List.getElem_toArray, List.getElem_cons_succ, List.getElem_cons_zero, Act.put, List.setIfInBounds_toArray, List.set_cons_zero, List.set_cons_succ]
            refine wpAnyH_take (i := 2) (v := .pointer (some ⟨b, 0, none⟩)) rfl (by kernel_rfl) (by kernel_rfl) (by kernel_rfl) (fun _ _ _ h => h) (Or.inl ⟨by rfl, by intro w9 _; go_simp⟩) HX ?_
            simp only [List.getElem_toArray, List.getElem_cons_succ, List.getElem_cons_zero, Act.put, List.setIfInBounds_toArray, List.set_cons_zero, List.set_cons_succ]
            refine wpAnyH_take (i := 3) (v := .pointer (some ⟨b, 1, none⟩)) rfl (by kernel_rfl) (by kernel_rfl) (by kernel_rfl) (fun _ _ _ h => h) (Or.inl ⟨by rfl, by intro w9 _; go_simp⟩) HX ?_
            simp only [List.getElem_toArray, List.getElem_cons_succ, List.getElem_cons_zero, Act.put, List.setIfInBounds_toArray, List.set_cons_zero, List.set_cons_succ]
            refine wpAnyH_take (i := 5) (v := .int .i64 ((q : Int) + 2)) rfl (by kernel_rfl) (by kernel_rfl) (by kernel_rfl) (fun _ _ _ h => h) (Or.inl ⟨by rfl, by intro w9 _; go_simp⟩) HX ?_
            simp only [List.getElem_toArray, List.getElem_cons_succ, List.getElem_cons_zero, Act.put, List.setIfInBounds_toArray, List.set_cons_zero, List.set_cons_succ]
            refine wpAnyH_take (i := 6) (v := .int .i64 (q : Int)) rfl (by kernel_rfl) (by kernel_rfl) (by kernel_rfl) (fun _ _ _ h => h) (Or.inl ⟨by rfl, by intro w9 _; go_simp; exact kw3.out⟩) HX ?_
            simp only [List.getElem_toArray, List.getElem_cons_succ, List.getElem_cons_zero, Act.put, List.setIfInBounds_toArray, List.set_cons_zero, List.set_cons_succ]
            refine wpAnyH_take (i := 8) (v := .agg U) rfl (by kernel_rfl) (by kernel_rfl) (by kernel_rfl) (fun _ _ _ h => h) (yieldsIf_load_mid (by rfl) 30 _ rfl q8 0 rfl U.toList _ (fun w' h => range_row h) Tryd.underlying30 rfl icU.out) HX ?_
            simp only [List.getElem_toArray, List.getElem_cons_succ, List.getElem_cons_zero, Act.put, List.setIfInBounds_toArray, List.set_cons_zero, List.set_cons_succ]
            refine wpAnyH_ready (rs := [4, 9]) (by kernel_rfl) (by simp) (AllReadyH.cons (by simp only [List.getElem?_toArray, List.getElem?_cons_succ, List.getElem?_cons_zero]; rfl) (fun K hK => ?_) (AllReadyH.cons (by simp only [List.getElem?_toArray, List.getElem?_cons_succ, List.getElem?_cons_zero]; rfl) (fun K hK => ?_) AllReadyH.nil))
            · refine step_want (by rfl) ?_
              have c9 := hF.cells.2
              go_simp
              clear c9
              refine hK.out _ _ HX (fun _ => ?_)
              clear hK K
              try simp only [List.getElem_toArray, List.getElem_cons_succ, List.getElem_cons_zero, Act.put, List.setIfInBounds_toArray, List.set_cons_zero, List.set_cons_succ]
              refine wpAnyH_take (i := 7) (v := .slice (some ⟨hb, ho, none⟩) q wc) rfl (by kernel_rfl) (by kernel_rfl) (by kernel_rfl) (fun _ _ _ h => h) (Or.inl ⟨by rfl, by intro w9 _; go_simp⟩) HX ?_
              simp only [List.getElem_toArray, List.getElem_cons_succ, List.getElem_cons_zero, Act.put, List.setIfInBounds_toArray, List.set_cons_zero, List.set_cons_succ]
              refine wpAnyH_ready (rs := [9]) (by kernel_rfl) (by simp) (AllReadyH.cons (by simp only [List.getElem?_toArray, List.getElem?_cons_succ, List.getElem?_cons_zero]; rfl) (fun K hK => ?_) AllReadyH.nil)
              refine step_want (by rfl) ?_
              go_simp
              have hN := HMkU.out u0
              obtain ⟨x1, hw⟩ : ∃ x1, u0.alloc (.cells U 30) = x1 := ⟨_, rfl⟩
              have bc : Below u0.heap.size u0 x1 := by rw [← hw]; exact (Below.refl _ _).alloc (Nat.le_refl _) _
              obtain ⟨e1, he0⟩ : ∃ e1, u0.heap.size = e1 := ⟨_, rfl⟩
              rw [hw, he0] at hN
              rw [hw, he0]
              have HX := (bc.block _ (Array.getElem?_eq_some_iff.1 HX).1).trans HX
              have hU := hU.trans HW0.out (Tu.of_below bc hF.le)
              have hF := hF.next bc
              clear bc hw he0
              refine hK.out _ _ HX (fun _ => ?_)
              clear hK K
              try simp only [List.getElem_toArray, List.getElem_cons_succ, List.getElem_cons_zero, Act.put, List.setIfInBounds_toArray, List.set_cons_zero, List.set_cons_succ]
              refine wpAnyH_ready (rs := [10]) (by kernel_rfl) (by simp) (AllReadyH.cons (by simp only [List.getElem?_toArray, List.getElem?_cons_succ, List.getElem?_cons_zero]; rfl) (fun K hK => ?_) AllReadyH.nil)
              refine step_want (by rfl) ?_
              have hsz : w.heap.size ≤ x1.heap.size := hU.below.size
              refine wp_append_h1 (M := TK) (.tmp 107) (.tmp 109) rfl rfl (k11row hF) (k11h32) e1 (nodeL xq y) rfl hN k11len hF.le ?_
              intro v' x2 r1 r2 r3
              obtain ⟨za, zc, rfl, -⟩ := row_slice r1
              have r2 : World.grownBy x1 x2 (Value.slice (some ⟨hb, ho, none⟩) (q + 1 + 1) wc).ownBlock := r2
              have hbx := hF.grownH r2
              have hC := rcells hbx
              have HXo := HX
              have HX := (r2.block _ (Array.getElem?_eq_some_iff.1 HX).1 (fun e => hne8 e.symm)).trans HX
              clear hN
              refine hK.out _ _ HX (fun _ => ?_)
              clear hK K
              try simp only [List.getElem_toArray, List.getElem_cons_succ, List.getElem_cons_zero, Act.put, List.setIfInBounds_toArray, List.set_cons_zero, List.set_cons_succ]
              refine wpAnyH_take (i := 11) (v := .pointer (some ⟨b, 0, none⟩)) rfl (by kernel_rfl) (by kernel_rfl) (by kernel_rfl) (fun _ _ _ h => h) (Or.inl ⟨by rfl, by intro w9 _; go_simp⟩) HX ?_
              simp only [List.getElem_toArray, List.getElem_cons_succ, List.getElem_cons_zero, Act.put, List.setIfInBounds_toArray, List.set_cons_zero, List.set_cons_succ]
              refine wpAnyH_take (i := 12) (v := .pointer (some ⟨b, 1, none⟩)) rfl (by kernel_rfl) (by kernel_rfl) (by kernel_rfl) (fun _ _ _ h => h) (Or.inl ⟨by rfl, by intro w9 _; go_simp⟩) HX ?_
              simp only [List.getElem_toArray, List.getElem_cons_succ, List.getElem_cons_zero, Act.put, List.setIfInBounds_toArray, List.set_cons_zero, List.set_cons_succ]
              refine wpAnyH_ready (rs := [13]) (by kernel_rfl) (by simp) (AllReadyH.cons (by simp only [List.getElem?_toArray, List.getElem?_cons_succ, List.getElem?_cons_zero]; rfl) (fun K hK => ?_) AllReadyH.nil)
              refine step_want (by rfl) ?_
              obtain ⟨d0, d1, f0, f1⟩ := hC
              obtain ⟨hF9, hC9⟩ := hF.turnH r2 r1 (k11n32)
              have hU9 := hU.trans HW0.out (Tu.of_ch hF hC9)
              have HX : (fun W => W.heap[q8]? = some (.cells U 30 (0, 0))) (x2.setCell ⟨b, 1, none⟩ (.slice za (TK ++ [(nodeL xq y)]).length zc)) := box_stays HXo r2 hne8 hbx
              clear hF hU hC9 r1 r2 hbx HXo
              go_simp
              clear d0 d1 f0 f1
              simp only [List.length_append, List.length_singleton] at hF9 hU9 HX r3 ⊢
              generalize World.setCell _ _ (.slice za (TK.length + 1) zc) = x3 at *
              refine hK.out _ _ HX (fun _ => ?_)
              clear hK K
              try simp only [List.getElem_toArray, List.getElem_cons_succ, List.getElem_cons_zero, Act.put, List.setIfInBounds_toArray, List.set_cons_zero, List.set_cons_succ]
              refine wpAnyH_done (by kernel_rfl) ?_ _
              have hWh' : Wh w (.slice ya Hs.length yc) (.slice za (TK.length + 1) zc) := HW0.out.trans hsz r3
              have HE : Hid (Rf x3 B b (.slice va2 (SK.length + 1) vc2) (.slice za (TK.length + 1) zc) (mgS (2 * s) m') (mgH Hs m' (nodeL xq y)) ∧ Wh w (.slice ya Hs.length yc) (.slice za (TK.length + 1) zc) ∧ Tu w B (.slice ya Hs.length yc) x3) := by
                rw [HTK.out.2.1, ← HSK.out.1]
                exact ⟨hF9, hWh', hU9⟩
              have ccz := hF9.cells.1
              clear hF9 hWh' hU9 r3 HX hsz
              go_wp2
              go_roundw
              case rel => exact ⟨2 * s, m', nodeL xq y, _, _, HMs.out, by first | (rw [HQ'.out, ← HSK.out.2]; rfl) | (simp only [HQ'.out, HSK.out.2]; done) | (simp only [HQ'.out, HSK.out.2]; rfl), HE.out.1, HE.out.2.1, HE.out.2.2⟩
              case measure => simp [intOf]; have := HSK.out.2; omega
            · refine step_want (by rfl) ?_
              go_simp
              have hN := HMkU.out u0
              obtain ⟨x1, hw⟩ : ∃ x1, u0.alloc (.cells U 30) = x1 := ⟨_, rfl⟩
              have bc : Below u0.heap.size u0 x1 := by rw [← hw]; exact (Below.refl _ _).alloc (Nat.le_refl _) _
              obtain ⟨e1, he0⟩ : ∃ e1, u0.heap.size = e1 := ⟨_, rfl⟩
              rw [hw, he0] at hN
              rw [hw, he0]
              have HX := (bc.block _ (Array.getElem?_eq_some_iff.1 HX).1).trans HX
              have hU := hU.trans HW0.out (Tu.of_below bc hF.le)
              have hF := hF.next bc
              clear bc hw he0
              refine hK.out _ _ HX (fun _ => ?_)
              clear hK K
              try simp only [List.getElem_toArray, List.getElem_cons_succ, List.getElem_cons_zero, Act.put, List.setIfInBounds_toArray, List.set_cons_zero, List.set_cons_succ]
              refine wpAnyH_ready (rs := [4]) (by kernel_rfl) (by simp) (AllReadyH.cons (by simp only [List.getElem?_toArray, List.getElem?_cons_succ, List.getElem?_cons_zero]; rfl) (fun K hK => ?_) AllReadyH.nil)
              refine step_want (by rfl) ?_
              have c9 := hF.cells.2
              go_simp
              clear c9
              refine hK.out _ _ HX (fun _ => ?_)
              clear hK K
              try simp only [List.getElem_toArray, List.getElem_cons_succ, List.getElem_cons_zero, Act.put, List.setIfInBounds_toArray, List.set_cons_zero, List.set_cons_succ]
              refine wpAnyH_take (i := 7) (v := .slice (some ⟨hb, ho, none⟩) q wc) rfl (by kernel_rfl) (by kernel_rfl) (by kernel_rfl) (fun _ _ _ h => h) (Or.inl ⟨by rfl, by intro w9 _; go_simp⟩) HX ?_
              simp only [List.getElem_toArray, List.getElem_cons_succ, List.getElem_cons_zero, Act.put, List.setIfInBounds_toArray, List.set_cons_zero, List.set_cons_succ]
              refine wpAnyH_ready (rs := [10]) (by kernel_rfl) (by simp) (AllReadyH.cons (by simp only [List.getElem?_toArray, List.getElem?_cons_succ, List.getElem?_cons_zero]; rfl) (fun K hK => ?_) AllReadyH.nil)
              refine step_want (by rfl) ?_
              have hsz : w.heap.size ≤ x1.heap.size := hU.below.size
              refine wp_append_h1 (M := TK) (.tmp 107) (.tmp 109) rfl rfl (k11row hF) (k11h32) e1 (nodeL xq y) rfl hN k11len hF.le ?_
              intro v' x2 r1 r2 r3
              obtain ⟨za, zc, rfl, -⟩ := row_slice r1
              have r2 : World.grownBy x1 x2 (Value.slice (some ⟨hb, ho, none⟩) (q + 1 + 1) wc).ownBlock := r2
              have hbx := hF.grownH r2
              have hC := rcells hbx
              have HXo := HX
              have HX := (r2.block _ (Array.getElem?_eq_some_iff.1 HX).1 (fun e => hne8 e.symm)).trans HX
              clear hN
              refine hK.out _ _ HX (fun _ => ?_)
              clear hK K
              try simp only [List.getElem_toArray, List.getElem_cons_succ, List.getElem_cons_zero, Act.put, List.setIfInBounds_toArray, List.set_cons_zero, List.set_cons_succ]
              refine wpAnyH_take (i := 11) (v := .pointer (some ⟨b, 0, none⟩)) rfl (by kernel_rfl) (by kernel_rfl) (by kernel_rfl) (fun _ _ _ h => h) (Or.inl ⟨by rfl, by intro w9 _; go_simp⟩) HX ?_
              simp only [List.getElem_toArray, List.getElem_cons_succ, List.getElem_cons_zero, Act.put, List.setIfInBounds_toArray, List.set_cons_zero, List.set_cons_succ]
              refine wpAnyH_take (i := 12) (v := .pointer (some ⟨b, 1, none⟩)) rfl (by kernel_rfl) (by kernel_rfl) (by kernel_rfl) (fun _ _ _ h => h) (Or.inl ⟨by rfl, by intro w9 _; go_simp⟩) HX ?_
              simp only [List.getElem_toArray, List.getElem_cons_succ, List.getElem_cons_zero, Act.put, List.setIfInBounds_toArray, List.set_cons_zero, List.set_cons_succ]
              refine wpAnyH_ready (rs := [13]) (by kernel_rfl) (by simp) (AllReadyH.cons (by simp only [List.getElem?_toArray, List.getElem?_cons_succ, List.getElem?_cons_zero]; rfl) (fun K hK => ?_) AllReadyH.nil)
              refine step_want (by rfl) ?_
              obtain ⟨d0, d1, f0, f1⟩ := hC
              obtain ⟨hF9, hC9⟩ := hF.turnH r2 r1 (k11n32)
              have hU9 := hU.trans HW0.out (Tu.of_ch hF hC9)
              have HX : (fun W => W.heap[q8]? = some (.cells U 30 (0, 0))) (x2.setCell ⟨b, 1, none⟩ (.slice za (TK ++ [(nodeL xq y)]).length zc)) := box_stays HXo r2 hne8 hbx
              clear hF hU hC9 r1 r2 hbx HXo
              go_simp
              clear d0 d1 f0 f1
              simp only [List.length_append, List.length_singleton] at hF9 hU9 HX r3 ⊢
              generalize World.setCell _ _ (.slice za (TK.length + 1) zc) = x3 at *
              refine hK.out _ _ HX (fun _ => ?_)
              clear hK K
              try simp only [List.getElem_toArray, List.getElem_cons_succ, List.getElem_cons_zero, Act.put, List.setIfInBounds_toArray, List.set_cons_zero, List.set_cons_succ]
              refine wpAnyH_done (by kernel_rfl) ?_ _
              have hWh' : Wh w (.slice ya Hs.length yc) (.slice za (TK.length + 1) zc) := HW0.out.trans hsz r3
              have HE : Hid (Rf x3 B b (.slice va2 (SK.length + 1) vc2) (.slice za (TK.length + 1) zc) (mgS (2 * s) m') (mgH Hs m' (nodeL xq y)) ∧ Wh w (.slice ya Hs.length yc) (.slice za (TK.length + 1) zc) ∧ Tu w B (.slice ya Hs.length yc) x3) := by
                rw [HTK.out.2.1, ← HSK.out.1]
                exact ⟨hF9, hWh', hU9⟩
              have ccz := hF9.cells.1
              clear hF9 hWh' hU9 r3 HX hsz
              go_wp2
              go_roundw
              case rel => exact ⟨2 * s, m', nodeL xq y, _, _, HMs.out, by first | (rw [HQ'.out, ← HSK.out.2]; rfl) | (simp only [HQ'.out, HSK.out.2]; done) | (simp only [HQ'.out, HSK.out.2]; rfl), HE.out.1, HE.out.2.1, HE.out.2.2⟩
              case measure => simp [intOf]; have := HSK.out.2; omega
          · refine step_want (by rfl) ?_
            go_simp
            have hqy : y0.heap.size ≤ z0.heap.size := HX.size
            obtain ⟨z1, hw, bc, gq⟩ := HZb.out z0
            have HX : Below y0.heap.size y0 z1 := HX.trans (bc.mono HX.size)
            obtain ⟨q8, hq8⟩ : ∃ q8, z0.heap.size = q8 := ⟨_, rfl⟩
            rw [hq8] at gq hqy
            rw [hw, hq8]
            clear bc hw hq8
            refine hK.out _ _ HX (fun _ => ?_)
            clear hK K
            try simp only [List.getElem_toArray, List.getElem_cons_succ, List.getElem_cons_zero, Act.put, List.setIfInBounds_toArray, List.set_cons_zero, List.set_cons_succ]
            refine wpAnyH_ready (rs := [16]) (by kernel_rfl) (by simp) (AllReadyH.cons (by simp only [List.getElem?_toArray, List.getElem?_cons_succ, List.getElem?_cons_zero]; rfl) (fun K hK => ?_) AllReadyH.nil)
            refine step_want (by rfl) ?_
            go_simp
            refine (HNd.out _ HX).mono ?_
            rintro e z2 ⟨rfl, bc⟩
            have HX : Below y0.heap.size y0 z2 := HX.trans (bc.mono HX.size)
            have gq := (bc.block _ (Array.getElem?_eq_some_iff.1 gq).1).trans gq
            clear bc
            refine hK.out _ _ HX (fun _ => ?_)
            clear hK K
            try simp only [List.getElem_toArray, List.getElem_cons_succ, List.getElem_cons_zero, Act.put, List.setIfInBounds_toArray, List.set_cons_zero, List.set_cons_succ]
            refine wpAnyH_ready (rs := [18]) (by kernel_rfl) (by simp) (AllReadyH.cons (by simp only [List.getElem?_toArray, List.getElem?_cons_succ, List.getElem?_cons_zero]; rfl) (fun K hK => ?_) AllReadyH.nil)
            refine step_want (by rfl) ?_
            refine wp_store_row 30 _ _ rfl q8 U rfl rfl _ _ gq (by rw [info_h32, hUs]) (by rw [hz32, hUs]) hU1 ?_
            have HX : Below y0.heap.size y0 (z2.setRow q8 U) := below_setRow HX hqy _
            have gq := heap_setRow_same (ds := U) gq
            generalize z2.setRow q8 U = z3 at *
            refine hK.out _ _ HX (fun _ => ?_)
            clear hK K
            try simp only [List.getElem_toArray, List.getElem_cons_succ, List.getElem_cons_zero, Act.put, List.setIfInBounds_toArray, List.set_cons_zero, List.set_cons_succ]
            refine wpAnyH_done (by kernel_rfl) ?_ _
            have HZ : Hid (Below y0.heap.size y0 z3 ∧ z3.heap[q8]? = some (.cells U 30 (0, 0)) ∧ y0.heap.size ≤ q8) := ⟨HX, gq, hqy⟩
            have hFz := HF8.out.1.next HX
            have hUz := HF8.out.2.trans HW0.out (Tu.of_below HX HF8.out.1.le)
            obtain ⟨cc0, cc1⟩ := hFz.cells
            have cs := HCz.out _ HX
            obtain ⟨w5, hw5⟩ : ∃ w5, World.alloc z3 (.cells #[.int .i64 (u : Int)] 3) = w5 := ⟨_, rfl⟩
            have b5 : Below (World.heap z3).size z3 w5 := by rw [← hw5]; exact (Below.refl _ _).alloc (Nat.le_refl _) _
            have g5 : w5.heap[(World.heap z3).size]? = some (.cells #[.int .i64 (u : Int)] 3 (0, 0)) := by rw [← hw5]; exact heap_alloc_last z3 _
            have c5 : w5.cell? ⟨(World.heap z3).size, 0, none⟩ = some (.int .i64 (u : Int)) := by rw [cell_of_row _ _ _ _ _ _ g5]; rfl
            have HF5 : Hid (Rf w5 B b (.slice (some ⟨gs, 0, none⟩) (q + 1 + 1) sc) (.slice (some ⟨hb, ho, none⟩) (q + 1 + 1) wc) (mgS s (2 * m' + 1)) (mgH Hs (2 * m' + 1) y) ∧ Tu w B (.slice ya Hs.length yc) w5 ∧ w5.heap[q8]? = some (.cells U 30 (0, 0))) := ⟨hFz.next b5, hUz.trans HW0.out (Tu.of_below b5 hFz.le), (b5.block _ (Array.getElem?_eq_some_iff.1 gq).1).trans gq⟩
            obtain ⟨SK, hSK⟩ : ∃ SK, (mgS s (2 * m' + 1)).take q = SK := ⟨_, rfl⟩
            have HSK : Hid (SK ++ [u] = mgS (2 * s) m' ∧ SK.length = q) := by
              have := HSKx.out
              rw [hSK, HUU.out] at this
              rw [← HUU.out] at this ⊢
              exact this
            have hrow : Hid (w5.ownsRow B 3 1 (.slice (some ⟨gs, 0, none⟩) q sc) SK.length (isv SK)) := by
              have h1 := HF5.out.1.sz
              rw [mgS_length, show pcN (2 * m' + 1) + 1 = q + 1 + 1 by rw [pc_odd, HQ'.out]] at h1
              have h2 := row_take h1 (show q ≤ q + 1 + 1 by omega)
              rw [isv_take, hSK] at h2
              show World.ownsRow _ _ _ _ _ _ _
              rw [HSK.out.2]
              exact h2
            have hne8 : (Value.slice (some ⟨hb, ho, none⟩) (q + 1 + 1) wc).ownBlock ≠ some q8 := fun e => by
              obtain ⟨-, cur, e2⟩ := row_at HF8.out.1.hs e
              have := (Array.getElem?_eq_some_iff.1 e2).1
              omega
            have HNE : Hid ((Value.slice (some ⟨hb, ho, none⟩) (q + 1 + 1) wc).ownBlock ≠ some q8) := hne8
            have hT5 : Hid (∀ (v' : Value) (w' : World), w'.ownsRow B 3 1 v' (SK ++ [u]).length (isv (SK ++ [u])) → w5.grownBy w' (Value.slice (some ⟨gs, 0, none⟩) q sc).ownBlock → Rf (w'.setCell ⟨b, 0, none⟩ v') B b v' (.slice (some ⟨hb, ho, none⟩) (q + 1 + 1) wc) (SK ++ [u]) (mgH Hs (2 * m' + 1) y) ∧ Tu w B (.slice ya Hs.length yc) (w'.setCell ⟨b, 0, none⟩ v') ∧ (w'.setCell ⟨b, 0, none⟩ v').heap[q8]? = some (.cells U 30 (0, 0)) ∧ (w'.cell? ⟨b, 0, none⟩ = some (.slice (some ⟨gs, 0, none⟩) (q + 1 + 1) sc) ∧ w'.frozen? ⟨b, 0, none⟩ = false)) := fun v' w' h1 h2 => by
              have h2' : w5.grownBy w' (Value.slice (some ⟨gs, 0, none⟩) (q + 1 + 1) sc).ownBlock := h2
              obtain ⟨h3, h4⟩ := HF5.out.1.turnS h2' h1
              have hr := rcells (HF5.out.1.grownS h2')
              refine ⟨h3, HF5.out.2.1.trans HW0.out (Tu.of_ch HF5.out.1 h4), (h4.block q8 (Array.getElem?_eq_some_iff.1 HF5.out.2.2).1 (fun e => ?_) (fun e => ?_) HNE.out).trans HF5.out.2.2, hr.1, hr.2.2.1⟩
              · have := HF5.out.2.2
                rw [show q8 = b from e, HF5.out.1.box] at this
                have e3 := (Obj.cells.inj (Option.some.inj this)).2.1
                exact absurd e3 (by decide)
              · obtain ⟨-, cur, e3⟩ := row_at HF5.out.1.sz e
                rw [HF5.out.2.2] at e3
                have e4 := (Obj.cells.inj (Option.some.inj e3)).2.1
                exact absurd e4 (by decide)
            have hSl : Hid (SK.length ≤ 1000) := by
              show _ ≤ _
              rw [HSK.out.2]
              exact hq63'
            clear HX gq hqy hFz hUz b5 g5 hne8 hSK
            go_upto_region 11 with (first | (simp only [KW.out.1, KW.out.2, HTW.out]) | (refine wpList_plain rfl fun _ hK => wp_append_i1 (M := SK) (.tmp 94) (.tmp 96) rfl rfl hrow.out (World.heap z3).size u rfl c5 hSl.out HF5.out.1.le (fun v' w6 h1 h2 => hK _ _ ?_); have HT6 : Hid _ := hT5.out v' w6 h1 h2; obtain ⟨d6, f6⟩ := HT6.out.2.2.2; obtain ⟨va2, vc2, rfl, -⟩ := row_slice h1; clear h1 h2 c5 cc0 cc1 hw5 cs) | fail)
            have HT7 : Hid (Rf (w6.setCell ⟨b, 0, none⟩ (.slice va2 (SK.length + 1) vc2)) B b (.slice va2 (SK.length + 1) vc2) (.slice (some ⟨hb, ho, none⟩) (q + 1 + 1) wc) (SK ++ [u]) (mgH Hs (2 * m' + 1) y) ∧ Tu w B (.slice ya Hs.length yc) (w6.setCell ⟨b, 0, none⟩ (.slice va2 (SK.length + 1) vc2)) ∧ (w6.setCell ⟨b, 0, none⟩ (.slice va2 (SK.length + 1) vc2)).heap[q8]? = some (.cells U 30 (0, 0))) := by
              have h9 := HT6.out
              simp only [List.length_append, List.length_singleton] at h9
              exact ⟨h9.1, h9.2.1, h9.2.2.1⟩
            clear HT6 hT5 HF5 d6 f6 hSl hrow
            generalize w6.setCell ⟨b, 0, none⟩ (.slice va2 (SK.length + 1) vc2) = w7 at *
            obtain ⟨TK, hTK⟩ : ∃ TK, Hs.take q = TK := ⟨_, rfl⟩
            have HTK : Hid ((mgH Hs (2 * m' + 1) y).take q = TK ∧ mgH Hs m' (nodeL xq y) = TK ++ [nodeL xq y] ∧ TK.length = q) := by
              have := HTKx.out
              rw [hTK] at this
              exact this
            have k11row : ∀ {W : World} {sv : Value}, Rf W B b sv (.slice (some ⟨hb, ho, none⟩) (q + 1 + 1) wc) (SK ++ [u]) (mgH Hs (2 * m' + 1) y) → W.ownsRow B 30 32 (.slice (some ⟨hb, ho, none⟩) q wc) TK.length (hsv TK) := fun h => by
              have h1 := h.hs
              rw [HML.out] at h1
              have h2 := row_take h1 (show q ≤ q + 1 + 1 by omega)
              rw [hsv_take h.h32 (by rw [HML.out]; omega), HTK.out.1] at h2
              rw [HTK.out.2.2]
              exact h2
            have k11h32 : ∀ z ∈ TK, z.length = 32 := fun z hz => HH32.out z (List.mem_of_mem_take (hTK ▸ hz))
            have k11len : TK.length ≤ 1000 := by rw [HTK.out.2.2]; exact hq63'
            have k11n32 : ∀ z ∈ TK ++ [nodeL xq y], z.length = 32 := fun z hz => (List.mem_append.1 hz).elim (k11h32 z) (fun e => by rw [List.mem_singleton.1 e]; exact shaL_length _)
            have hne8 := HNE.out
            clear hTK
            refine wp_region_held (S := (fun W => W.heap[q8]? = some (.cells U 30 (0, 0)))) (by kernel_rfl) ?_
            change wpAnyH _ _ _ _ _ _ _ _ (World.drew _)
            have HX : (fun W => W.heap[q8]? = some (.cells U 30 (0, 0))) w7.drew := HT7.out.2.2
            have hF := HT7.out.1.next (Below.refl _ _).drew
            have hU := HT7.out.2.1.trans HW0.out (Tu.of_below (Below.refl _ _).drew HT7.out.1.le)
            clear HT7
            generalize World.drew _ = u0 at *
            refine wpAnyH_take (i := 0) (v := .pointer (some ⟨b, 0, none⟩)) rfl (by kernel_rfl) (by kernel_rfl) (by kernel_rfl) (fun _ _ _ h => h) (Or.inl ⟨by rfl, by intro w9 _; go_simp⟩) HX ?_
            simp only [List.getElem_toArray, List.getElem_cons_succ, List.getElem_cons_zero, Act.put, List.setIfInBounds_toArray, List.set_cons_zero, List.set_cons_succ]
            refine wpAnyH_take (i := 1) (v := .pointer (some ⟨b, 0, none⟩)) rfl (by kernel_rfl) (by kernel_rfl) (by kernel_rfl) (fun _ _ _ h => h) (Or.inl ⟨by rfl, by intro w9 _; go_simp⟩) HX ?_
            simp only [List.getElem_toArray, List.getElem_cons_succ, List.getElem_cons_zero, Act.put, List.setIfInBounds_toArray, List.set_cons_zero, List.set_cons_succ]
            refine wpAnyH_take (i := 2) (v := .pointer (some ⟨b, 0, none⟩)) rfl (by kernel_rfl) (by kernel_rfl) (by kernel_rfl) (fun _ _ _ h => h) (Or.inl ⟨by rfl, by intro w9 _; go_simp⟩) HX ?_
            simp only [List.getElem_toArray, List.getElem_cons_succ, List.getElem_cons_zero, Act.put, List.setIfInBounds_toArray, List.set_cons_zero, List.set_cons_succ]
            refine wpAnyH_take (i := 3) (v := .pointer (some ⟨b, 1, none⟩)) rfl (by kernel_rfl) (by kernel_rfl) (by kernel_rfl) (fun _ _ _ h => h) (Or.inl ⟨by rfl, by intro w9 _; go_simp⟩) HX ?_
            simp only [List.getElem_toArray, List.getElem_cons_succ, List.getElem_cons_zero, Act.put, List.setIfInBounds_toArray, List.set_cons_zero, List.set_cons_succ]
            refine wpAnyH_take (i := 5) (v := .int .i64 ((q : Int) + 2)) rfl (by kernel_rfl) (by kernel_rfl) (by kernel_rfl) (fun _ _ _ h => h) (Or.inl ⟨by rfl, by intro w9 _; go_simp⟩) HX ?_
            simp only [List.getElem_toArray, List.getElem_cons_succ, List.getElem_cons_zero, Act.put, List.setIfInBounds_toArray, List.set_cons_zero, List.set_cons_succ]
            refine wpAnyH_take (i := 6) (v := .int .i64 (q : Int)) rfl (by kernel_rfl) (by kernel_rfl) (by kernel_rfl) (fun _ _ _ h => h) (Or.inl ⟨by rfl, by intro w9 _; go_simp; exact kw3.out⟩) HX ?_
            simp only [List.getElem_toArray, List.getElem_cons_succ, List.getElem_cons_zero, Act.put, List.setIfInBounds_toArray, List.set_cons_zero, List.set_cons_succ]
            refine wpAnyH_take (i := 8) (v := .agg U) rfl (by kernel_rfl) (by kernel_rfl) (by kernel_rfl) (fun _ _ _ h => h) (yieldsIf_load_mid (by rfl) 30 _ rfl q8 0 rfl U.toList _ (fun w' h => range_row h) Tryd.underlying30 rfl icU.out) HX ?_
            simp only [List.getElem_toArray, List.getElem_cons_succ, List.getElem_cons_zero, Act.put, List.setIfInBounds_toArray, List.set_cons_zero, List.set_cons_succ]
            refine wpAnyH_ready (rs := [4, 9]) (by kernel_rfl) (by simp) (AllReadyH.cons (by simp only [List.getElem?_toArray, List.getElem?_cons_succ, List.getElem?_cons_zero]; rfl) (fun K hK => ?_) (AllReadyH.cons (by simp only [List.getElem?_toArray, List.getElem?_cons_succ, List.getElem?_cons_zero]; rfl) (fun K hK => ?_) AllReadyH.nil))
            · refine step_want (by rfl) ?_
              have c9 := hF.cells.2
              go_simp
              clear c9
              refine hK.out _ _ HX (fun _ => ?_)
              clear hK K
              try simp only [List.getElem_toArray, List.getElem_cons_succ, List.getElem_cons_zero, Act.put, List.setIfInBounds_toArray, List.set_cons_zero, List.set_cons_succ]
              refine wpAnyH_take (i := 7) (v := .slice (some ⟨hb, ho, none⟩) q wc) rfl (by kernel_rfl) (by kernel_rfl) (by kernel_rfl) (fun _ _ _ h => h) (Or.inl ⟨by rfl, by intro w9 _; go_simp⟩) HX ?_
              simp only [List.getElem_toArray, List.getElem_cons_succ, List.getElem_cons_zero, Act.put, List.setIfInBounds_toArray, List.set_cons_zero, List.set_cons_succ]
              refine wpAnyH_ready (rs := [9]) (by kernel_rfl) (by simp) (AllReadyH.cons (by simp only [List.getElem?_toArray, List.getElem?_cons_succ, List.getElem?_cons_zero]; rfl) (fun K hK => ?_) AllReadyH.nil)
              refine step_want (by rfl) ?_
              go_simp
              have hN := HMkU.out u0
              obtain ⟨x1, hw⟩ : ∃ x1, u0.alloc (.cells U 30) = x1 := ⟨_, rfl⟩
              have bc : Below u0.heap.size u0 x1 := by rw [← hw]; exact (Below.refl _ _).alloc (Nat.le_refl _) _
              obtain ⟨e1, he0⟩ : ∃ e1, u0.heap.size = e1 := ⟨_, rfl⟩
              rw [hw, he0] at hN
              rw [hw, he0]
              have HX := (bc.block _ (Array.getElem?_eq_some_iff.1 HX).1).trans HX
              have hU := hU.trans HW0.out (Tu.of_below bc hF.le)
              have hF := hF.next bc
              clear bc hw he0
              refine hK.out _ _ HX (fun _ => ?_)
              clear hK K
              try simp only [List.getElem_toArray, List.getElem_cons_succ, List.getElem_cons_zero, Act.put, List.setIfInBounds_toArray, List.set_cons_zero, List.set_cons_succ]
              refine wpAnyH_ready (rs := [10]) (by kernel_rfl) (by simp) (AllReadyH.cons (by simp only [List.getElem?_toArray, List.getElem?_cons_succ, List.getElem?_cons_zero]; rfl) (fun K hK => ?_) AllReadyH.nil)
              refine step_want (by rfl) ?_
              have hsz : w.heap.size ≤ x1.heap.size := hU.below.size
              refine wp_append_h1 (M := TK) (.tmp 107) (.tmp 109) rfl rfl (k11row hF) (k11h32) e1 (nodeL xq y) rfl hN k11len hF.le ?_
              intro v' x2 r1 r2 r3
              obtain ⟨za, zc, rfl, -⟩ := row_slice r1
              have r2 : World.grownBy x1 x2 (Value.slice (some ⟨hb, ho, none⟩) (q + 1 + 1) wc).ownBlock := r2
              have hbx := hF.grownH r2
              have hC := rcells hbx
              have HXo := HX
              have HX := (r2.block _ (Array.getElem?_eq_some_iff.1 HX).1 (fun e => hne8 e.symm)).trans HX
              clear hN
              refine hK.out _ _ HX (fun _ => ?_)
              clear hK K
              try simp only [List.getElem_toArray, List.getElem_cons_succ, List.getElem_cons_zero, Act.put, List.setIfInBounds_toArray, List.set_cons_zero, List.set_cons_succ]
              refine wpAnyH_take (i := 11) (v := .pointer (some ⟨b, 0, none⟩)) rfl (by kernel_rfl) (by kernel_rfl) (by kernel_rfl) (fun _ _ _ h => h) (Or.inl ⟨by rfl, by intro w9 _; go_simp⟩) HX ?_
              simp only [List.getElem_toArray, List.getElem_cons_succ, List.getElem_cons_zero, Act.put, List.setIfInBounds_toArray, List.set_cons_zero, List.set_cons_succ]
              refine wpAnyH_take (i := 12) (v := .pointer (some ⟨b, 1, none⟩)) rfl (by kernel_rfl) (by kernel_rfl) (by kernel_rfl) (fun _ _ _ h => h) (Or.inl ⟨by rfl, by intro w9 _; go_simp⟩) HX ?_
              simp only [List.getElem_toArray, List.getElem_cons_succ, List.getElem_cons_zero, Act.put, List.setIfInBounds_toArray, List.set_cons_zero, List.set_cons_succ]
              refine wpAnyH_ready (rs := [13]) (by kernel_rfl) (by simp) (AllReadyH.cons (by simp only [List.getElem?_toArray, List.getElem?_cons_succ, List.getElem?_cons_zero]; rfl) (fun K hK => ?_) AllReadyH.nil)
              refine step_want (by rfl) ?_
              obtain ⟨d0, d1, f0, f1⟩ := hC
              obtain ⟨hF9, hC9⟩ := hF.turnH r2 r1 (k11n32)
              have hU9 := hU.trans HW0.out (Tu.of_ch hF hC9)
              have HX : (fun W => W.heap[q8]? = some (.cells U 30 (0, 0))) (x2.setCell ⟨b, 1, none⟩ (.slice za (TK ++ [(nodeL xq y)]).length zc)) := box_stays HXo r2 hne8 hbx
              clear hF hU hC9 r1 r2 hbx HXo
              go_simp
              clear d0 d1 f0 f1
              simp only [List.length_append, List.length_singleton] at hF9 hU9 HX r3 ⊢
              generalize World.setCell _ _ (.slice za (TK.length + 1) zc) = x3 at *
              refine hK.out _ _ HX (fun _ => ?_)
              clear hK K
              try simp only [List.getElem_toArray, List.getElem_cons_succ, List.getElem_cons_zero, Act.put, List.setIfInBounds_toArray, List.set_cons_zero, List.set_cons_succ]
              refine wpAnyH_done (by kernel_rfl) ?_ _
              have hWh' : Wh w (.slice ya Hs.length yc) (.slice za (TK.length + 1) zc) := HW0.out.trans hsz r3
              have HE : Hid (Rf x3 B b (.slice va2 (SK.length + 1) vc2) (.slice za (TK.length + 1) zc) (mgS (2 * s) m') (mgH Hs m' (nodeL xq y)) ∧ Wh w (.slice ya Hs.length yc) (.slice za (TK.length + 1) zc) ∧ Tu w B (.slice ya Hs.length yc) x3) := by
                rw [HTK.out.2.1, ← HSK.out.1]
                exact ⟨hF9, hWh', hU9⟩
              have ccz := hF9.cells.1
              clear hF9 hWh' hU9 r3 HX hsz
              go_wp2
              go_roundw
              case rel => exact ⟨2 * s, m', nodeL xq y, _, _, HMs.out, by first | (rw [HQ'.out, ← HSK.out.2]; rfl) | (simp only [HQ'.out, HSK.out.2]; done) | (simp only [HQ'.out, HSK.out.2]; rfl), HE.out.1, HE.out.2.1, HE.out.2.2⟩
              case measure => simp [intOf]; have := HSK.out.2; omega
            · refine step_want (by rfl) ?_
              go_simp
              have hN := HMkU.out u0
              obtain ⟨x1, hw⟩ : ∃ x1, u0.alloc (.cells U 30) = x1 := ⟨_, rfl⟩
              have bc : Below u0.heap.size u0 x1 := by rw [← hw]; exact (Below.refl _ _).alloc (Nat.le_refl _) _
              obtain ⟨e1, he0⟩ : ∃ e1, u0.heap.size = e1 := ⟨_, rfl⟩
              rw [hw, he0] at hN
              rw [hw, he0]
              have HX := (bc.block _ (Array.getElem?_eq_some_iff.1 HX).1).trans HX
              have hU := hU.trans HW0.out (Tu.of_below bc hF.le)
              have hF := hF.next bc
              clear bc hw he0
              refine hK.out _ _ HX (fun _ => ?_)
              clear hK K
              try simp only [List.getElem_toArray, List.getElem_cons_succ, List.getElem_cons_zero, Act.put, List.setIfInBounds_toArray, List.set_cons_zero, List.set_cons_succ]
              refine wpAnyH_ready (rs := [4]) (by kernel_rfl) (by simp) (AllReadyH.cons (by simp only [List.getElem?_toArray, List.getElem?_cons_succ, List.getElem?_cons_zero]; rfl) (fun K hK => ?_) AllReadyH.nil)
              refine step_want (by rfl) ?_
              have c9 := hF.cells.2
              go_simp
              clear c9
              refine hK.out _ _ HX (fun _ => ?_)
              clear hK K
              try simp only [List.getElem_toArray, List.getElem_cons_succ, List.getElem_cons_zero, Act.put, List.setIfInBounds_toArray, List.set_cons_zero, List.set_cons_succ]
              refine wpAnyH_take (i := 7) (v := .slice (some ⟨hb, ho, none⟩) q wc) rfl (by kernel_rfl) (by kernel_rfl) (by kernel_rfl) (fun _ _ _ h => h) (Or.inl ⟨by rfl, by intro w9 _; go_simp⟩) HX ?_
              simp only [List.getElem_toArray, List.getElem_cons_succ, List.getElem_cons_zero, Act.put, List.setIfInBounds_toArray, List.set_cons_zero, List.set_cons_succ]
              refine wpAnyH_ready (rs := [10]) (by kernel_rfl) (by simp) (AllReadyH.cons (by simp only [List.getElem?_toArray, List.getElem?_cons_succ, List.getElem?_cons_zero]; rfl) (fun K hK => ?_) AllReadyH.nil)
              refine step_want (by rfl) ?_
              have hsz : w.heap.size ≤ x1.heap.size := hU.below.size
              refine wp_append_h1 (M := TK) (.tmp 107) (.tmp 109) rfl rfl (k11row hF) (k11h32) e1 (nodeL xq y) rfl hN k11len hF.le ?_
              intro v' x2 r1 r2 r3
              obtain ⟨za, zc, rfl, -⟩ := row_slice r1
              have r2 : World.grownBy x1 x2 (Value.slice (some ⟨hb, ho, none⟩) (q + 1 + 1) wc).ownBlock := r2
              have hbx := hF.grownH r2
              have hC := rcells hbx
              have HXo := HX
              have HX := (r2.block _ (Array.getElem?_eq_some_iff.1 HX).1 (fun e => hne8 e.symm)).trans HX
              clear hN
              refine hK.out _ _ HX (fun _ => ?_)
              clear hK K
              try simp only [List.getElem_toArray, List.getElem_cons_succ, List.getElem_cons_zero, Act.put, List.setIfInBounds_toArray, List.set_cons_zero, List.set_cons_succ]
              refine wpAnyH_take (i := 11) (v := .pointer (some ⟨b, 0, none⟩)) rfl (by kernel_rfl) (by kernel_rfl) (by kernel_rfl) (fun _ _ _ h => h) (Or.inl ⟨by rfl, by intro w9 _; go_simp⟩) HX ?_
              simp only [List.getElem_toArray, List.getElem_cons_succ, List.getElem_cons_zero, Act.put, List.setIfInBounds_toArray, List.set_cons_zero, List.set_cons_succ]
              refine wpAnyH_take (i := 12) (v := .pointer (some ⟨b, 1, none⟩)) rfl (by kernel_rfl) (by kernel_rfl) (by kernel_rfl) (fun _ _ _ h => h) (Or.inl ⟨by rfl, by intro w9 _; go_simp⟩) HX ?_
              simp only [List.getElem_toArray, List.getElem_cons_succ, List.getElem_cons_zero, Act.put, List.setIfInBounds_toArray, List.set_cons_zero, List.set_cons_succ]
              refine wpAnyH_ready (rs := [13]) (by kernel_rfl) (by simp) (AllReadyH.cons (by simp only [List.getElem?_toArray, List.getElem?_cons_succ, List.getElem?_cons_zero]; rfl) (fun K hK => ?_) AllReadyH.nil)
              refine step_want (by rfl) ?_
              obtain ⟨d0, d1, f0, f1⟩ := hC
              obtain ⟨hF9, hC9⟩ := hF.turnH r2 r1 (k11n32)
              have hU9 := hU.trans HW0.out (Tu.of_ch hF hC9)
              have HX : (fun W => W.heap[q8]? = some (.cells U 30 (0, 0))) (x2.setCell ⟨b, 1, none⟩ (.slice za (TK ++ [(nodeL xq y)]).length zc)) := box_stays HXo r2 hne8 hbx
              clear hF hU hC9 r1 r2 hbx HXo
              go_simp
              clear d0 d1 f0 f1
              simp only [List.length_append, List.length_singleton] at hF9 hU9 HX r3 ⊢
              generalize World.setCell _ _ (.slice za (TK.length + 1) zc) = x3 at *
              refine hK.out _ _ HX (fun _ => ?_)
              clear hK K
              try simp only [List.getElem_toArray, List.getElem_cons_succ, List.getElem_cons_zero, Act.put, List.setIfInBounds_toArray, List.set_cons_zero, List.set_cons_succ]
              refine wpAnyH_done (by kernel_rfl) ?_ _
              have hWh' : Wh w (.slice ya Hs.length yc) (.slice za (TK.length + 1) zc) := HW0.out.trans hsz r3
              have HE : Hid (Rf x3 B b (.slice va2 (SK.length + 1) vc2) (.slice za (TK.length + 1) zc) (mgS (2 * s) m') (mgH Hs m' (nodeL xq y)) ∧ Wh w (.slice ya Hs.length yc) (.slice za (TK.length + 1) zc) ∧ Tu w B (.slice ya Hs.length yc) x3) := by
                rw [HTK.out.2.1, ← HSK.out.1]
                exact ⟨hF9, hWh', hU9⟩
              have ccz := hF9.cells.1
              clear hF9 hWh' hU9 r3 HX hsz
              go_wp2
              go_roundw
              case rel => exact ⟨2 * s, m', nodeL xq y, _, _, HMs.out, by first | (rw [HQ'.out, ← HSK.out.2]; rfl) | (simp only [HQ'.out, HSK.out.2]; done) | (simp only [HQ'.out, HSK.out.2]; rfl), HE.out.1, HE.out.2.1, HE.out.2.2⟩
              case measure => simp [intOf]; have := HSK.out.2; omega
        · have htb : ((s : Int) == (tq : Int)) = false := by rw [beq_eq_false_iff_ne]; omega
          clear hq htne
          go_upto_region 6 with fail
          refine wp_region_held (S := Below wr.heap.size wr) (by kernel_rfl) ?_
          change wpAnyH _ _ _ _ _ _ _ _ (World.drew _)
          have HX : Below wr.heap.size wr wr.drew := HX0.out.drew
          clear HX0
          generalize World.drew _ = y0 at *
          refine wpAnyH_take (i := 0) (v := .int .i64 ((q : Int) + 2)) rfl (by kernel_rfl) (by kernel_rfl) (by kernel_rfl) (fun _ _ _ h => h) (Or.inl ⟨by rfl, by intro w9 _; go_simp⟩) HX ?_
          simp only [List.getElem_toArray, List.getElem_cons_succ, List.getElem_cons_zero, Act.put, List.setIfInBounds_toArray, List.set_cons_zero, List.set_cons_succ]
          refine wpAnyH_take (i := 1) (v := .bool true) rfl (by kernel_rfl) (by kernel_rfl) (by kernel_rfl) (fun _ _ _ h => h) (Or.inl ⟨by rfl, by intro w9 _; go_simp⟩) HX ?_
          simp only [List.getElem_toArray, List.getElem_cons_succ, List.getElem_cons_zero, Act.put, List.setIfInBounds_toArray, List.set_cons_zero, List.set_cons_succ]
          refine wpAnyH_take (i := 2) (v := .bool true) rfl (by kernel_rfl) (by kernel_rfl) (by kernel_rfl) (fun _ _ _ h => h) (Or.inl ⟨by rfl, by intro w9 _; go_simp⟩) HX ?_
          simp only [List.getElem_toArray, List.getElem_cons_succ, List.getElem_cons_zero, Act.put, List.setIfInBounds_toArray, List.set_cons_zero, List.set_cons_succ]
          refine wpAnyH_take (i := 3) (v := .pointer (some ⟨b, 0, none⟩)) rfl (by kernel_rfl) (by kernel_rfl) (by kernel_rfl) (fun _ _ _ h => h) (Or.inl ⟨by rfl, by intro w9 _; go_simp⟩) HX ?_
          simp only [List.getElem_toArray, List.getElem_cons_succ, List.getElem_cons_zero, Act.put, List.setIfInBounds_toArray, List.set_cons_zero, List.set_cons_succ]
          refine wpAnyH_take (i := 4) (v := .pointer (some ⟨b, 0, none⟩)) rfl (by kernel_rfl) (by kernel_rfl) (by kernel_rfl) (fun _ _ _ h => h) (Or.inl ⟨by rfl, by intro w9 _; go_simp⟩) HX ?_
          simp only [List.getElem_toArray, List.getElem_cons_succ, List.getElem_cons_zero, Act.put, List.setIfInBounds_toArray, List.set_cons_zero, List.set_cons_succ]
          refine wpAnyH_take (i := 5) (v := .pointer (some ⟨b, 0, none⟩)) rfl (by kernel_rfl) (by kernel_rfl) (by kernel_rfl) (fun _ _ _ h => h) (Or.inl ⟨by rfl, by intro w9 _; go_simp⟩) HX ?_
          simp only [List.getElem_toArray, List.getElem_cons_succ, List.getElem_cons_zero, Act.put, List.setIfInBounds_toArray, List.set_cons_zero, List.set_cons_succ]
          refine wpAnyH_take (i := 6) (v := .slice (some ⟨gs, 0, none⟩) (q + 1 + 1) sc) rfl (by kernel_rfl) (by kernel_rfl) (by kernel_rfl) (fun _ _ _ h => h) (Or.inl ⟨by rfl, by intro w9 h9; obtain ⟨c7, c8, c9⟩ := HCs.out w9 h9; go_simp⟩) HX ?_
          simp only [List.getElem_toArray, List.getElem_cons_succ, List.getElem_cons_zero, Act.put, List.setIfInBounds_toArray, List.set_cons_zero, List.set_cons_succ]
          refine wpAnyH_take (i := 7) (v := .int .i64 ((q : Int) + 2)) rfl (by kernel_rfl) (by kernel_rfl) (by kernel_rfl) (fun _ _ _ h => h) (Or.inl ⟨by rfl, by intro w9 _; go_simp⟩) HX ?_
          simp only [List.getElem_toArray, List.getElem_cons_succ, List.getElem_cons_zero, Act.put, List.setIfInBounds_toArray, List.set_cons_zero, List.set_cons_succ]
          refine wpAnyH_take (i := 8) (v := .int .i64 ((q : Int) + 1)) rfl (by kernel_rfl) (by kernel_rfl) (by kernel_rfl) (fun _ _ _ h => h) (Or.inl ⟨by rfl, by intro w9 _; have k9 := kw1.out.1; go_simp⟩) HX ?_
          simp only [List.getElem_toArray, List.getElem_cons_succ, List.getElem_cons_zero, Act.put, List.setIfInBounds_toArray, List.set_cons_zero, List.set_cons_succ]
          refine wpAnyH_take (i := 9) (v := .pointer (some ⟨gs, q + 1, none⟩)) rfl (by kernel_rfl) (by kernel_rfl) (by kernel_rfl) (fun _ _ _ h => h) (Or.inl ⟨by rfl, by intro w9 _; go_simp⟩) HX ?_
          simp only [List.getElem_toArray, List.getElem_cons_succ, List.getElem_cons_zero, Act.put, List.setIfInBounds_toArray, List.set_cons_zero, List.set_cons_succ]
          refine wpAnyH_take (i := 10) (v := .int .i64 (s : Int)) rfl (by kernel_rfl) (by kernel_rfl) (by kernel_rfl) (fun _ _ _ h => h) (Or.inl ⟨by rfl, by intro w9 h9; obtain ⟨c7, c8, c9⟩ := HCs.out w9 h9; go_simp⟩) HX ?_
          simp only [List.getElem_toArray, List.getElem_cons_succ, List.getElem_cons_zero, Act.put, List.setIfInBounds_toArray, List.set_cons_zero, List.set_cons_succ]
          refine wpAnyH_take (i := 11) (v := .pointer (some ⟨b, 0, none⟩)) rfl (by kernel_rfl) (by kernel_rfl) (by kernel_rfl) (fun _ _ _ h => h) (Or.inl ⟨by rfl, by intro w9 _; go_simp⟩) HX ?_
          simp only [List.getElem_toArray, List.getElem_cons_succ, List.getElem_cons_zero, Act.put, List.setIfInBounds_toArray, List.set_cons_zero, List.set_cons_succ]
          refine wpAnyH_take (i := 12) (v := .pointer (some ⟨b, 0, none⟩)) rfl (by kernel_rfl) (by kernel_rfl) (by kernel_rfl) (fun _ _ _ h => h) (Or.inl ⟨by rfl, by intro w9 _; go_simp⟩) HX ?_
          simp only [List.getElem_toArray, List.getElem_cons_succ, List.getElem_cons_zero, Act.put, List.setIfInBounds_toArray, List.set_cons_zero, List.set_cons_succ]
          refine wpAnyH_take (i := 13) (v := .pointer (some ⟨b, 0, none⟩)) rfl (by kernel_rfl) (by kernel_rfl) (by kernel_rfl) (fun _ _ _ h => h) (Or.inl ⟨by rfl, by intro w9 _; go_simp⟩) HX ?_
          simp only [List.getElem_toArray, List.getElem_cons_succ, List.getElem_cons_zero, Act.put, List.setIfInBounds_toArray, List.set_cons_zero, List.set_cons_succ]
          refine wpAnyH_take (i := 14) (v := .slice (some ⟨gs, 0, none⟩) (q + 1 + 1) sc) rfl (by kernel_rfl) (by kernel_rfl) (by kernel_rfl) (fun _ _ _ h => h) (Or.inl ⟨by rfl, by intro w9 h9; obtain ⟨c7, c8, c9⟩ := HCs.out w9 h9; go_simp⟩) HX ?_
          simp only [List.getElem_toArray, List.getElem_cons_succ, List.getElem_cons_zero, Act.put, List.setIfInBounds_toArray, List.set_cons_zero, List.set_cons_succ]
          refine wpAnyH_take (i := 15) (v := .int .i64 ((q : Int) + 2)) rfl (by kernel_rfl) (by kernel_rfl) (by kernel_rfl) (fun _ _ _ h => h) (Or.inl ⟨by rfl, by intro w9 _; go_simp⟩) HX ?_
          simp only [List.getElem_toArray, List.getElem_cons_succ, List.getElem_cons_zero, Act.put, List.setIfInBounds_toArray, List.set_cons_zero, List.set_cons_succ]
          refine wpAnyH_take (i := 16) (v := .int .i64 (q : Int)) rfl (by kernel_rfl) (by kernel_rfl) (by kernel_rfl) (fun _ _ _ h => h) (Or.inl ⟨by rfl, by intro w9 _; go_simp; exact kw3.out⟩) HX ?_
          simp only [List.getElem_toArray, List.getElem_cons_succ, List.getElem_cons_zero, Act.put, List.setIfInBounds_toArray, List.set_cons_zero, List.set_cons_succ]
          refine wpAnyH_take (i := 17) (v := .pointer (some ⟨gs, q, none⟩)) rfl (by kernel_rfl) (by kernel_rfl) (by kernel_rfl) (fun _ _ _ h => h) (Or.inl ⟨by rfl, by intro w9 _; go_simp⟩) HX ?_
          simp only [List.getElem_toArray, List.getElem_cons_succ, List.getElem_cons_zero, Act.put, List.setIfInBounds_toArray, List.set_cons_zero, List.set_cons_succ]
          refine wpAnyH_take (i := 18) (v := .int .i64 (tq : Int)) rfl (by kernel_rfl) (by kernel_rfl) (by kernel_rfl) (fun _ _ _ h => h) (Or.inl ⟨by rfl, by intro w9 h9; obtain ⟨c7, c8, c9⟩ := HCs.out w9 h9; go_simp⟩) HX ?_
          simp only [List.getElem_toArray, List.getElem_cons_succ, List.getElem_cons_zero, Act.put, List.setIfInBounds_toArray, List.set_cons_zero, List.set_cons_succ]
          refine wpAnyH_take (i := 19) (v := .bool false) rfl (by kernel_rfl) (by kernel_rfl) (by kernel_rfl) (fun _ _ _ h => h) (Or.inl ⟨by rfl, by intro w9 _; go_simp⟩) HX ?_
          simp only [List.getElem_toArray, List.getElem_cons_succ, List.getElem_cons_zero, Act.put, List.setIfInBounds_toArray, List.set_cons_zero, List.set_cons_succ]
          refine wpAnyH_take (i := 20) (v := .bool false) rfl (by kernel_rfl) (by kernel_rfl) (by kernel_rfl) (fun _ _ _ h => h) (Or.inl ⟨by rfl, by intro w9 _; go_simp⟩) HX ?_
          simp only [List.getElem_toArray, List.getElem_cons_succ, List.getElem_cons_zero, Act.put, List.setIfInBounds_toArray, List.set_cons_zero, List.set_cons_succ]
          refine wpAnyH_done (by kernel_rfl) ?_ _
          have HY : Hid (Below wr.heap.size wr y0) := HX
          clear HX
          have HE : Hid ((∃ sv' hw', Rf y0 B b sv' hw' (szN (n + 1)) (puL nodeL (tlN n) Hs x) ∧ Wh w (.slice ya Hs.length yc) hw') ∧ Tu w B (.slice ya Hs.length yc) y0) := by
            obtain ⟨e1, e2⟩ := HG.out.stop
            have h9 := H0.out _ HY.out
            rw [← e1, ← e2]
            exact ⟨⟨_, _, h9.1, HW0.out⟩, h9.2⟩
          go_wp2
          go_ret
          exact ⟨rfl, HE.out.1, HE.out.2⟩
      · have hm0 : m = 0 := by
          rcases Nat.eq_zero_or_pos m with h8 | h8
          · exact h8
          · have := pc_pos (n := m) (by omega)
            omega
        subst hm0
        rw [pc_zero] at hF hsc ⊢
        have H0 : Hid (∀ W, Below wr.heap.size wr W → Rf W B b (.slice sa (0 + 1) sc) hwv (mgS s 0) (mgH Hs 0 y) ∧ Tu w B (.slice ya Hs.length yc) W) := fun W hW => ⟨hF.next hW, hU.trans hWh (Tu.of_below hW hF.le)⟩
        have HW0 : Hid (Wh w (.slice ya Hs.length yc) hwv) := hWh
        have HG : Hid (Mg n Hs x s (2 * 0) y) := g
        have HX0 : Hid (Below wr.heap.size wr wr) := Below.refl _ _
        clear hF hF' hU hWh g hsc hq0
        go_upto_region 6 with fail
        refine wp_region_held (S := Below wr.heap.size wr) (by kernel_rfl) ?_
        change wpAnyH _ _ _ _ _ _ _ _ (World.drew _)
        have HX : Below wr.heap.size wr wr.drew := HX0.out.drew
        clear HX0
        generalize World.drew _ = y0 at *
        refine wpAnyH_take (i := 0) (v := .int .i64 ((0 + 1 : Nat) : Int)) rfl (by kernel_rfl) (by kernel_rfl) (by kernel_rfl) (fun _ _ _ h => h) (Or.inl ⟨by rfl, by intro w9 _; go_simp⟩) HX ?_
        simp only [List.getElem_toArray, List.getElem_cons_succ, List.getElem_cons_zero, Act.put, List.setIfInBounds_toArray, List.set_cons_zero, List.set_cons_succ]
        refine wpAnyH_take (i := 1) (v := .bool false) rfl (by kernel_rfl) (by kernel_rfl) (by kernel_rfl) (fun _ _ _ h => h) (Or.inl ⟨by rfl, by intro w9 _; go_simp⟩) HX ?_
        simp only [List.getElem_toArray, List.getElem_cons_succ, List.getElem_cons_zero, Act.put, List.setIfInBounds_toArray, List.set_cons_zero, List.set_cons_succ]
        refine wpAnyH_take (i := 2) (v := .bool false) rfl (by kernel_rfl) (by kernel_rfl) (by kernel_rfl) (fun _ _ _ h => h) (Or.inl ⟨by rfl, by intro w9 _; go_simp⟩) HX ?_
        simp only [List.getElem_toArray, List.getElem_cons_succ, List.getElem_cons_zero, Act.put, List.setIfInBounds_toArray, List.set_cons_zero, List.set_cons_succ]
        refine wpAnyH_take (i := 3) (v := undef) rfl (by kernel_rfl) (by kernel_rfl) (by kernel_rfl) (fun _ _ _ h => h) (Or.inr ⟨by rfl, rfl⟩) HX ?_
        simp only [List.getElem_toArray, List.getElem_cons_succ, List.getElem_cons_zero, Act.put, List.setIfInBounds_toArray, List.set_cons_zero, List.set_cons_succ]
        refine wpAnyH_take (i := 4) (v := undef) rfl (by kernel_rfl) (by kernel_rfl) (by kernel_rfl) (fun _ _ _ h => h) (Or.inr ⟨by rfl, rfl⟩) HX ?_
        simp only [List.getElem_toArray, List.getElem_cons_succ, List.getElem_cons_zero, Act.put, List.setIfInBounds_toArray, List.set_cons_zero, List.set_cons_succ]
        refine wpAnyH_take (i := 5) (v := undef) rfl (by kernel_rfl) (by kernel_rfl) (by kernel_rfl) (fun _ _ _ h => h) (Or.inr ⟨by rfl, rfl⟩) HX ?_
        simp only [List.getElem_toArray, List.getElem_cons_succ, List.getElem_cons_zero, Act.put, List.setIfInBounds_toArray, List.set_cons_zero, List.set_cons_succ]
        refine wpAnyH_take (i := 6) (v := undef) rfl (by kernel_rfl) (by kernel_rfl) (by kernel_rfl) (fun _ _ _ h => h) (Or.inr ⟨by rfl, rfl⟩) HX ?_
        simp only [List.getElem_toArray, List.getElem_cons_succ, List.getElem_cons_zero, Act.put, List.setIfInBounds_toArray, List.set_cons_zero, List.set_cons_succ]
        refine wpAnyH_take (i := 7) (v := undef) rfl (by kernel_rfl) (by kernel_rfl) (by kernel_rfl) (fun _ _ _ h => h) (Or.inr ⟨by rfl, rfl⟩) HX ?_
        simp only [List.getElem_toArray, List.getElem_cons_succ, List.getElem_cons_zero, Act.put, List.setIfInBounds_toArray, List.set_cons_zero, List.set_cons_succ]
        refine wpAnyH_take (i := 8) (v := undef) rfl (by kernel_rfl) (by kernel_rfl) (by kernel_rfl) (fun _ _ _ h => h) (Or.inr ⟨by rfl, rfl⟩) HX ?_
        simp only [List.getElem_toArray, List.getElem_cons_succ, List.getElem_cons_zero, Act.put, List.setIfInBounds_toArray, List.set_cons_zero, List.set_cons_succ]
        refine wpAnyH_take (i := 9) (v := undef) rfl (by kernel_rfl) (by kernel_rfl) (by kernel_rfl) (fun _ _ _ h => h) (Or.inr ⟨by rfl, rfl⟩) HX ?_
        simp only [List.getElem_toArray, List.getElem_cons_succ, List.getElem_cons_zero, Act.put, List.setIfInBounds_toArray, List.set_cons_zero, List.set_cons_succ]
        refine wpAnyH_take (i := 10) (v := undef) rfl (by kernel_rfl) (by kernel_rfl) (by kernel_rfl) (fun _ _ _ h => h) (Or.inr ⟨by rfl, rfl⟩) HX ?_
        simp only [List.getElem_toArray, List.getElem_cons_succ, List.getElem_cons_zero, Act.put, List.setIfInBounds_toArray, List.set_cons_zero, List.set_cons_succ]
        refine wpAnyH_take (i := 11) (v := undef) rfl (by kernel_rfl) (by kernel_rfl) (by kernel_rfl) (fun _ _ _ h => h) (Or.inr ⟨by rfl, rfl⟩) HX ?_
        simp only [List.getElem_toArray, List.getElem_cons_succ, List.getElem_cons_zero, Act.put, List.setIfInBounds_toArray, List.set_cons_zero, List.set_cons_succ]
        refine wpAnyH_take (i := 12) (v := undef) rfl (by kernel_rfl) (by kernel_rfl) (by kernel_rfl) (fun _ _ _ h => h) (Or.inr ⟨by rfl, rfl⟩) HX ?_
        simp only [List.getElem_toArray, List.getElem_cons_succ, List.getElem_cons_zero, Act.put, List.setIfInBounds_toArray, List.set_cons_zero, List.set_cons_succ]
        refine wpAnyH_take (i := 13) (v := undef) rfl (by kernel_rfl) (by kernel_rfl) (by kernel_rfl) (fun _ _ _ h => h) (Or.inr ⟨by rfl, rfl⟩) HX ?_
        simp only [List.getElem_toArray, List.getElem_cons_succ, List.getElem_cons_zero, Act.put, List.setIfInBounds_toArray, List.set_cons_zero, List.set_cons_succ]
        refine wpAnyH_take (i := 14) (v := undef) rfl (by kernel_rfl) (by kernel_rfl) (by kernel_rfl) (fun _ _ _ h => h) (Or.inr ⟨by rfl, rfl⟩) HX ?_
        simp only [List.getElem_toArray, List.getElem_cons_succ, List.getElem_cons_zero, Act.put, List.setIfInBounds_toArray, List.set_cons_zero, List.set_cons_succ]
        refine wpAnyH_take (i := 15) (v := undef) rfl (by kernel_rfl) (by kernel_rfl) (by kernel_rfl) (fun _ _ _ h => h) (Or.inr ⟨by rfl, rfl⟩) HX ?_
        simp only [List.getElem_toArray, List.getElem_cons_succ, List.getElem_cons_zero, Act.put, List.setIfInBounds_toArray, List.set_cons_zero, List.set_cons_succ]
        refine wpAnyH_take (i := 16) (v := undef) rfl (by kernel_rfl) (by kernel_rfl) (by kernel_rfl) (fun _ _ _ h => h) (Or.inr ⟨by rfl, rfl⟩) HX ?_
        simp only [List.getElem_toArray, List.getElem_cons_succ, List.getElem_cons_zero, Act.put, List.setIfInBounds_toArray, List.set_cons_zero, List.set_cons_succ]
        refine wpAnyH_take (i := 17) (v := undef) rfl (by kernel_rfl) (by kernel_rfl) (by kernel_rfl) (fun _ _ _ h => h) (Or.inr ⟨by rfl, rfl⟩) HX ?_
        simp only [List.getElem_toArray, List.getElem_cons_succ, List.getElem_cons_zero, Act.put, List.setIfInBounds_toArray, List.set_cons_zero, List.set_cons_succ]
        refine wpAnyH_take (i := 18) (v := undef) rfl (by kernel_rfl) (by kernel_rfl) (by kernel_rfl) (fun _ _ _ h => h) (Or.inr ⟨by rfl, rfl⟩) HX ?_
        simp only [List.getElem_toArray, List.getElem_cons_succ, List.getElem_cons_zero, Act.put, List.setIfInBounds_toArray, List.set_cons_zero, List.set_cons_succ]
        refine wpAnyH_take (i := 19) (v := undef) rfl (by kernel_rfl) (by kernel_rfl) (by kernel_rfl) (fun _ _ _ h => h) (Or.inr ⟨by rfl, rfl⟩) HX ?_
        simp only [List.getElem_toArray, List.getElem_cons_succ, List.getElem_cons_zero, Act.put, List.setIfInBounds_toArray, List.set_cons_zero, List.set_cons_succ]
        refine wpAnyH_take (i := 20) (v := .bool false) rfl (by kernel_rfl) (by kernel_rfl) (by kernel_rfl) (fun _ _ _ h => h) (Or.inl ⟨by rfl, by intro w9 _; go_simp⟩) HX ?_
        simp only [List.getElem_toArray, List.getElem_cons_succ, List.getElem_cons_zero, Act.put, List.setIfInBounds_toArray, List.set_cons_zero, List.set_cons_succ]
        refine wpAnyH_done (by kernel_rfl) ?_ _
        have HY : Hid (Below wr.heap.size wr y0) := HX
        clear HX
        have HE : Hid ((∃ sv' hw', Rf y0 B b sv' hw' (szN (n + 1)) (puL nodeL (tlN n) Hs x) ∧ Wh w (.slice ya Hs.length yc) hw') ∧ Tu w B (.slice ya Hs.length yc) y0) := by
          obtain ⟨e1, e2⟩ := HG.out.stop
          have h9 := H0.out _ HY.out
          rw [← e1, ← e2]
          exact ⟨⟨_, _, h9.1, HW0.out⟩, h9.2⟩
        go_wp2
        go_ret
        exact ⟨rfl, HE.out.1, HE.out.2⟩
  · refine step_want (by rfl) ?_
    go_simp
    have hN := HMk.out x0
    obtain ⟨x1, hw⟩ : ∃ x1, x0.alloc (.cells X 30) = x1 := ⟨_, rfl⟩
    have bc : Below x0.heap.size x0 x1 := by rw [← hw]; exact (Below.refl _ _).alloc (Nat.le_refl _) _
    obtain ⟨e1, he0⟩ : ∃ e1, x0.heap.size = e1 := ⟨_, rfl⟩
    rw [hw, he0] at hN
    rw [hw, he0]
    have HX := (bc.block _ (Array.getElem?_eq_some_iff.1 HX).1).trans HX
    have hU := hU.trans (Wh.refl _ _) (Tu.of_below bc hF.le)
    have hF := hF.next bc
    clear bc hw he0
    refine hK.out _ _ HX (fun _ => ?_)
    clear hK K
    try simp only [List.getElem_toArray, List.getElem_cons_succ, List.getElem_cons_zero, Act.put, List.setIfInBounds_toArray, List.set_cons_zero, List.set_cons_succ]
    refine wpAnyH_ready (rs := [4]) (by kernel_rfl) (by simp) (AllReadyH.cons (by simp only [List.getElem?_toArray, List.getElem?_cons_succ, List.getElem?_cons_zero]; rfl) (fun K hK => ?_) AllReadyH.nil)
    refine step_want (by rfl) ?_
    have c9 := hF.cells.2
    go_simp
    clear c9
    refine hK.out _ _ HX (fun _ => ?_)
    clear hK K
    try simp only [List.getElem_toArray, List.getElem_cons_succ, List.getElem_cons_zero, Act.put, List.setIfInBounds_toArray, List.set_cons_zero, List.set_cons_succ]
    refine wpAnyH_ready (rs := [7]) (by kernel_rfl) (by simp) (AllReadyH.cons (by simp only [List.getElem?_toArray, List.getElem?_cons_succ, List.getElem?_cons_zero]; rfl) (fun K hK => ?_) AllReadyH.nil)
    refine step_want (by rfl) ?_
    have hsz : w.heap.size ≤ x1.heap.size := hU.below.size
    refine wp_append_h1 (M := Hs) (.tmp 24) (.tmp 26) rfl rfl (k4row hF) (k4h32) e1 x rfl hN k4len hF.le ?_
    intro v' x2 r1 r2 r3
    obtain ⟨za, zc, rfl, -⟩ := row_slice r1
    have hbx := hF.grownH r2
    have hC := rcells hbx
    have HXo := HX
    have HX := (r2.block _ (Array.getElem?_eq_some_iff.1 HX).1 (fun e => hne e.symm)).trans HX
    clear hN
    refine hK.out _ _ HX (fun _ => ?_)
    clear hK K
    try simp only [List.getElem_toArray, List.getElem_cons_succ, List.getElem_cons_zero, Act.put, List.setIfInBounds_toArray, List.set_cons_zero, List.set_cons_succ]
    refine wpAnyH_take (i := 8) (v := .pointer (some ⟨b, 0, none⟩)) rfl (by kernel_rfl) (by kernel_rfl) (by kernel_rfl) (fun _ _ _ h => h) (Or.inl ⟨by rfl, by intro w9 _; go_simp⟩) HX ?_
    simp only [List.getElem_toArray, List.getElem_cons_succ, List.getElem_cons_zero, Act.put, List.setIfInBounds_toArray, List.set_cons_zero, List.set_cons_succ]
    refine wpAnyH_take (i := 9) (v := .pointer (some ⟨b, 1, none⟩)) rfl (by kernel_rfl) (by kernel_rfl) (by kernel_rfl) (fun _ _ _ h => h) (Or.inl ⟨by rfl, by intro w9 _; go_simp⟩) HX ?_
    simp only [List.getElem_toArray, List.getElem_cons_succ, List.getElem_cons_zero, Act.put, List.setIfInBounds_toArray, List.set_cons_zero, List.set_cons_succ]
    refine wpAnyH_ready (rs := [10]) (by kernel_rfl) (by simp) (AllReadyH.cons (by simp only [List.getElem?_toArray, List.getElem?_cons_succ, List.getElem?_cons_zero]; rfl) (fun K hK => ?_) AllReadyH.nil)
    refine step_want (by rfl) ?_
    obtain ⟨d0, d1, f0, f1⟩ := hC
    obtain ⟨hF9, hC9⟩ := hF.turnH r2 r1 (k4n32)
    have hU9 := hU.trans (Wh.refl _ _) (Tu.of_ch hF hC9)
    have HX : (fun W => W.heap[p]? = some (.cells X 30 (0, 0))) (x2.setCell ⟨b, 1, none⟩ (.slice za (Hs ++ [x]).length zc)) := box_stays HXo r2 hne hbx
    clear hF hU hC9 r1 r2 hbx HXo
    go_simp
    clear d0 d1 f0 f1
    simp only [List.length_append, List.length_singleton] at hF9 hU9 HX r3 ⊢
    generalize World.setCell _ _ (.slice za (Hs.length + 1) zc) = x3 at *
    refine hK.out _ _ HX (fun _ => ?_)
    clear hK K
    try simp only [List.getElem_toArray, List.getElem_cons_succ, List.getElem_cons_zero, Act.put, List.setIfInBounds_toArray, List.set_cons_zero, List.set_cons_succ]
    refine wpAnyH_done (by kernel_rfl) ?_ _
    have hWh : Wh w (.slice ya Hs.length yc) (.slice za (Hs.length + 1) zc) := fun k hk => by
      rcases r3 k hk with h8 | h8
      · exact .inl h8
      · exact .inr (Nat.le_trans hsz h8)
    have HL0 : Hid (Rf x3 B b (.slice va ((szN n).length + 1) vc) (.slice za (Hs.length + 1) zc) (mgS 1 n) (mgH Hs n x) ∧ Wh w (.slice ya Hs.length yc) (.slice za (Hs.length + 1) zc) ∧ Tu w B (.slice ya Hs.length yc) x3) := by
      rw [← HS0.out, ← HHs0.out]
      exact ⟨hF9, hWh, hU9⟩
    have hk0 : (szN n).length + 1 = pcN n + 1 := by rw [szN_length]
    have hcc := hF9.cells.1
    clear hF9 hU9 hWh r3 HX hsz
    go_wp2
    go_loopw [5] (fun kv wr => ∃ (s m : Nat) (y : List UInt8) (svv hwv : Value), Mg n Hs x s m y ∧ kv = .int .i64 ((pcN m + 1 : Nat) : Int) ∧ Rf wr B b svv hwv (mgS s m) (mgH Hs m y) ∧ Wh w (.slice ya Hs.length yc) hwv ∧ Tu w B (.slice ya Hs.length yc) wr) (fun kv _ => (intOf kv).toNat)
    case atStart => exact ⟨1, n, x, _, _, HMg0.out, by first | rfl | (rw [← hk0]; rfl), HL0.out.1, HL0.out.2.1, HL0.out.2.2⟩
    case round =>
      obtain ⟨s, m, y, svv, hwv, g, rfl, hF, hWh, hU⟩ := hrel
      clear HL0 hcc hk0
      obtain ⟨sa, sc, rfl, hsc⟩ := row_slice hF.sz
      rw [mgS_length] at hsc
      have hF' := hF
      rw [mgS_length] at hF
      obtain ⟨q, hq⟩ | hq0 : (∃ q, pcN m = q + 1) ∨ pcN m = 0 := by
        cases pcN m with
        | zero => exact .inr rfl
        | succ q => exact .inl ⟨q, rfl⟩
      · have hq63 : q + 1 ≤ 63 := by rw [← hq]; exact HPc.out m s y g
        rw [hq] at hF hsc ⊢
        have hlast := mgS_last s m
        rw [hq] at hlast
        obtain ⟨gs, sc', hsl, -, -⟩ := hF'.size_at hlast
        rw [mgS_length, hq] at hsl
        obtain ⟨rfl, -, rfl⟩ := Value.slice.inj hsl
        have hcl : ∀ W, Below wr.heap.size wr W → W.cell? ⟨gs, q + 1, none⟩ = some (.int .i64 (s : Int)) := fun W hW => by
          obtain ⟨g', c', e, -, h⟩ := (hF'.next hW).size_at hlast
          obtain ⟨e1, -, -⟩ := Value.slice.inj e
          simp at e1
          subst e1
          exact h
        have k0 : (0 : Int) ≤ (q : Int) := by omega
        have k1 : (1 : Int) < (q : Int) + 2 := by omega
        have k2 : (q : Int) + 1 < (q : Int) + 1 + 1 := by omega
        have k3 : (0 : Int) ≤ (q : Int) + 1 := by omega
        have k4 : (q : Int) < (q : Int) + 1 + 1 := by omega
        have kw := k_wrap q (by omega)
        have kw1 : Hid (IntKind.i64.wrap ((q : Int) + 2 - 1) = (q : Int) + 1 ∧ IntKind.i64.wrap ((q : Int) + 2 - 2) = (q : Int)) := ⟨by rw [IntKind.wrap_i64]; omega, by rw [IntKind.wrap_i64]; omega⟩
        have kw3 : Hid (IntKind.i64.wrap (q : Int) = (q : Int)) := by show _ = _; rw [IntKind.wrap_i64]; omega
        have KW : Hid (wrap64 ((q : Int) + 2 - 2) = (q : Int) ∧ wrap64 ((q : Int) + 2 - 1) = (q : Int) + 1) := kw
        have kk : ((q + 1 + 1 : Nat) : Int) = (q : Int) + 2 := by omega
        rw [kk]
        clear kw kk
        obtain ⟨tq, htq, hpar⟩ : ∃ tq, (mgS s m)[q]? = some tq ∧ ((∃ m', m = 2 * m' + 1 ∧ pcN m' = q ∧ tq = s) ∨ ((∃ m', m = 2 * m') ∧ tq ≠ s)) := by
          rcases two_or m with ⟨m', rfl⟩ | ⟨m', rfl⟩
          · rw [pc_two] at hq
            obtain ⟨tq, h1, h2⟩ := mgS_even s m' q g.le.2 hq
            exact ⟨tq, h1, .inr ⟨⟨m', rfl⟩, h2⟩⟩
          · rw [pc_odd] at hq
            have hq' : pcN m' = q := by omega
            exact ⟨s, by rw [← hq']; exact mgS_odd s m', .inl ⟨m', rfl, hq', rfl⟩⟩
        have hct : ∀ W, Below wr.heap.size wr W → W.cell? ⟨gs, q, none⟩ = some (.int .i64 (tq : Int)) := fun W hW => by
          obtain ⟨g', c', e, -, h⟩ := (hF'.next hW).size_at htq
          obtain ⟨e1, -, -⟩ := Value.slice.inj e
          simp at e1
          subst e1
          exact h
        have HCs : Hid (∀ W, Below wr.heap.size wr W → W.cell? ⟨b, 0, none⟩ = some (.slice (some ⟨gs, 0, none⟩) (q + 1 + 1) sc) ∧ W.cell? ⟨gs, q + 1, none⟩ = some (.int .i64 (s : Int)) ∧ W.cell? ⟨gs, q, none⟩ = some (.int .i64 (tq : Int))) := fun W hW => ⟨(hF.next hW).cells.1, hcl W hW, hct W hW⟩
        have H0 : Hid (∀ W, Below wr.heap.size wr W → Rf W B b (.slice (some ⟨gs, 0, none⟩) (q + 1 + 1) sc) hwv (mgS s m) (mgH Hs m y) ∧ Tu w B (.slice ya Hs.length yc) W) := fun W hW => ⟨hF.next hW, hU.trans hWh (Tu.of_below hW hF.le)⟩
        have HW0 : Hid (Wh w (.slice ya Hs.length yc) hwv) := hWh
        have HG : Hid (Mg n Hs x s m y) := g
        have HX0 : Hid (Below wr.heap.size wr wr) := Below.refl _ _
        clear hcl hct hF hF' hU hWh hlast htq hsl g hsc
        rcases hpar with ⟨m', rfl, hq', hts⟩ | ⟨⟨m', rfl⟩, htne⟩
        · obtain rfl : s = tq := hts.symm
          have HQ' : Hid (pcN m' = q) := hq'
          clear hq hts hq'
          go_upto_region 6 with fail
          refine wp_region_held (S := Below wr.heap.size wr) (by kernel_rfl) ?_
          change wpAnyH _ _ _ _ _ _ _ _ (World.drew _)
          have HX : Below wr.heap.size wr wr.drew := HX0.out.drew
          clear HX0
          generalize World.drew _ = y0 at *
          refine wpAnyH_take (i := 0) (v := .int .i64 ((q : Int) + 2)) rfl (by kernel_rfl) (by kernel_rfl) (by kernel_rfl) (fun _ _ _ h => h) (Or.inl ⟨by rfl, by intro w9 _; go_simp⟩) HX ?_
          simp only [List.getElem_toArray, List.getElem_cons_succ, List.getElem_cons_zero, Act.put, List.setIfInBounds_toArray, List.set_cons_zero, List.set_cons_succ]
          refine wpAnyH_take (i := 1) (v := .bool true) rfl (by kernel_rfl) (by kernel_rfl) (by kernel_rfl) (fun _ _ _ h => h) (Or.inl ⟨by rfl, by intro w9 _; go_simp⟩) HX ?_
          simp only [List.getElem_toArray, List.getElem_cons_succ, List.getElem_cons_zero, Act.put, List.setIfInBounds_toArray, List.set_cons_zero, List.set_cons_succ]
          refine wpAnyH_take (i := 2) (v := .bool true) rfl (by kernel_rfl) (by kernel_rfl) (by kernel_rfl) (fun _ _ _ h => h) (Or.inl ⟨by rfl, by intro w9 _; go_simp⟩) HX ?_
          simp only [List.getElem_toArray, List.getElem_cons_succ, List.getElem_cons_zero, Act.put, List.setIfInBounds_toArray, List.set_cons_zero, List.set_cons_succ]
          refine wpAnyH_take (i := 3) (v := .pointer (some ⟨b, 0, none⟩)) rfl (by kernel_rfl) (by kernel_rfl) (by kernel_rfl) (fun _ _ _ h => h) (Or.inl ⟨by rfl, by intro w9 _; go_simp⟩) HX ?_
          simp only [List.getElem_toArray, List.getElem_cons_succ, List.getElem_cons_zero, Act.put, List.setIfInBounds_toArray, List.set_cons_zero, List.set_cons_succ]
          refine wpAnyH_take (i := 4) (v := .pointer (some ⟨b, 0, none⟩)) rfl (by kernel_rfl) (by kernel_rfl) (by kernel_rfl) (fun _ _ _ h => h) (Or.inl ⟨by rfl, by intro w9 _; go_simp⟩) HX ?_
          simp only [List.getElem_toArray, List.getElem_cons_succ, List.getElem_cons_zero, Act.put, List.setIfInBounds_toArray, List.set_cons_zero, List.set_cons_succ]
          refine wpAnyH_take (i := 5) (v := .pointer (some ⟨b, 0, none⟩)) rfl (by kernel_rfl) (by kernel_rfl) (by kernel_rfl) (fun _ _ _ h => h) (Or.inl ⟨by rfl, by intro w9 _; go_simp⟩) HX ?_
          simp only [List.getElem_toArray, List.getElem_cons_succ, List.getElem_cons_zero, Act.put, List.setIfInBounds_toArray, List.set_cons_zero, List.set_cons_succ]
          refine wpAnyH_take (i := 6) (v := .slice (some ⟨gs, 0, none⟩) (q + 1 + 1) sc) rfl (by kernel_rfl) (by kernel_rfl) (by kernel_rfl) (fun _ _ _ h => h) (Or.inl ⟨by rfl, by intro w9 h9; obtain ⟨c7, c8, c9⟩ := HCs.out w9 h9; go_simp⟩) HX ?_
          simp only [List.getElem_toArray, List.getElem_cons_succ, List.getElem_cons_zero, Act.put, List.setIfInBounds_toArray, List.set_cons_zero, List.set_cons_succ]
          refine wpAnyH_take (i := 7) (v := .int .i64 ((q : Int) + 2)) rfl (by kernel_rfl) (by kernel_rfl) (by kernel_rfl) (fun _ _ _ h => h) (Or.inl ⟨by rfl, by intro w9 _; go_simp⟩) HX ?_
          simp only [List.getElem_toArray, List.getElem_cons_succ, List.getElem_cons_zero, Act.put, List.setIfInBounds_toArray, List.set_cons_zero, List.set_cons_succ]
          refine wpAnyH_take (i := 8) (v := .int .i64 ((q : Int) + 1)) rfl (by kernel_rfl) (by kernel_rfl) (by kernel_rfl) (fun _ _ _ h => h) (Or.inl ⟨by rfl, by intro w9 _; have k9 := kw1.out.1; go_simp⟩) HX ?_
          simp only [List.getElem_toArray, List.getElem_cons_succ, List.getElem_cons_zero, Act.put, List.setIfInBounds_toArray, List.set_cons_zero, List.set_cons_succ]
          refine wpAnyH_take (i := 9) (v := .pointer (some ⟨gs, q + 1, none⟩)) rfl (by kernel_rfl) (by kernel_rfl) (by kernel_rfl) (fun _ _ _ h => h) (Or.inl ⟨by rfl, by intro w9 _; go_simp⟩) HX ?_
          simp only [List.getElem_toArray, List.getElem_cons_succ, List.getElem_cons_zero, Act.put, List.setIfInBounds_toArray, List.set_cons_zero, List.set_cons_succ]
          refine wpAnyH_take (i := 10) (v := .int .i64 (s : Int)) rfl (by kernel_rfl) (by kernel_rfl) (by kernel_rfl) (fun _ _ _ h => h) (Or.inl ⟨by rfl, by intro w9 h9; obtain ⟨c7, c8, c9⟩ := HCs.out w9 h9; go_simp⟩) HX ?_
          simp only [List.getElem_toArray, List.getElem_cons_succ, List.getElem_cons_zero, Act.put, List.setIfInBounds_toArray, List.set_cons_zero, List.set_cons_succ]
          refine wpAnyH_take (i := 11) (v := .pointer (some ⟨b, 0, none⟩)) rfl (by kernel_rfl) (by kernel_rfl) (by kernel_rfl) (fun _ _ _ h => h) (Or.inl ⟨by rfl, by intro w9 _; go_simp⟩) HX ?_
          simp only [List.getElem_toArray, List.getElem_cons_succ, List.getElem_cons_zero, Act.put, List.setIfInBounds_toArray, List.set_cons_zero, List.set_cons_succ]
          refine wpAnyH_take (i := 12) (v := .pointer (some ⟨b, 0, none⟩)) rfl (by kernel_rfl) (by kernel_rfl) (by kernel_rfl) (fun _ _ _ h => h) (Or.inl ⟨by rfl, by intro w9 _; go_simp⟩) HX ?_
          simp only [List.getElem_toArray, List.getElem_cons_succ, List.getElem_cons_zero, Act.put, List.setIfInBounds_toArray, List.set_cons_zero, List.set_cons_succ]
          refine wpAnyH_take (i := 13) (v := .pointer (some ⟨b, 0, none⟩)) rfl (by kernel_rfl) (by kernel_rfl) (by kernel_rfl) (fun _ _ _ h => h) (Or.inl ⟨by rfl, by intro w9 _; go_simp⟩) HX ?_
          simp only [List.getElem_toArray, List.getElem_cons_succ, List.getElem_cons_zero, Act.put, List.setIfInBounds_toArray, List.set_cons_zero, List.set_cons_succ]
          refine wpAnyH_take (i := 14) (v := .slice (some ⟨gs, 0, none⟩) (q + 1 + 1) sc) rfl (by kernel_rfl) (by kernel_rfl) (by kernel_rfl) (fun _ _ _ h => h) (Or.inl ⟨by rfl, by intro w9 h9; obtain ⟨c7, c8, c9⟩ := HCs.out w9 h9; go_simp⟩) HX ?_
          simp only [List.getElem_toArray, List.getElem_cons_succ, List.getElem_cons_zero, Act.put, List.setIfInBounds_toArray, List.set_cons_zero, List.set_cons_succ]
          refine wpAnyH_take (i := 15) (v := .int .i64 ((q : Int) + 2)) rfl (by kernel_rfl) (by kernel_rfl) (by kernel_rfl) (fun _ _ _ h => h) (Or.inl ⟨by rfl, by intro w9 _; go_simp⟩) HX ?_
          simp only [List.getElem_toArray, List.getElem_cons_succ, List.getElem_cons_zero, Act.put, List.setIfInBounds_toArray, List.set_cons_zero, List.set_cons_succ]
          refine wpAnyH_take (i := 16) (v := .int .i64 (q : Int)) rfl (by kernel_rfl) (by kernel_rfl) (by kernel_rfl) (fun _ _ _ h => h) (Or.inl ⟨by rfl, by intro w9 _; go_simp; exact kw3.out⟩) HX ?_
          simp only [List.getElem_toArray, List.getElem_cons_succ, List.getElem_cons_zero, Act.put, List.setIfInBounds_toArray, List.set_cons_zero, List.set_cons_succ]
          refine wpAnyH_take (i := 17) (v := .pointer (some ⟨gs, q, none⟩)) rfl (by kernel_rfl) (by kernel_rfl) (by kernel_rfl) (fun _ _ _ h => h) (Or.inl ⟨by rfl, by intro w9 _; go_simp⟩) HX ?_
          simp only [List.getElem_toArray, List.getElem_cons_succ, List.getElem_cons_zero, Act.put, List.setIfInBounds_toArray, List.set_cons_zero, List.set_cons_succ]
          refine wpAnyH_take (i := 18) (v := .int .i64 (s : Int)) rfl (by kernel_rfl) (by kernel_rfl) (by kernel_rfl) (fun _ _ _ h => h) (Or.inl ⟨by rfl, by intro w9 h9; obtain ⟨c7, c8, c9⟩ := HCs.out w9 h9; go_simp⟩) HX ?_
          simp only [List.getElem_toArray, List.getElem_cons_succ, List.getElem_cons_zero, Act.put, List.setIfInBounds_toArray, List.set_cons_zero, List.set_cons_succ]
          refine wpAnyH_take (i := 19) (v := .bool true) rfl (by kernel_rfl) (by kernel_rfl) (by kernel_rfl) (fun _ _ _ h => h) (Or.inl ⟨by rfl, by intro w9 _; go_simp⟩) HX ?_
          simp only [List.getElem_toArray, List.getElem_cons_succ, List.getElem_cons_zero, Act.put, List.setIfInBounds_toArray, List.set_cons_zero, List.set_cons_succ]
          refine wpAnyH_take (i := 20) (v := .bool true) rfl (by kernel_rfl) (by kernel_rfl) (by kernel_rfl) (fun _ _ _ h => h) (Or.inl ⟨by rfl, by intro w9 _; go_simp⟩) HX ?_
          simp only [List.getElem_toArray, List.getElem_cons_succ, List.getElem_cons_zero, Act.put, List.setIfInBounds_toArray, List.set_cons_zero, List.set_cons_succ]
          refine wpAnyH_done (by kernel_rfl) ?_ _
          have HY : Hid (Below wr.heap.size wr y0) := HX
          clear HX
          have hF8 := (H0.out _ HY.out).1
          have hU8 := (H0.out _ HY.out).2
          have g := HG.out
          have hq := HQ'.out
          have hodd : pcN (2 * m' + 1) = q + 1 := by rw [pc_odd, hq]
          have hml := mgH_length g
          rw [hodd] at hml
          have hfew := g.few
          rw [hodd] at hfew
          obtain ⟨xq, hxq⟩ : ∃ xq, Hs[q]? = some xq := ⟨_, List.getElem?_eq_getElem (by omega)⟩
          have hxq32 := HH32.out xq (List.mem_of_getElem? hxq)
          have hat1 : (mgH Hs (2 * m' + 1) y)[q]? = some xq := by rw [mgH_at g (by omega)]; exact hxq
          have hat2 : (mgH Hs (2 * m' + 1) y)[q + 1]? = some y := by
            have := mgH_last g
            rwa [hodd] at this
          obtain ⟨wa, wc, rfl, hwc⟩ := row_slice hF8.hs
          have HML : Hid ((mgH Hs (2 * m' + 1) y).length = q + 1 + 1) := hml
          rw [hml] at hF8 HW0 H0 hwc
          have hA := hF8.hsAt
          obtain ⟨-, hb, ho, rfl, -⟩ := hA.cells.2 q xq hat1
          have HR1 : Hid (∀ W, Below y0.heap.size y0 W → W.rangeAt hb (ho + q * 32) (hv xq).toList ∧ W.rangeAt hb (ho + (q + 1) * 32) (hv y).toList ∧ W.cell? ⟨b, 1, none⟩ = some (.slice (some ⟨hb, ho, none⟩) (q + 1 + 1) wc)) := fun W hW => by
            obtain ⟨-, b1', o1', e1, r1⟩ := hA.cells.2 q xq hat1
            obtain ⟨-, b2', o2', e2, r2⟩ := hA.cells.2 (q + 1) y hat2
            simp at e1 e2
            obtain ⟨rfl, rfl⟩ := e1
            obtain ⟨rfl, rfl⟩ := e2
            exact ⟨r1 W hW, r2 W hW, (hF8.next hW).cells.2⟩
          have hRT : Hid (∀ W, Below B w W → TabR W) := HTR.out
          have hn32 : (nodeL xq y).length = 32 := shaL_length _
          have hy32 := g.y32
          have HNd : Hid (∀ W, Below y0.heap.size y0 W → Calls Tryd.prog 30 #[.agg (hv xq), .agg (hv y)] W fun e w' => e = .returned (.agg (hv (nodeL xq y))) ∧ Below W.heap.size W w') := fun W hW => rnode_any xq y W (HTR.out W (hU8.below.trans (hW.mono hF8.le))) hxq32 hy32
          have hqs : (hv xq).size = 32 := by rw [hv_size, hxq32]
          have hysz : (hv y).size = 32 := by rw [hv_size, hy32]
          have hUs : (hv (nodeL xq y)).size = 32 := by rw [hv_size, hn32]
          have icq : Hid ((Tryd.prog.info? 30).map (·.size) = some (hv xq).toList.length) := by show _ = _; rw [info_h32, Array.length_toList, hqs]
          have icy : Hid ((Tryd.prog.info? 30).map (·.size) = some (hv y).toList.length) := by show _ = _; rw [info_h32, Array.length_toList, hysz]
          have icU : Hid ((Tryd.prog.info? 30).map (·.size) = some (hv (nodeL xq y)).toList.length) := by show _ = _; rw [info_h32, Array.length_toList, hUs]
          have hU1 := hv_one (nodeL xq y)
          have hbldU := build_hash (hv (nodeL xq y)) hUs
          rw [zero_h32] at hbldU
          have HMkU : Hid (∀ W : World, HsAt (W.alloc (.cells (hv (nodeL xq y)) 30)) (.slice (some ⟨W.heap.size, 0, none⟩) 1 1) [nodeL xq y]) := fun W => hs_made rfl hn32
          have HZb : Hid (∀ W : World, ∃ W', W.alloc (.cells (hv (padTo 32 [])) 30) = W' ∧ Below W.heap.size W W' ∧ W'.heap[W.heap.size]? = some (.cells (hv (padTo 32 [])) 30 (0, 0))) := hash_box
          have hz32 := hz_size
          rw [zero_h32] at HZb hz32
          have HMs : Hid (Mg n Hs x (2 * s) m' (nodeL xq y)) := g.step (by rw [hq]; exact hxq)
          have HTKx : Hid ((mgH Hs (2 * m' + 1) y).take q = Hs.take q ∧ mgH Hs m' (nodeL xq y) = Hs.take q ++ [nodeL xq y] ∧ (Hs.take q).length = q) := ⟨mgH_take g (by omega), by rw [mgH, hq], by rw [List.length_take]; omega⟩
          have HSKx : Hid ((mgS s (2 * m' + 1)).take q ++ [2 * s] = mgS (2 * s) m' ∧ ((mgS s (2 * m' + 1)).take q).length = q) := ⟨by have := mgS_step s m'; rwa [hq] at this, by rw [List.length_take, mgS_length, hodd]; omega⟩
          have hs2 : 2 * s ≤ 9223372036854775807 := by
            have h1 := g.le.1
            have h2 : s * 2 ≤ s * (2 * m' + 1 + 1) := Nat.mul_le_mul_left s (by omega)
            omega
          obtain ⟨u, hu⟩ : ∃ u, 2 * s = u := ⟨_, rfl⟩
          have HTW : Hid (wrap64 (2 * (s : Int)) = (u : Int)) := by
            have := two_wrap s hs2
            rwa [hu] at this
          have HUU : Hid (2 * s = u) := hu
          have HF8 : Hid (Rf y0 B b (.slice (some ⟨gs, 0, none⟩) (q + 1 + 1) sc) (.slice (some ⟨hb, ho, none⟩) (q + 1 + 1) wc) (mgS s (2 * m' + 1)) (mgH Hs (2 * m' + 1) y) ∧ Tu w B (.slice ya Hs.length yc) y0) := ⟨hF8, hU8⟩
          have HCz : Hid (∀ W, Below y0.heap.size y0 W → W.cell? ⟨gs, q + 1, none⟩ = some (.int .i64 (s : Int))) := fun W hW => (HCs.out W (HY.out.trans (hW.mono HY.out.size))).2.1
          have HXy : Hid (Below y0.heap.size y0 y0) := Below.refl _ _
          have hqw : q ≤ wc := by omega
          have hqw1 : (q : Int) ≤ (wc : Int) := by omega
          have hqc : Hid (q + 1 + 1 ≤ sc) := by
            obtain ⟨a9, c9, e9, h9⟩ := row_slice hF8.sz
            have e8 := Value.slice.inj e9
            show _ ≤ _
            omega
          have hqc1 : q ≤ sc := by have := hqc.out; omega
          have hqc2 : (q : Int) ≤ (sc : Int) := by omega
          have hq63' : q ≤ 1000 := by omega
          clear hF8 hU8 g hq hodd hml hfew hxq hxq32 hat1 hat2 hwc hA hn32 hy32 hs2 hu HCs H0 HY HG HMg0 HS0 HHs0
          generalize hv xq = XQ at *
          generalize hv y = YY at *
          generalize hUU : hv (nodeL xq y) = U at *
          go_upto_region 8 with fail
          refine wp_region_held (S := Below y0.heap.size y0) (by kernel_rfl) ?_
          change wpAnyH _ _ _ _ _ _ _ _ (World.drew _)
          have HX : Below y0.heap.size y0 y0.drew := HXy.out.drew
          clear HXy
          generalize World.drew _ = z0 at *
          refine wpAnyH_take (i := 0) (v := .pointer (some ⟨b, 0, none⟩)) rfl (by kernel_rfl) (by kernel_rfl) (by kernel_rfl) (fun _ _ _ h => h) (Or.inl ⟨by rfl, by intro w9 _; go_simp⟩) HX ?_
          simp only [List.getElem_toArray, List.getElem_cons_succ, List.getElem_cons_zero, Act.put, List.setIfInBounds_toArray, List.set_cons_zero, List.set_cons_succ]
          refine wpAnyH_take (i := 1) (v := .pointer (some ⟨b, 0, none⟩)) rfl (by kernel_rfl) (by kernel_rfl) (by kernel_rfl) (fun _ _ _ h => h) (Or.inl ⟨by rfl, by intro w9 _; go_simp⟩) HX ?_
          simp only [List.getElem_toArray, List.getElem_cons_succ, List.getElem_cons_zero, Act.put, List.setIfInBounds_toArray, List.set_cons_zero, List.set_cons_succ]
          refine wpAnyH_take (i := 2) (v := .pointer (some ⟨b, 1, none⟩)) rfl (by kernel_rfl) (by kernel_rfl) (by kernel_rfl) (fun _ _ _ h => h) (Or.inl ⟨by rfl, by intro w9 _; go_simp⟩) HX ?_
          simp only [List.getElem_toArray, List.getElem_cons_succ, List.getElem_cons_zero, Act.put, List.setIfInBounds_toArray, List.set_cons_zero, List.set_cons_succ]
          refine wpAnyH_take (i := 3) (v := .slice (some ⟨hb, ho, none⟩) (q + 1 + 1) wc) rfl (by kernel_rfl) (by kernel_rfl) (by kernel_rfl) (fun _ _ _ h => h) (Or.inl ⟨by rfl, by intro w9 h9; have c9 := (HR1.out w9 h9).2.2; go_simp⟩) HX ?_
          simp only [List.getElem_toArray, List.getElem_cons_succ, List.getElem_cons_zero, Act.put, List.setIfInBounds_toArray, List.set_cons_zero, List.set_cons_succ]
          refine wpAnyH_take (i := 4) (v := .int .i64 ((q : Int) + 2)) rfl (by kernel_rfl) (by kernel_rfl) (by kernel_rfl) (fun _ _ _ h => h) (Or.inl ⟨by rfl, by intro w9 _; go_simp⟩) HX ?_
          simp only [List.getElem_toArray, List.getElem_cons_succ, List.getElem_cons_zero, Act.put, List.setIfInBounds_toArray, List.set_cons_zero, List.set_cons_succ]
          refine wpAnyH_take (i := 5) (v := .int .i64 (q : Int)) rfl (by kernel_rfl) (by kernel_rfl) (by kernel_rfl) (fun _ _ _ h => h) (Or.inl ⟨by rfl, by intro w9 _; go_simp; exact kw3.out⟩) HX ?_
          simp only [List.getElem_toArray, List.getElem_cons_succ, List.getElem_cons_zero, Act.put, List.setIfInBounds_toArray, List.set_cons_zero, List.set_cons_succ]
          refine wpAnyH_take (i := 6) (v := .pointer (some ⟨hb, ho + q * 32, none⟩)) rfl (by kernel_rfl) (by kernel_rfl) (by kernel_rfl) (fun _ _ _ h => h) (Or.inl ⟨by rfl, by intro w9 _; go_simp⟩) HX ?_
          simp only [List.getElem_toArray, List.getElem_cons_succ, List.getElem_cons_zero, Act.put, List.setIfInBounds_toArray, List.set_cons_zero, List.set_cons_succ]
          refine wpAnyH_take (i := 7) (v := .agg XQ) rfl (by kernel_rfl) (by kernel_rfl) (by kernel_rfl) (fun _ _ _ h => h) (yieldsIf_load_mid (by rfl) 30 _ rfl hb (ho + q * 32) rfl XQ.toList _ (fun w' h => (HR1.out w' h).1) Tryd.underlying30 rfl icq.out) HX ?_
          simp only [List.getElem_toArray, List.getElem_cons_succ, List.getElem_cons_zero, Act.put, List.setIfInBounds_toArray, List.set_cons_zero, List.set_cons_succ]
          refine wpAnyH_take (i := 8) (v := .pointer (some ⟨b, 0, none⟩)) rfl (by kernel_rfl) (by kernel_rfl) (by kernel_rfl) (fun _ _ _ h => h) (Or.inl ⟨by rfl, by intro w9 _; go_simp⟩) HX ?_
          simp only [List.getElem_toArray, List.getElem_cons_succ, List.getElem_cons_zero, Act.put, List.setIfInBounds_toArray, List.set_cons_zero, List.set_cons_succ]
          refine wpAnyH_take (i := 9) (v := .pointer (some ⟨b, 0, none⟩)) rfl (by kernel_rfl) (by kernel_rfl) (by kernel_rfl) (fun _ _ _ h => h) (Or.inl ⟨by rfl, by intro w9 _; go_simp⟩) HX ?_
          simp only [List.getElem_toArray, List.getElem_cons_succ, List.getElem_cons_zero, Act.put, List.setIfInBounds_toArray, List.set_cons_zero, List.set_cons_succ]
          refine wpAnyH_take (i := 10) (v := .pointer (some ⟨b, 1, none⟩)) rfl (by kernel_rfl) (by kernel_rfl) (by kernel_rfl) (fun _ _ _ h => h) (Or.inl ⟨by rfl, by intro w9 _; go_simp⟩) HX ?_
          simp only [List.getElem_toArray, List.getElem_cons_succ, List.getElem_cons_zero, Act.put, List.setIfInBounds_toArray, List.set_cons_zero, List.set_cons_succ]
          refine wpAnyH_take (i := 11) (v := .slice (some ⟨hb, ho, none⟩) (q + 1 + 1) wc) rfl (by kernel_rfl) (by kernel_rfl) (by kernel_rfl) (fun _ _ _ h => h) (Or.inl ⟨by rfl, by intro w9 h9; have c9 := (HR1.out w9 h9).2.2; go_simp⟩) HX ?_
          simp only [List.getElem_toArray, List.getElem_cons_succ, List.getElem_cons_zero, Act.put, List.setIfInBounds_toArray, List.set_cons_zero, List.set_cons_succ]
          refine wpAnyH_take (i := 12) (v := .int .i64 ((q : Int) + 2)) rfl (by kernel_rfl) (by kernel_rfl) (by kernel_rfl) (fun _ _ _ h => h) (Or.inl ⟨by rfl, by intro w9 _; go_simp⟩) HX ?_
          simp only [List.getElem_toArray, List.getElem_cons_succ, List.getElem_cons_zero, Act.put, List.setIfInBounds_toArray, List.set_cons_zero, List.set_cons_succ]
          refine wpAnyH_take (i := 13) (v := .int .i64 ((q : Int) + 1)) rfl (by kernel_rfl) (by kernel_rfl) (by kernel_rfl) (fun _ _ _ h => h) (Or.inl ⟨by rfl, by intro w9 _; have k9 := kw1.out.1; go_simp⟩) HX ?_
          simp only [List.getElem_toArray, List.getElem_cons_succ, List.getElem_cons_zero, Act.put, List.setIfInBounds_toArray, List.set_cons_zero, List.set_cons_succ]
          refine wpAnyH_take (i := 14) (v := .pointer (some ⟨hb, ho + (q + 1) * 32, none⟩)) rfl (by kernel_rfl) (by kernel_rfl) (by kernel_rfl) (fun _ _ _ h => h) (Or.inl ⟨by rfl, by intro w9 _; go_simp⟩) HX ?_
          simp only [List.getElem_toArray, List.getElem_cons_succ, List.getElem_cons_zero, Act.put, List.setIfInBounds_toArray, List.set_cons_zero, List.set_cons_succ]
          refine wpAnyH_take (i := 15) (v := .agg YY) rfl (by kernel_rfl) (by kernel_rfl) (by kernel_rfl) (fun _ _ _ h => h) (yieldsIf_load_mid (by rfl) 30 _ rfl hb (ho + (q + 1) * 32) rfl YY.toList _ (fun w' h => (HR1.out w' h).2.1) Tryd.underlying30 rfl icy.out) HX ?_
          simp only [List.getElem_toArray, List.getElem_cons_succ, List.getElem_cons_zero, Act.put, List.setIfInBounds_toArray, List.set_cons_zero, List.set_cons_succ]
          refine wpAnyH_ready (rs := [16, 17]) (by kernel_rfl) (by simp) (AllReadyH.cons (by simp only [List.getElem?_toArray, List.getElem?_cons_succ, List.getElem?_cons_zero]; rfl) (fun K hK => ?_) (AllReadyH.cons (by simp only [List.getElem?_toArray, List.getElem?_cons_succ, List.getElem?_cons_zero]; rfl) (fun K hK => ?_) AllReadyH.nil))
          · refine step_want (by rfl) ?_
            go_simp
            refine (HNd.out _ HX).mono ?_
            rintro e z1 ⟨rfl, bc⟩
            have HX : Below y0.heap.size y0 z1 := HX.trans (bc.mono HX.size)
            clear bc
            refine hK.out _ _ HX (fun _ => ?_)
            clear hK K
            try simp only [List.getElem_toArray, List.getElem_cons_succ, List.getElem_cons_zero, Act.put, List.setIfInBounds_toArray, List.set_cons_zero, List.set_cons_succ]
            refine wpAnyH_ready (rs := [17]) (by kernel_rfl) (by simp) (AllReadyH.cons (by simp only [List.getElem?_toArray, List.getElem?_cons_succ, List.getElem?_cons_zero]; rfl) (fun K hK => ?_) AllReadyH.nil)
            refine step_want (by rfl) ?_
            go_simp
            have hqy : y0.heap.size ≤ z1.heap.size := HX.size
            obtain ⟨z2, hw, bc, gq⟩ := HZb.out z1
            have HX : Below y0.heap.size y0 z2 := HX.trans (bc.mono HX.size)
            obtain ⟨q8, hq8⟩ : ∃ q8, z1.heap.size = q8 := ⟨_, rfl⟩
            rw [hq8] at gq hqy
            rw [hw, hq8]
            clear bc hw hq8
            refine hK.out _ _ HX (fun _ => ?_)
            clear hK K
            try simp only [List.getElem_toArray, List.getElem_cons_succ, List.getElem_cons_zero, Act.put, List.setIfInBounds_toArray, List.set_cons_zero, List.set_cons_succ]
            refine wpAnyH_ready (rs := [18]) (by kernel_rfl) (by simp) (AllReadyH.cons (by simp only [List.getElem?_toArray, List.getElem?_cons_succ, List.getElem?_cons_zero]; rfl) (fun K hK => ?_) AllReadyH.nil)
            refine step_want (by rfl) ?_
            refine wp_store_row 30 _ _ rfl q8 U rfl rfl _ _ gq (by rw [info_h32, hUs]) (by rw [hz32, hUs]) hU1 ?_
            have HX : Below y0.heap.size y0 (z2.setRow q8 U) := below_setRow HX hqy _
            have gq := heap_setRow_same (ds := U) gq
            generalize z2.setRow q8 U = z3 at *
            refine hK.out _ _ HX (fun _ => ?_)
            clear hK K
            try simp only [List.getElem_toArray, List.getElem_cons_succ, List.getElem_cons_zero, Act.put, List.setIfInBounds_toArray, List.set_cons_zero, List.set_cons_succ]
            refine wpAnyH_done (by kernel_rfl) ?_ _
            have HZ : Hid (Below y0.heap.size y0 z3 ∧ z3.heap[q8]? = some (.cells U 30 (0, 0)) ∧ y0.heap.size ≤ q8) := ⟨HX, gq, hqy⟩
            have hFz := HF8.out.1.next HX
            have hUz := HF8.out.2.trans HW0.out (Tu.of_below HX HF8.out.1.le)
            obtain ⟨cc0, cc1⟩ := hFz.cells
            have cs := HCz.out _ HX
            obtain ⟨w5, hw5⟩ : ∃ w5, World.alloc z3 (.cells #[.int .i64 (u : Int)] 3) = w5 := ⟨_, rfl⟩
            have b5 : Below (World.heap z3).size z3 w5 := by rw [← hw5]; exact (Below.refl _ _).alloc (Nat.le_refl _) _
            have g5 : w5.heap[(World.heap z3).size]? = some (.cells #[.int .i64 (u : Int)] 3 (0, 0)) := by rw [← hw5]; exact heap_alloc_last z3 _
            have c5 : w5.cell? ⟨(World.heap z3).size, 0, none⟩ = some (.int .i64 (u : Int)) := by rw [cell_of_row _ _ _ _ _ _ g5]; rfl
            have HF5 : Hid (Rf w5 B b (.slice (some ⟨gs, 0, none⟩) (q + 1 + 1) sc) (.slice (some ⟨hb, ho, none⟩) (q + 1 + 1) wc) (mgS s (2 * m' + 1)) (mgH Hs (2 * m' + 1) y) ∧ Tu w B (.slice ya Hs.length yc) w5 ∧ w5.heap[q8]? = some (.cells U 30 (0, 0))) := ⟨hFz.next b5, hUz.trans HW0.out (Tu.of_below b5 hFz.le), (b5.block _ (Array.getElem?_eq_some_iff.1 gq).1).trans gq⟩
            obtain ⟨SK, hSK⟩ : ∃ SK, (mgS s (2 * m' + 1)).take q = SK := ⟨_, rfl⟩
            have HSK : Hid (SK ++ [u] = mgS (2 * s) m' ∧ SK.length = q) := by
              have := HSKx.out
              rw [hSK, HUU.out] at this
              rw [← HUU.out] at this ⊢
              exact this
            have hrow : Hid (w5.ownsRow B 3 1 (.slice (some ⟨gs, 0, none⟩) q sc) SK.length (isv SK)) := by
              have h1 := HF5.out.1.sz
              rw [mgS_length, show pcN (2 * m' + 1) + 1 = q + 1 + 1 by rw [pc_odd, HQ'.out]] at h1
              have h2 := row_take h1 (show q ≤ q + 1 + 1 by omega)
              rw [isv_take, hSK] at h2
              show World.ownsRow _ _ _ _ _ _ _
              rw [HSK.out.2]
              exact h2
            have hne8 : (Value.slice (some ⟨hb, ho, none⟩) (q + 1 + 1) wc).ownBlock ≠ some q8 := fun e => by
              obtain ⟨-, cur, e2⟩ := row_at HF8.out.1.hs e
              have := (Array.getElem?_eq_some_iff.1 e2).1
              omega
            have HNE : Hid ((Value.slice (some ⟨hb, ho, none⟩) (q + 1 + 1) wc).ownBlock ≠ some q8) := hne8
            have hT5 : Hid (∀ (v' : Value) (w' : World), w'.ownsRow B 3 1 v' (SK ++ [u]).length (isv (SK ++ [u])) → w5.grownBy w' (Value.slice (some ⟨gs, 0, none⟩) q sc).ownBlock → Rf (w'.setCell ⟨b, 0, none⟩ v') B b v' (.slice (some ⟨hb, ho, none⟩) (q + 1 + 1) wc) (SK ++ [u]) (mgH Hs (2 * m' + 1) y) ∧ Tu w B (.slice ya Hs.length yc) (w'.setCell ⟨b, 0, none⟩ v') ∧ (w'.setCell ⟨b, 0, none⟩ v').heap[q8]? = some (.cells U 30 (0, 0)) ∧ (w'.cell? ⟨b, 0, none⟩ = some (.slice (some ⟨gs, 0, none⟩) (q + 1 + 1) sc) ∧ w'.frozen? ⟨b, 0, none⟩ = false)) := fun v' w' h1 h2 => by
              have h2' : w5.grownBy w' (Value.slice (some ⟨gs, 0, none⟩) (q + 1 + 1) sc).ownBlock := h2
              obtain ⟨h3, h4⟩ := HF5.out.1.turnS h2' h1
              have hr := rcells (HF5.out.1.grownS h2')
              refine ⟨h3, HF5.out.2.1.trans HW0.out (Tu.of_ch HF5.out.1 h4), (h4.block q8 (Array.getElem?_eq_some_iff.1 HF5.out.2.2).1 (fun e => ?_) (fun e => ?_) HNE.out).trans HF5.out.2.2, hr.1, hr.2.2.1⟩
              · have := HF5.out.2.2
                rw [show q8 = b from e, HF5.out.1.box] at this
                have e3 := (Obj.cells.inj (Option.some.inj this)).2.1
                exact absurd e3 (by decide)
              · obtain ⟨-, cur, e3⟩ := row_at HF5.out.1.sz e
                rw [HF5.out.2.2] at e3
                have e4 := (Obj.cells.inj (Option.some.inj e3)).2.1
                exact absurd e4 (by decide)
            have hSl : Hid (SK.length ≤ 1000) := by
              show _ ≤ _
              rw [HSK.out.2]
              exact hq63'
            clear HX gq hqy hFz hUz b5 g5 hne8 hSK
            go_upto_region 11 with (first | (simp only [KW.out.1, KW.out.2, HTW.out]) | (refine wpList_plain rfl fun _ hK => wp_append_i1 (M := SK) (.tmp 94) (.tmp 96) rfl rfl hrow.out (World.heap z3).size u rfl c5 hSl.out HF5.out.1.le (fun v' w6 h1 h2 => hK _ _ ?_); have HT6 : Hid _ := hT5.out v' w6 h1 h2; obtain ⟨d6, f6⟩ := HT6.out.2.2.2; obtain ⟨va2, vc2, rfl, -⟩ := row_slice h1; clear h1 h2 c5 cc0 cc1 hw5 cs) | fail)
            have HT7 : Hid (Rf (w6.setCell ⟨b, 0, none⟩ (.slice va2 (SK.length + 1) vc2)) B b (.slice va2 (SK.length + 1) vc2) (.slice (some ⟨hb, ho, none⟩) (q + 1 + 1) wc) (SK ++ [u]) (mgH Hs (2 * m' + 1) y) ∧ Tu w B (.slice ya Hs.length yc) (w6.setCell ⟨b, 0, none⟩ (.slice va2 (SK.length + 1) vc2)) ∧ (w6.setCell ⟨b, 0, none⟩ (.slice va2 (SK.length + 1) vc2)).heap[q8]? = some (.cells U 30 (0, 0))) := by
              have h9 := HT6.out
              simp only [List.length_append, List.length_singleton] at h9
              exact ⟨h9.1, h9.2.1, h9.2.2.1⟩
            clear HT6 hT5 HF5 d6 f6 hSl hrow
            generalize w6.setCell ⟨b, 0, none⟩ (.slice va2 (SK.length + 1) vc2) = w7 at *
            obtain ⟨TK, hTK⟩ : ∃ TK, Hs.take q = TK := ⟨_, rfl⟩
            have HTK : Hid ((mgH Hs (2 * m' + 1) y).take q = TK ∧ mgH Hs m' (nodeL xq y) = TK ++ [nodeL xq y] ∧ TK.length = q) := by
              have := HTKx.out
              rw [hTK] at this
              exact this
            have k11row : ∀ {W : World} {sv : Value}, Rf W B b sv (.slice (some ⟨hb, ho, none⟩) (q + 1 + 1) wc) (SK ++ [u]) (mgH Hs (2 * m' + 1) y) → W.ownsRow B 30 32 (.slice (some ⟨hb, ho, none⟩) q wc) TK.length (hsv TK) := fun h => by
              have h1 := h.hs
              rw [HML.out] at h1
              have h2 := row_take h1 (show q ≤ q + 1 + 1 by omega)
              rw [hsv_take h.h32 (by rw [HML.out]; omega), HTK.out.1] at h2
              rw [HTK.out.2.2]
              exact h2
            have k11h32 : ∀ z ∈ TK, z.length = 32 := fun z hz => HH32.out z (List.mem_of_mem_take (hTK ▸ hz))
            have k11len : TK.length ≤ 1000 := by rw [HTK.out.2.2]; exact hq63'
            have k11n32 : ∀ z ∈ TK ++ [nodeL xq y], z.length = 32 := fun z hz => (List.mem_append.1 hz).elim (k11h32 z) (fun e => by rw [List.mem_singleton.1 e]; exact shaL_length _)
            have hne8 := HNE.out
            clear hTK
            refine wp_region_held (S := (fun W => W.heap[q8]? = some (.cells U 30 (0, 0)))) (by kernel_rfl) ?_
            change wpAnyH _ _ _ _ _ _ _ _ (World.drew _)
            have HX : (fun W => W.heap[q8]? = some (.cells U 30 (0, 0))) w7.drew := HT7.out.2.2
            have hF := HT7.out.1.next (Below.refl _ _).drew
            have hU := HT7.out.2.1.trans HW0.out (Tu.of_below (Below.refl _ _).drew HT7.out.1.le)
            clear HT7
            generalize World.drew _ = u0 at *
            refine wpAnyH_take (i := 0) (v := .pointer (some ⟨b, 0, none⟩)) rfl (by kernel_rfl) (by kernel_rfl) (by kernel_rfl) (fun _ _ _ h => h) (Or.inl ⟨by rfl, by intro w9 _; go_simp⟩) HX ?_
            simp only [List.getElem_toArray, List.getElem_cons_succ, List.getElem_cons_zero, Act.put, List.setIfInBounds_toArray, List.set_cons_zero, List.set_cons_succ]
            refine wpAnyH_take (i := 1) (v := .pointer (some ⟨b, 0, none⟩)) rfl (by kernel_rfl) (by kernel_rfl) (by kernel_rfl) (fun _ _ _ h => h) (Or.inl ⟨by rfl, by intro w9 _; go_simp⟩) HX ?_
            simp only [List.getElem_toArray, List.getElem_cons_succ, List.getElem_cons_zero, Act.put, List.setIfInBounds_toArray, List.set_cons_zero, List.set_cons_succ]
            refine wpAnyH_take (i := 2) (v := .pointer (some ⟨b, 0, none⟩)) rfl (by kernel_rfl) (by kernel_rfl) (by kernel_rfl) (fun _ _ _ h => h) (Or.inl ⟨by rfl, by intro w9 _; go_simp⟩) HX ?_
            simp only [List.getElem_toArray, List.getElem_cons_succ, List.getElem_cons_zero, Act.put, List.setIfInBounds_toArray, List.set_cons_zero, List.set_cons_succ]
            refine wpAnyH_take (i := 3) (v := .pointer (some ⟨b, 1, none⟩)) rfl (by kernel_rfl) (by kernel_rfl) (by kernel_rfl) (fun _ _ _ h => h) (Or.inl ⟨by rfl, by intro w9 _; go_simp⟩) HX ?_
            simp only [List.getElem_toArray, List.getElem_cons_succ, List.getElem_cons_zero, Act.put, List.setIfInBounds_toArray, List.set_cons_zero, List.set_cons_succ]
            refine wpAnyH_take (i := 5) (v := .int .i64 ((q : Int) + 2)) rfl (by kernel_rfl) (by kernel_rfl) (by kernel_rfl) (fun _ _ _ h => h) (Or.inl ⟨by rfl, by intro w9 _; go_simp⟩) HX ?_
            simp only [List.getElem_toArray, List.getElem_cons_succ, List.getElem_cons_zero, Act.put, List.setIfInBounds_toArray, List.set_cons_zero, List.set_cons_succ]
            refine wpAnyH_take (i := 6) (v := .int .i64 (q : Int)) rfl (by kernel_rfl) (by kernel_rfl) (by kernel_rfl) (fun _ _ _ h => h) (Or.inl ⟨by rfl, by intro w9 _; go_simp; exact kw3.out⟩) HX ?_
            simp only [List.getElem_toArray, List.getElem_cons_succ, List.getElem_cons_zero, Act.put, List.setIfInBounds_toArray, List.set_cons_zero, List.set_cons_succ]
            refine wpAnyH_take (i := 8) (v := .agg U) rfl (by kernel_rfl) (by kernel_rfl) (by kernel_rfl) (fun _ _ _ h => h) (yieldsIf_load_mid (by rfl) 30 _ rfl q8 0 rfl U.toList _ (fun w' h => range_row h) Tryd.underlying30 rfl icU.out) HX ?_
            simp only [List.getElem_toArray, List.getElem_cons_succ, List.getElem_cons_zero, Act.put, List.setIfInBounds_toArray, List.set_cons_zero, List.set_cons_succ]
            refine wpAnyH_ready (rs := [4, 9]) (by kernel_rfl) (by simp) (AllReadyH.cons (by simp only [List.getElem?_toArray, List.getElem?_cons_succ, List.getElem?_cons_zero]; rfl) (fun K hK => ?_) (AllReadyH.cons (by simp only [List.getElem?_toArray, List.getElem?_cons_succ, List.getElem?_cons_zero]; rfl) (fun K hK => ?_) AllReadyH.nil))
            · refine step_want (by rfl) ?_
              have c9 := hF.cells.2
              go_simp
              clear c9
              refine hK.out _ _ HX (fun _ => ?_)
              clear hK K
              try simp only [List.getElem_toArray, List.getElem_cons_succ, List.getElem_cons_zero, Act.put, List.setIfInBounds_toArray, List.set_cons_zero, List.set_cons_succ]
              refine wpAnyH_take (i := 7) (v := .slice (some ⟨hb, ho, none⟩) q wc) rfl (by kernel_rfl) (by kernel_rfl) (by kernel_rfl) (fun _ _ _ h => h) (Or.inl ⟨by rfl, by intro w9 _; go_simp⟩) HX ?_
              simp only [List.getElem_toArray, List.getElem_cons_succ, List.getElem_cons_zero, Act.put, List.setIfInBounds_toArray, List.set_cons_zero, List.set_cons_succ]
              refine wpAnyH_ready (rs := [9]) (by kernel_rfl) (by simp) (AllReadyH.cons (by simp only [List.getElem?_toArray, List.getElem?_cons_succ, List.getElem?_cons_zero]; rfl) (fun K hK => ?_) AllReadyH.nil)
              refine step_want (by rfl) ?_
              go_simp
              have hN := HMkU.out u0
              obtain ⟨x1, hw⟩ : ∃ x1, u0.alloc (.cells U 30) = x1 := ⟨_, rfl⟩
              have bc : Below u0.heap.size u0 x1 := by rw [← hw]; exact (Below.refl _ _).alloc (Nat.le_refl _) _
              obtain ⟨e1, he0⟩ : ∃ e1, u0.heap.size = e1 := ⟨_, rfl⟩
              rw [hw, he0] at hN
              rw [hw, he0]
              have HX := (bc.block _ (Array.getElem?_eq_some_iff.1 HX).1).trans HX
              have hU := hU.trans HW0.out (Tu.of_below bc hF.le)
              have hF := hF.next bc
              clear bc hw he0
              refine hK.out _ _ HX (fun _ => ?_)
              clear hK K
              try simp only [List.getElem_toArray, List.getElem_cons_succ, List.getElem_cons_zero, Act.put, List.setIfInBounds_toArray, List.set_cons_zero, List.set_cons_succ]
              refine wpAnyH_ready (rs := [10]) (by kernel_rfl) (by simp) (AllReadyH.cons (by simp only [List.getElem?_toArray, List.getElem?_cons_succ, List.getElem?_cons_zero]; rfl) (fun K hK => ?_) AllReadyH.nil)
              refine step_want (by rfl) ?_
              have hsz : w.heap.size ≤ x1.heap.size := hU.below.size
              refine wp_append_h1 (M := TK) (.tmp 107) (.tmp 109) rfl rfl (k11row hF) (k11h32) e1 (nodeL xq y) rfl hN k11len hF.le ?_
              intro v' x2 r1 r2 r3
              obtain ⟨za, zc, rfl, -⟩ := row_slice r1
              have r2 : World.grownBy x1 x2 (Value.slice (some ⟨hb, ho, none⟩) (q + 1 + 1) wc).ownBlock := r2
              have hbx := hF.grownH r2
              have hC := rcells hbx
              have HXo := HX
              have HX := (r2.block _ (Array.getElem?_eq_some_iff.1 HX).1 (fun e => hne8 e.symm)).trans HX
              clear hN
              refine hK.out _ _ HX (fun _ => ?_)
              clear hK K
              try simp only [List.getElem_toArray, List.getElem_cons_succ, List.getElem_cons_zero, Act.put, List.setIfInBounds_toArray, List.set_cons_zero, List.set_cons_succ]
              refine wpAnyH_take (i := 11) (v := .pointer (some ⟨b, 0, none⟩)) rfl (by kernel_rfl) (by kernel_rfl) (by kernel_rfl) (fun _ _ _ h => h) (Or.inl ⟨by rfl, by intro w9 _; go_simp⟩) HX ?_
              simp only [List.getElem_toArray, List.getElem_cons_succ, List.getElem_cons_zero, Act.put, List.setIfInBounds_toArray, List.set_cons_zero, List.set_cons_succ]
              refine wpAnyH_take (i := 12) (v := .pointer (some ⟨b, 1, none⟩)) rfl (by kernel_rfl) (by kernel_rfl) (by kernel_rfl) (fun _ _ _ h => h) (Or.inl ⟨by rfl, by intro w9 _; go_simp⟩) HX ?_
              simp only [List.getElem_toArray, List.getElem_cons_succ, List.getElem_cons_zero, Act.put, List.setIfInBounds_toArray, List.set_cons_zero, List.set_cons_succ]
              refine wpAnyH_ready (rs := [13]) (by kernel_rfl) (by simp) (AllReadyH.cons (by simp only [List.getElem?_toArray, List.getElem?_cons_succ, List.getElem?_cons_zero]; rfl) (fun K hK => ?_) AllReadyH.nil)
              refine step_want (by rfl) ?_
              obtain ⟨d0, d1, f0, f1⟩ := hC
              obtain ⟨hF9, hC9⟩ := hF.turnH r2 r1 (k11n32)
              have hU9 := hU.trans HW0.out (Tu.of_ch hF hC9)
              have HX : (fun W => W.heap[q8]? = some (.cells U 30 (0, 0))) (x2.setCell ⟨b, 1, none⟩ (.slice za (TK ++ [(nodeL xq y)]).length zc)) := box_stays HXo r2 hne8 hbx
              clear hF hU hC9 r1 r2 hbx HXo
              go_simp
              clear d0 d1 f0 f1
              simp only [List.length_append, List.length_singleton] at hF9 hU9 HX r3 ⊢
              generalize World.setCell _ _ (.slice za (TK.length + 1) zc) = x3 at *
              refine hK.out _ _ HX (fun _ => ?_)
              clear hK K
              try simp only [List.getElem_toArray, List.getElem_cons_succ, List.getElem_cons_zero, Act.put, List.setIfInBounds_toArray, List.set_cons_zero, List.set_cons_succ]
              refine wpAnyH_done (by kernel_rfl) ?_ _
              have hWh' : Wh w (.slice ya Hs.length yc) (.slice za (TK.length + 1) zc) := HW0.out.trans hsz r3
              have HE : Hid (Rf x3 B b (.slice va2 (SK.length + 1) vc2) (.slice za (TK.length + 1) zc) (mgS (2 * s) m') (mgH Hs m' (nodeL xq y)) ∧ Wh w (.slice ya Hs.length yc) (.slice za (TK.length + 1) zc) ∧ Tu w B (.slice ya Hs.length yc) x3) := by
                rw [HTK.out.2.1, ← HSK.out.1]
                exact ⟨hF9, hWh', hU9⟩
              have ccz := hF9.cells.1
              clear hF9 hWh' hU9 r3 HX hsz
              go_wp2
              go_roundw
              case rel => exact ⟨2 * s, m', nodeL xq y, _, _, HMs.out, by first | (rw [HQ'.out, ← HSK.out.2]; rfl) | (simp only [HQ'.out, HSK.out.2]; done) | (simp only [HQ'.out, HSK.out.2]; rfl), HE.out.1, HE.out.2.1, HE.out.2.2⟩
              case measure => simp [intOf]; have := HSK.out.2; omega
            · refine step_want (by rfl) ?_
              go_simp
              have hN := HMkU.out u0
              obtain ⟨x1, hw⟩ : ∃ x1, u0.alloc (.cells U 30) = x1 := ⟨_, rfl⟩
              have bc : Below u0.heap.size u0 x1 := by rw [← hw]; exact (Below.refl _ _).alloc (Nat.le_refl _) _
              obtain ⟨e1, he0⟩ : ∃ e1, u0.heap.size = e1 := ⟨_, rfl⟩
              rw [hw, he0] at hN
              rw [hw, he0]
              have HX := (bc.block _ (Array.getElem?_eq_some_iff.1 HX).1).trans HX
              have hU := hU.trans HW0.out (Tu.of_below bc hF.le)
              have hF := hF.next bc
              clear bc hw he0
              refine hK.out _ _ HX (fun _ => ?_)
              clear hK K
              try simp only [List.getElem_toArray, List.getElem_cons_succ, List.getElem_cons_zero, Act.put, List.setIfInBounds_toArray, List.set_cons_zero, List.set_cons_succ]
              refine wpAnyH_ready (rs := [4]) (by kernel_rfl) (by simp) (AllReadyH.cons (by simp only [List.getElem?_toArray, List.getElem?_cons_succ, List.getElem?_cons_zero]; rfl) (fun K hK => ?_) AllReadyH.nil)
              refine step_want (by rfl) ?_
              have c9 := hF.cells.2
              go_simp
              clear c9
              refine hK.out _ _ HX (fun _ => ?_)
              clear hK K
              try simp only [List.getElem_toArray, List.getElem_cons_succ, List.getElem_cons_zero, Act.put, List.setIfInBounds_toArray, List.set_cons_zero, List.set_cons_succ]
              refine wpAnyH_take (i := 7) (v := .slice (some ⟨hb, ho, none⟩) q wc) rfl (by kernel_rfl) (by kernel_rfl) (by kernel_rfl) (fun _ _ _ h => h) (Or.inl ⟨by rfl, by intro w9 _; go_simp⟩) HX ?_
              simp only [List.getElem_toArray, List.getElem_cons_succ, List.getElem_cons_zero, Act.put, List.setIfInBounds_toArray, List.set_cons_zero, List.set_cons_succ]
              refine wpAnyH_ready (rs := [10]) (by kernel_rfl) (by simp) (AllReadyH.cons (by simp only [List.getElem?_toArray, List.getElem?_cons_succ, List.getElem?_cons_zero]; rfl) (fun K hK => ?_) AllReadyH.nil)
              refine step_want (by rfl) ?_
              have hsz : w.heap.size ≤ x1.heap.size := hU.below.size
              refine wp_append_h1 (M := TK) (.tmp 107) (.tmp 109) rfl rfl (k11row hF) (k11h32) e1 (nodeL xq y) rfl hN k11len hF.le ?_
              intro v' x2 r1 r2 r3
              obtain ⟨za, zc, rfl, -⟩ := row_slice r1
              have r2 : World.grownBy x1 x2 (Value.slice (some ⟨hb, ho, none⟩) (q + 1 + 1) wc).ownBlock := r2
              have hbx := hF.grownH r2
              have hC := rcells hbx
              have HXo := HX
              have HX := (r2.block _ (Array.getElem?_eq_some_iff.1 HX).1 (fun e => hne8 e.symm)).trans HX
              clear hN
              refine hK.out _ _ HX (fun _ => ?_)
              clear hK K
              try simp only [List.getElem_toArray, List.getElem_cons_succ, List.getElem_cons_zero, Act.put, List.setIfInBounds_toArray, List.set_cons_zero, List.set_cons_succ]
              refine wpAnyH_take (i := 11) (v := .pointer (some ⟨b, 0, none⟩)) rfl (by kernel_rfl) (by kernel_rfl) (by kernel_rfl) (fun _ _ _ h => h) (Or.inl ⟨by rfl, by intro w9 _; go_simp⟩) HX ?_
              simp only [List.getElem_toArray, List.getElem_cons_succ, List.getElem_cons_zero, Act.put, List.setIfInBounds_toArray, List.set_cons_zero, List.set_cons_succ]
              refine wpAnyH_take (i := 12) (v := .pointer (some ⟨b, 1, none⟩)) rfl (by kernel_rfl) (by kernel_rfl) (by kernel_rfl) (fun _ _ _ h => h) (Or.inl ⟨by rfl, by intro w9 _; go_simp⟩) HX ?_
              simp only [List.getElem_toArray, List.getElem_cons_succ, List.getElem_cons_zero, Act.put, List.setIfInBounds_toArray, List.set_cons_zero, List.set_cons_succ]
              refine wpAnyH_ready (rs := [13]) (by kernel_rfl) (by simp) (AllReadyH.cons (by simp only [List.getElem?_toArray, List.getElem?_cons_succ, List.getElem?_cons_zero]; rfl) (fun K hK => ?_) AllReadyH.nil)
              refine step_want (by rfl) ?_
              obtain ⟨d0, d1, f0, f1⟩ := hC
              obtain ⟨hF9, hC9⟩ := hF.turnH r2 r1 (k11n32)
              have hU9 := hU.trans HW0.out (Tu.of_ch hF hC9)
              have HX : (fun W => W.heap[q8]? = some (.cells U 30 (0, 0))) (x2.setCell ⟨b, 1, none⟩ (.slice za (TK ++ [(nodeL xq y)]).length zc)) := box_stays HXo r2 hne8 hbx
              clear hF hU hC9 r1 r2 hbx HXo
              go_simp
              clear d0 d1 f0 f1
              simp only [List.length_append, List.length_singleton] at hF9 hU9 HX r3 ⊢
              generalize World.setCell _ _ (.slice za (TK.length + 1) zc) = x3 at *
              refine hK.out _ _ HX (fun _ => ?_)
              clear hK K
              try simp only [List.getElem_toArray, List.getElem_cons_succ, List.getElem_cons_zero, Act.put, List.setIfInBounds_toArray, List.set_cons_zero, List.set_cons_succ]
              refine wpAnyH_done (by kernel_rfl) ?_ _
              have hWh' : Wh w (.slice ya Hs.length yc) (.slice za (TK.length + 1) zc) := HW0.out.trans hsz r3
              have HE : Hid (Rf x3 B b (.slice va2 (SK.length + 1) vc2) (.slice za (TK.length + 1) zc) (mgS (2 * s) m') (mgH Hs m' (nodeL xq y)) ∧ Wh w (.slice ya Hs.length yc) (.slice za (TK.length + 1) zc) ∧ Tu w B (.slice ya Hs.length yc) x3) := by
                rw [HTK.out.2.1, ← HSK.out.1]
                exact ⟨hF9, hWh', hU9⟩
              have ccz := hF9.cells.1
              clear hF9 hWh' hU9 r3 HX hsz
              go_wp2
              go_roundw
              case rel => exact ⟨2 * s, m', nodeL xq y, _, _, HMs.out, by first | (rw [HQ'.out, ← HSK.out.2]; rfl) | (simp only [HQ'.out, HSK.out.2]; done) | (simp only [HQ'.out, HSK.out.2]; rfl), HE.out.1, HE.out.2.1, HE.out.2.2⟩
              case measure => simp [intOf]; have := HSK.out.2; omega
          · refine step_want (by rfl) ?_
            go_simp
            have hqy : y0.heap.size ≤ z0.heap.size := HX.size
            obtain ⟨z1, hw, bc, gq⟩ := HZb.out z0
            have HX : Below y0.heap.size y0 z1 := HX.trans (bc.mono HX.size)
            obtain ⟨q8, hq8⟩ : ∃ q8, z0.heap.size = q8 := ⟨_, rfl⟩
            rw [hq8] at gq hqy
            rw [hw, hq8]
            clear bc hw hq8
            refine hK.out _ _ HX (fun _ => ?_)
            clear hK K
            try simp only [List.getElem_toArray, List.getElem_cons_succ, List.getElem_cons_zero, Act.put, List.setIfInBounds_toArray, List.set_cons_zero, List.set_cons_succ]
            refine wpAnyH_ready (rs := [16]) (by kernel_rfl) (by simp) (AllReadyH.cons (by simp only [List.getElem?_toArray, List.getElem?_cons_succ, List.getElem?_cons_zero]; rfl) (fun K hK => ?_) AllReadyH.nil)
            refine step_want (by rfl) ?_
            go_simp
            refine (HNd.out _ HX).mono ?_
            rintro e z2 ⟨rfl, bc⟩
            have HX : Below y0.heap.size y0 z2 := HX.trans (bc.mono HX.size)
            have gq := (bc.block _ (Array.getElem?_eq_some_iff.1 gq).1).trans gq
            clear bc
            refine hK.out _ _ HX (fun _ => ?_)
            clear hK K
            try simp only [List.getElem_toArray, List.getElem_cons_succ, List.getElem_cons_zero, Act.put, List.setIfInBounds_toArray, List.set_cons_zero, List.set_cons_succ]
            refine wpAnyH_ready (rs := [18]) (by kernel_rfl) (by simp) (AllReadyH.cons (by simp only [List.getElem?_toArray, List.getElem?_cons_succ, List.getElem?_cons_zero]; rfl) (fun K hK => ?_) AllReadyH.nil)
            refine step_want (by rfl) ?_
            refine wp_store_row 30 _ _ rfl q8 U rfl rfl _ _ gq (by rw [info_h32, hUs]) (by rw [hz32, hUs]) hU1 ?_
            have HX : Below y0.heap.size y0 (z2.setRow q8 U) := below_setRow HX hqy _
            have gq := heap_setRow_same (ds := U) gq
            generalize z2.setRow q8 U = z3 at *
            refine hK.out _ _ HX (fun _ => ?_)
            clear hK K
            try simp only [List.getElem_toArray, List.getElem_cons_succ, List.getElem_cons_zero, Act.put, List.setIfInBounds_toArray, List.set_cons_zero, List.set_cons_succ]
            refine wpAnyH_done (by kernel_rfl) ?_ _
            have HZ : Hid (Below y0.heap.size y0 z3 ∧ z3.heap[q8]? = some (.cells U 30 (0, 0)) ∧ y0.heap.size ≤ q8) := ⟨HX, gq, hqy⟩
            have hFz := HF8.out.1.next HX
            have hUz := HF8.out.2.trans HW0.out (Tu.of_below HX HF8.out.1.le)
            obtain ⟨cc0, cc1⟩ := hFz.cells
            have cs := HCz.out _ HX
            obtain ⟨w5, hw5⟩ : ∃ w5, World.alloc z3 (.cells #[.int .i64 (u : Int)] 3) = w5 := ⟨_, rfl⟩
            have b5 : Below (World.heap z3).size z3 w5 := by rw [← hw5]; exact (Below.refl _ _).alloc (Nat.le_refl _) _
            have g5 : w5.heap[(World.heap z3).size]? = some (.cells #[.int .i64 (u : Int)] 3 (0, 0)) := by rw [← hw5]; exact heap_alloc_last z3 _
            have c5 : w5.cell? ⟨(World.heap z3).size, 0, none⟩ = some (.int .i64 (u : Int)) := by rw [cell_of_row _ _ _ _ _ _ g5]; rfl
            have HF5 : Hid (Rf w5 B b (.slice (some ⟨gs, 0, none⟩) (q + 1 + 1) sc) (.slice (some ⟨hb, ho, none⟩) (q + 1 + 1) wc) (mgS s (2 * m' + 1)) (mgH Hs (2 * m' + 1) y) ∧ Tu w B (.slice ya Hs.length yc) w5 ∧ w5.heap[q8]? = some (.cells U 30 (0, 0))) := ⟨hFz.next b5, hUz.trans HW0.out (Tu.of_below b5 hFz.le), (b5.block _ (Array.getElem?_eq_some_iff.1 gq).1).trans gq⟩
            obtain ⟨SK, hSK⟩ : ∃ SK, (mgS s (2 * m' + 1)).take q = SK := ⟨_, rfl⟩
            have HSK : Hid (SK ++ [u] = mgS (2 * s) m' ∧ SK.length = q) := by
              have := HSKx.out
              rw [hSK, HUU.out] at this
              rw [← HUU.out] at this ⊢
              exact this
            have hrow : Hid (w5.ownsRow B 3 1 (.slice (some ⟨gs, 0, none⟩) q sc) SK.length (isv SK)) := by
              have h1 := HF5.out.1.sz
              rw [mgS_length, show pcN (2 * m' + 1) + 1 = q + 1 + 1 by rw [pc_odd, HQ'.out]] at h1
              have h2 := row_take h1 (show q ≤ q + 1 + 1 by omega)
              rw [isv_take, hSK] at h2
              show World.ownsRow _ _ _ _ _ _ _
              rw [HSK.out.2]
              exact h2
            have hne8 : (Value.slice (some ⟨hb, ho, none⟩) (q + 1 + 1) wc).ownBlock ≠ some q8 := fun e => by
              obtain ⟨-, cur, e2⟩ := row_at HF8.out.1.hs e
              have := (Array.getElem?_eq_some_iff.1 e2).1
              omega
            have HNE : Hid ((Value.slice (some ⟨hb, ho, none⟩) (q + 1 + 1) wc).ownBlock ≠ some q8) := hne8
            have hT5 : Hid (∀ (v' : Value) (w' : World), w'.ownsRow B 3 1 v' (SK ++ [u]).length (isv (SK ++ [u])) → w5.grownBy w' (Value.slice (some ⟨gs, 0, none⟩) q sc).ownBlock → Rf (w'.setCell ⟨b, 0, none⟩ v') B b v' (.slice (some ⟨hb, ho, none⟩) (q + 1 + 1) wc) (SK ++ [u]) (mgH Hs (2 * m' + 1) y) ∧ Tu w B (.slice ya Hs.length yc) (w'.setCell ⟨b, 0, none⟩ v') ∧ (w'.setCell ⟨b, 0, none⟩ v').heap[q8]? = some (.cells U 30 (0, 0)) ∧ (w'.cell? ⟨b, 0, none⟩ = some (.slice (some ⟨gs, 0, none⟩) (q + 1 + 1) sc) ∧ w'.frozen? ⟨b, 0, none⟩ = false)) := fun v' w' h1 h2 => by
              have h2' : w5.grownBy w' (Value.slice (some ⟨gs, 0, none⟩) (q + 1 + 1) sc).ownBlock := h2
              obtain ⟨h3, h4⟩ := HF5.out.1.turnS h2' h1
              have hr := rcells (HF5.out.1.grownS h2')
              refine ⟨h3, HF5.out.2.1.trans HW0.out (Tu.of_ch HF5.out.1 h4), (h4.block q8 (Array.getElem?_eq_some_iff.1 HF5.out.2.2).1 (fun e => ?_) (fun e => ?_) HNE.out).trans HF5.out.2.2, hr.1, hr.2.2.1⟩
              · have := HF5.out.2.2
                rw [show q8 = b from e, HF5.out.1.box] at this
                have e3 := (Obj.cells.inj (Option.some.inj this)).2.1
                exact absurd e3 (by decide)
              · obtain ⟨-, cur, e3⟩ := row_at HF5.out.1.sz e
                rw [HF5.out.2.2] at e3
                have e4 := (Obj.cells.inj (Option.some.inj e3)).2.1
                exact absurd e4 (by decide)
            have hSl : Hid (SK.length ≤ 1000) := by
              show _ ≤ _
              rw [HSK.out.2]
              exact hq63'
            clear HX gq hqy hFz hUz b5 g5 hne8 hSK
            go_upto_region 11 with (first | (simp only [KW.out.1, KW.out.2, HTW.out]) | (refine wpList_plain rfl fun _ hK => wp_append_i1 (M := SK) (.tmp 94) (.tmp 96) rfl rfl hrow.out (World.heap z3).size u rfl c5 hSl.out HF5.out.1.le (fun v' w6 h1 h2 => hK _ _ ?_); have HT6 : Hid _ := hT5.out v' w6 h1 h2; obtain ⟨d6, f6⟩ := HT6.out.2.2.2; obtain ⟨va2, vc2, rfl, -⟩ := row_slice h1; clear h1 h2 c5 cc0 cc1 hw5 cs) | fail)
            have HT7 : Hid (Rf (w6.setCell ⟨b, 0, none⟩ (.slice va2 (SK.length + 1) vc2)) B b (.slice va2 (SK.length + 1) vc2) (.slice (some ⟨hb, ho, none⟩) (q + 1 + 1) wc) (SK ++ [u]) (mgH Hs (2 * m' + 1) y) ∧ Tu w B (.slice ya Hs.length yc) (w6.setCell ⟨b, 0, none⟩ (.slice va2 (SK.length + 1) vc2)) ∧ (w6.setCell ⟨b, 0, none⟩ (.slice va2 (SK.length + 1) vc2)).heap[q8]? = some (.cells U 30 (0, 0))) := by
              have h9 := HT6.out
              simp only [List.length_append, List.length_singleton] at h9
              exact ⟨h9.1, h9.2.1, h9.2.2.1⟩
            clear HT6 hT5 HF5 d6 f6 hSl hrow
            generalize w6.setCell ⟨b, 0, none⟩ (.slice va2 (SK.length + 1) vc2) = w7 at *
            obtain ⟨TK, hTK⟩ : ∃ TK, Hs.take q = TK := ⟨_, rfl⟩
            have HTK : Hid ((mgH Hs (2 * m' + 1) y).take q = TK ∧ mgH Hs m' (nodeL xq y) = TK ++ [nodeL xq y] ∧ TK.length = q) := by
              have := HTKx.out
              rw [hTK] at this
              exact this
            have k11row : ∀ {W : World} {sv : Value}, Rf W B b sv (.slice (some ⟨hb, ho, none⟩) (q + 1 + 1) wc) (SK ++ [u]) (mgH Hs (2 * m' + 1) y) → W.ownsRow B 30 32 (.slice (some ⟨hb, ho, none⟩) q wc) TK.length (hsv TK) := fun h => by
              have h1 := h.hs
              rw [HML.out] at h1
              have h2 := row_take h1 (show q ≤ q + 1 + 1 by omega)
              rw [hsv_take h.h32 (by rw [HML.out]; omega), HTK.out.1] at h2
              rw [HTK.out.2.2]
              exact h2
            have k11h32 : ∀ z ∈ TK, z.length = 32 := fun z hz => HH32.out z (List.mem_of_mem_take (hTK ▸ hz))
            have k11len : TK.length ≤ 1000 := by rw [HTK.out.2.2]; exact hq63'
            have k11n32 : ∀ z ∈ TK ++ [nodeL xq y], z.length = 32 := fun z hz => (List.mem_append.1 hz).elim (k11h32 z) (fun e => by rw [List.mem_singleton.1 e]; exact shaL_length _)
            have hne8 := HNE.out
            clear hTK
            refine wp_region_held (S := (fun W => W.heap[q8]? = some (.cells U 30 (0, 0)))) (by kernel_rfl) ?_
            change wpAnyH _ _ _ _ _ _ _ _ (World.drew _)
            have HX : (fun W => W.heap[q8]? = some (.cells U 30 (0, 0))) w7.drew := HT7.out.2.2
            have hF := HT7.out.1.next (Below.refl _ _).drew
            have hU := HT7.out.2.1.trans HW0.out (Tu.of_below (Below.refl _ _).drew HT7.out.1.le)
            clear HT7
            generalize World.drew _ = u0 at *
            refine wpAnyH_take (i := 0) (v := .pointer (some ⟨b, 0, none⟩)) rfl (by kernel_rfl) (by kernel_rfl) (by kernel_rfl) (fun _ _ _ h => h) (Or.inl ⟨by rfl, by intro w9 _; go_simp⟩) HX ?_
            simp only [List.getElem_toArray, List.getElem_cons_succ, List.getElem_cons_zero, Act.put, List.setIfInBounds_toArray, List.set_cons_zero, List.set_cons_succ]
            refine wpAnyH_take (i := 1) (v := .pointer (some ⟨b, 0, none⟩)) rfl (by kernel_rfl) (by kernel_rfl) (by kernel_rfl) (fun _ _ _ h => h) (Or.inl ⟨by rfl, by intro w9 _; go_simp⟩) HX ?_
            simp only [List.getElem_toArray, List.getElem_cons_succ, List.getElem_cons_zero, Act.put, List.setIfInBounds_toArray, List.set_cons_zero, List.set_cons_succ]
            refine wpAnyH_take (i := 2) (v := .pointer (some ⟨b, 0, none⟩)) rfl (by kernel_rfl) (by kernel_rfl) (by kernel_rfl) (fun _ _ _ h => h) (Or.inl ⟨by rfl, by intro w9 _; go_simp⟩) HX ?_
            simp only [List.getElem_toArray, List.getElem_cons_succ, List.getElem_cons_zero, Act.put, List.setIfInBounds_toArray, List.set_cons_zero, List.set_cons_succ]
            refine wpAnyH_take (i := 3) (v := .pointer (some ⟨b, 1, none⟩)) rfl (by kernel_rfl) (by kernel_rfl) (by kernel_rfl) (fun _ _ _ h => h) (Or.inl ⟨by rfl, by intro w9 _; go_simp⟩) HX ?_
            simp only [List.getElem_toArray, List.getElem_cons_succ, List.getElem_cons_zero, Act.put, List.setIfInBounds_toArray, List.set_cons_zero, List.set_cons_succ]
            refine wpAnyH_take (i := 5) (v := .int .i64 ((q : Int) + 2)) rfl (by kernel_rfl) (by kernel_rfl) (by kernel_rfl) (fun _ _ _ h => h) (Or.inl ⟨by rfl, by intro w9 _; go_simp⟩) HX ?_
            simp only [List.getElem_toArray, List.getElem_cons_succ, List.getElem_cons_zero, Act.put, List.setIfInBounds_toArray, List.set_cons_zero, List.set_cons_succ]
            refine wpAnyH_take (i := 6) (v := .int .i64 (q : Int)) rfl (by kernel_rfl) (by kernel_rfl) (by kernel_rfl) (fun _ _ _ h => h) (Or.inl ⟨by rfl, by intro w9 _; go_simp; exact kw3.out⟩) HX ?_
            simp only [List.getElem_toArray, List.getElem_cons_succ, List.getElem_cons_zero, Act.put, List.setIfInBounds_toArray, List.set_cons_zero, List.set_cons_succ]
            refine wpAnyH_take (i := 8) (v := .agg U) rfl (by kernel_rfl) (by kernel_rfl) (by kernel_rfl) (fun _ _ _ h => h) (yieldsIf_load_mid (by rfl) 30 _ rfl q8 0 rfl U.toList _ (fun w' h => range_row h) Tryd.underlying30 rfl icU.out) HX ?_
            simp only [List.getElem_toArray, List.getElem_cons_succ, List.getElem_cons_zero, Act.put, List.setIfInBounds_toArray, List.set_cons_zero, List.set_cons_succ]
            refine wpAnyH_ready (rs := [4, 9]) (by kernel_rfl) (by simp) (AllReadyH.cons (by simp only [List.getElem?_toArray, List.getElem?_cons_succ, List.getElem?_cons_zero]; rfl) (fun K hK => ?_) (AllReadyH.cons (by simp only [List.getElem?_toArray, List.getElem?_cons_succ, List.getElem?_cons_zero]; rfl) (fun K hK => ?_) AllReadyH.nil))
            · refine step_want (by rfl) ?_
              have c9 := hF.cells.2
              go_simp
              clear c9
              refine hK.out _ _ HX (fun _ => ?_)
              clear hK K
              try simp only [List.getElem_toArray, List.getElem_cons_succ, List.getElem_cons_zero, Act.put, List.setIfInBounds_toArray, List.set_cons_zero, List.set_cons_succ]
              refine wpAnyH_take (i := 7) (v := .slice (some ⟨hb, ho, none⟩) q wc) rfl (by kernel_rfl) (by kernel_rfl) (by kernel_rfl) (fun _ _ _ h => h) (Or.inl ⟨by rfl, by intro w9 _; go_simp⟩) HX ?_
              simp only [List.getElem_toArray, List.getElem_cons_succ, List.getElem_cons_zero, Act.put, List.setIfInBounds_toArray, List.set_cons_zero, List.set_cons_succ]
              refine wpAnyH_ready (rs := [9]) (by kernel_rfl) (by simp) (AllReadyH.cons (by simp only [List.getElem?_toArray, List.getElem?_cons_succ, List.getElem?_cons_zero]; rfl) (fun K hK => ?_) AllReadyH.nil)
              refine step_want (by rfl) ?_
              go_simp
              have hN := HMkU.out u0
              obtain ⟨x1, hw⟩ : ∃ x1, u0.alloc (.cells U 30) = x1 := ⟨_, rfl⟩
              have bc : Below u0.heap.size u0 x1 := by rw [← hw]; exact (Below.refl _ _).alloc (Nat.le_refl _) _
              obtain ⟨e1, he0⟩ : ∃ e1, u0.heap.size = e1 := ⟨_, rfl⟩
              rw [hw, he0] at hN
              rw [hw, he0]
              have HX := (bc.block _ (Array.getElem?_eq_some_iff.1 HX).1).trans HX
              have hU := hU.trans HW0.out (Tu.of_below bc hF.le)
              have hF := hF.next bc
              clear bc hw he0
              refine hK.out _ _ HX (fun _ => ?_)
              clear hK K
              try simp only [List.getElem_toArray, List.getElem_cons_succ, List.getElem_cons_zero, Act.put, List.setIfInBounds_toArray, List.set_cons_zero, List.set_cons_succ]
              refine wpAnyH_ready (rs := [10]) (by kernel_rfl) (by simp) (AllReadyH.cons (by simp only [List.getElem?_toArray, List.getElem?_cons_succ, List.getElem?_cons_zero]; rfl) (fun K hK => ?_) AllReadyH.nil)
              refine step_want (by rfl) ?_
              have hsz : w.heap.size ≤ x1.heap.size := hU.below.size
              refine wp_append_h1 (M := TK) (.tmp 107) (.tmp 109) rfl rfl (k11row hF) (k11h32) e1 (nodeL xq y) rfl hN k11len hF.le ?_
              intro v' x2 r1 r2 r3
              obtain ⟨za, zc, rfl, -⟩ := row_slice r1
              have r2 : World.grownBy x1 x2 (Value.slice (some ⟨hb, ho, none⟩) (q + 1 + 1) wc).ownBlock := r2
              have hbx := hF.grownH r2
              have hC := rcells hbx
              have HXo := HX
              have HX := (r2.block _ (Array.getElem?_eq_some_iff.1 HX).1 (fun e => hne8 e.symm)).trans HX
              clear hN
              refine hK.out _ _ HX (fun _ => ?_)
              clear hK K
              try simp only [List.getElem_toArray, List.getElem_cons_succ, List.getElem_cons_zero, Act.put, List.setIfInBounds_toArray, List.set_cons_zero, List.set_cons_succ]
              refine wpAnyH_take (i := 11) (v := .pointer (some ⟨b, 0, none⟩)) rfl (by kernel_rfl) (by kernel_rfl) (by kernel_rfl) (fun _ _ _ h => h) (Or.inl ⟨by rfl, by intro w9 _; go_simp⟩) HX ?_
              simp only [List.getElem_toArray, List.getElem_cons_succ, List.getElem_cons_zero, Act.put, List.setIfInBounds_toArray, List.set_cons_zero, List.set_cons_succ]
              refine wpAnyH_take (i := 12) (v := .pointer (some ⟨b, 1, none⟩)) rfl (by kernel_rfl) (by kernel_rfl) (by kernel_rfl) (fun _ _ _ h => h) (Or.inl ⟨by rfl, by intro w9 _; go_simp⟩) HX ?_
              simp only [List.getElem_toArray, List.getElem_cons_succ, List.getElem_cons_zero, Act.put, List.setIfInBounds_toArray, List.set_cons_zero, List.set_cons_succ]
              refine wpAnyH_ready (rs := [13]) (by kernel_rfl) (by simp) (AllReadyH.cons (by simp only [List.getElem?_toArray, List.getElem?_cons_succ, List.getElem?_cons_zero]; rfl) (fun K hK => ?_) AllReadyH.nil)
              refine step_want (by rfl) ?_
              obtain ⟨d0, d1, f0, f1⟩ := hC
              obtain ⟨hF9, hC9⟩ := hF.turnH r2 r1 (k11n32)
              have hU9 := hU.trans HW0.out (Tu.of_ch hF hC9)
              have HX : (fun W => W.heap[q8]? = some (.cells U 30 (0, 0))) (x2.setCell ⟨b, 1, none⟩ (.slice za (TK ++ [(nodeL xq y)]).length zc)) := box_stays HXo r2 hne8 hbx
              clear hF hU hC9 r1 r2 hbx HXo
              go_simp
              clear d0 d1 f0 f1
              simp only [List.length_append, List.length_singleton] at hF9 hU9 HX r3 ⊢
              generalize World.setCell _ _ (.slice za (TK.length + 1) zc) = x3 at *
              refine hK.out _ _ HX (fun _ => ?_)
              clear hK K
              try simp only [List.getElem_toArray, List.getElem_cons_succ, List.getElem_cons_zero, Act.put, List.setIfInBounds_toArray, List.set_cons_zero, List.set_cons_succ]
              refine wpAnyH_done (by kernel_rfl) ?_ _
              have hWh' : Wh w (.slice ya Hs.length yc) (.slice za (TK.length + 1) zc) := HW0.out.trans hsz r3
              have HE : Hid (Rf x3 B b (.slice va2 (SK.length + 1) vc2) (.slice za (TK.length + 1) zc) (mgS (2 * s) m') (mgH Hs m' (nodeL xq y)) ∧ Wh w (.slice ya Hs.length yc) (.slice za (TK.length + 1) zc) ∧ Tu w B (.slice ya Hs.length yc) x3) := by
                rw [HTK.out.2.1, ← HSK.out.1]
                exact ⟨hF9, hWh', hU9⟩
              have ccz := hF9.cells.1
              clear hF9 hWh' hU9 r3 HX hsz
              go_wp2
              go_roundw
              case rel => exact ⟨2 * s, m', nodeL xq y, _, _, HMs.out, by first | (rw [HQ'.out, ← HSK.out.2]; rfl) | (simp only [HQ'.out, HSK.out.2]; done) | (simp only [HQ'.out, HSK.out.2]; rfl), HE.out.1, HE.out.2.1, HE.out.2.2⟩
              case measure => simp [intOf]; have := HSK.out.2; omega
            · refine step_want (by rfl) ?_
              go_simp
              have hN := HMkU.out u0
              obtain ⟨x1, hw⟩ : ∃ x1, u0.alloc (.cells U 30) = x1 := ⟨_, rfl⟩
              have bc : Below u0.heap.size u0 x1 := by rw [← hw]; exact (Below.refl _ _).alloc (Nat.le_refl _) _
              obtain ⟨e1, he0⟩ : ∃ e1, u0.heap.size = e1 := ⟨_, rfl⟩
              rw [hw, he0] at hN
              rw [hw, he0]
              have HX := (bc.block _ (Array.getElem?_eq_some_iff.1 HX).1).trans HX
              have hU := hU.trans HW0.out (Tu.of_below bc hF.le)
              have hF := hF.next bc
              clear bc hw he0
              refine hK.out _ _ HX (fun _ => ?_)
              clear hK K
              try simp only [List.getElem_toArray, List.getElem_cons_succ, List.getElem_cons_zero, Act.put, List.setIfInBounds_toArray, List.set_cons_zero, List.set_cons_succ]
              refine wpAnyH_ready (rs := [4]) (by kernel_rfl) (by simp) (AllReadyH.cons (by simp only [List.getElem?_toArray, List.getElem?_cons_succ, List.getElem?_cons_zero]; rfl) (fun K hK => ?_) AllReadyH.nil)
              refine step_want (by rfl) ?_
              have c9 := hF.cells.2
              go_simp
              clear c9
              refine hK.out _ _ HX (fun _ => ?_)
              clear hK K
              try simp only [List.getElem_toArray, List.getElem_cons_succ, List.getElem_cons_zero, Act.put, List.setIfInBounds_toArray, List.set_cons_zero, List.set_cons_succ]
              refine wpAnyH_take (i := 7) (v := .slice (some ⟨hb, ho, none⟩) q wc) rfl (by kernel_rfl) (by kernel_rfl) (by kernel_rfl) (fun _ _ _ h => h) (Or.inl ⟨by rfl, by intro w9 _; go_simp⟩) HX ?_
              simp only [List.getElem_toArray, List.getElem_cons_succ, List.getElem_cons_zero, Act.put, List.setIfInBounds_toArray, List.set_cons_zero, List.set_cons_succ]
              refine wpAnyH_ready (rs := [10]) (by kernel_rfl) (by simp) (AllReadyH.cons (by simp only [List.getElem?_toArray, List.getElem?_cons_succ, List.getElem?_cons_zero]; rfl) (fun K hK => ?_) AllReadyH.nil)
              refine step_want (by rfl) ?_
              have hsz : w.heap.size ≤ x1.heap.size := hU.below.size
              refine wp_append_h1 (M := TK) (.tmp 107) (.tmp 109) rfl rfl (k11row hF) (k11h32) e1 (nodeL xq y) rfl hN k11len hF.le ?_
              intro v' x2 r1 r2 r3
              obtain ⟨za, zc, rfl, -⟩ := row_slice r1
              have r2 : World.grownBy x1 x2 (Value.slice (some ⟨hb, ho, none⟩) (q + 1 + 1) wc).ownBlock := r2
              have hbx := hF.grownH r2
              have hC := rcells hbx
              have HXo := HX
              have HX := (r2.block _ (Array.getElem?_eq_some_iff.1 HX).1 (fun e => hne8 e.symm)).trans HX
              clear hN
              refine hK.out _ _ HX (fun _ => ?_)
              clear hK K
              try simp only [List.getElem_toArray, List.getElem_cons_succ, List.getElem_cons_zero, Act.put, List.setIfInBounds_toArray, List.set_cons_zero, List.set_cons_succ]
              refine wpAnyH_take (i := 11) (v := .pointer (some ⟨b, 0, none⟩)) rfl (by kernel_rfl) (by kernel_rfl) (by kernel_rfl) (fun _ _ _ h => h) (Or.inl ⟨by rfl, by intro w9 _; go_simp⟩) HX ?_
              simp only [List.getElem_toArray, List.getElem_cons_succ, List.getElem_cons_zero, Act.put, List.setIfInBounds_toArray, List.set_cons_zero, List.set_cons_succ]
              refine wpAnyH_take (i := 12) (v := .pointer (some ⟨b, 1, none⟩)) rfl (by kernel_rfl) (by kernel_rfl) (by kernel_rfl) (fun _ _ _ h => h) (Or.inl ⟨by rfl, by intro w9 _; go_simp⟩) HX ?_
              simp only [List.getElem_toArray, List.getElem_cons_succ, List.getElem_cons_zero, Act.put, List.setIfInBounds_toArray, List.set_cons_zero, List.set_cons_succ]
              refine wpAnyH_ready (rs := [13]) (by kernel_rfl) (by simp) (AllReadyH.cons (by simp only [List.getElem?_toArray, List.getElem?_cons_succ, List.getElem?_cons_zero]; rfl) (fun K hK => ?_) AllReadyH.nil)
              refine step_want (by rfl) ?_
              obtain ⟨d0, d1, f0, f1⟩ := hC
              obtain ⟨hF9, hC9⟩ := hF.turnH r2 r1 (k11n32)
              have hU9 := hU.trans HW0.out (Tu.of_ch hF hC9)
              have HX : (fun W => W.heap[q8]? = some (.cells U 30 (0, 0))) (x2.setCell ⟨b, 1, none⟩ (.slice za (TK ++ [(nodeL xq y)]).length zc)) := box_stays HXo r2 hne8 hbx
              clear hF hU hC9 r1 r2 hbx HXo
              go_simp
              clear d0 d1 f0 f1
              simp only [List.length_append, List.length_singleton] at hF9 hU9 HX r3 ⊢
              generalize World.setCell _ _ (.slice za (TK.length + 1) zc) = x3 at *
              refine hK.out _ _ HX (fun _ => ?_)
              clear hK K
              try simp only [List.getElem_toArray, List.getElem_cons_succ, List.getElem_cons_zero, Act.put, List.setIfInBounds_toArray, List.set_cons_zero, List.set_cons_succ]
              refine wpAnyH_done (by kernel_rfl) ?_ _
              have hWh' : Wh w (.slice ya Hs.length yc) (.slice za (TK.length + 1) zc) := HW0.out.trans hsz r3
              have HE : Hid (Rf x3 B b (.slice va2 (SK.length + 1) vc2) (.slice za (TK.length + 1) zc) (mgS (2 * s) m') (mgH Hs m' (nodeL xq y)) ∧ Wh w (.slice ya Hs.length yc) (.slice za (TK.length + 1) zc) ∧ Tu w B (.slice ya Hs.length yc) x3) := by
                rw [HTK.out.2.1, ← HSK.out.1]
                exact ⟨hF9, hWh', hU9⟩
              have ccz := hF9.cells.1
              clear hF9 hWh' hU9 r3 HX hsz
              go_wp2
              go_roundw
              case rel => exact ⟨2 * s, m', nodeL xq y, _, _, HMs.out, by first | (rw [HQ'.out, ← HSK.out.2]; rfl) | (simp only [HQ'.out, HSK.out.2]; done) | (simp only [HQ'.out, HSK.out.2]; rfl), HE.out.1, HE.out.2.1, HE.out.2.2⟩
              case measure => simp [intOf]; have := HSK.out.2; omega
        · have htb : ((s : Int) == (tq : Int)) = false := by rw [beq_eq_false_iff_ne]; omega
          clear hq htne
          go_upto_region 6 with fail
          refine wp_region_held (S := Below wr.heap.size wr) (by kernel_rfl) ?_
          change wpAnyH _ _ _ _ _ _ _ _ (World.drew _)
          have HX : Below wr.heap.size wr wr.drew := HX0.out.drew
          clear HX0
          generalize World.drew _ = y0 at *
          refine wpAnyH_take (i := 0) (v := .int .i64 ((q : Int) + 2)) rfl (by kernel_rfl) (by kernel_rfl) (by kernel_rfl) (fun _ _ _ h => h) (Or.inl ⟨by rfl, by intro w9 _; go_simp⟩) HX ?_
          simp only [List.getElem_toArray, List.getElem_cons_succ, List.getElem_cons_zero, Act.put, List.setIfInBounds_toArray, List.set_cons_zero, List.set_cons_succ]
          refine wpAnyH_take (i := 1) (v := .bool true) rfl (by kernel_rfl) (by kernel_rfl) (by kernel_rfl) (fun _ _ _ h => h) (Or.inl ⟨by rfl, by intro w9 _; go_simp⟩) HX ?_
          simp only [List.getElem_toArray, List.getElem_cons_succ, List.getElem_cons_zero, Act.put, List.setIfInBounds_toArray, List.set_cons_zero, List.set_cons_succ]
          refine wpAnyH_take (i := 2) (v := .bool true) rfl (by kernel_rfl) (by kernel_rfl) (by kernel_rfl) (fun _ _ _ h => h) (Or.inl ⟨by rfl, by intro w9 _; go_simp⟩) HX ?_
          simp only [List.getElem_toArray, List.getElem_cons_succ, List.getElem_cons_zero, Act.put, List.setIfInBounds_toArray, List.set_cons_zero, List.set_cons_succ]
          refine wpAnyH_take (i := 3) (v := .pointer (some ⟨b, 0, none⟩)) rfl (by kernel_rfl) (by kernel_rfl) (by kernel_rfl) (fun _ _ _ h => h) (Or.inl ⟨by rfl, by intro w9 _; go_simp⟩) HX ?_
          simp only [List.getElem_toArray, List.getElem_cons_succ, List.getElem_cons_zero, Act.put, List.setIfInBounds_toArray, List.set_cons_zero, List.set_cons_succ]
          refine wpAnyH_take (i := 4) (v := .pointer (some ⟨b, 0, none⟩)) rfl (by kernel_rfl) (by kernel_rfl) (by kernel_rfl) (fun _ _ _ h => h) (Or.inl ⟨by rfl, by intro w9 _; go_simp⟩) HX ?_
          simp only [List.getElem_toArray, List.getElem_cons_succ, List.getElem_cons_zero, Act.put, List.setIfInBounds_toArray, List.set_cons_zero, List.set_cons_succ]
          refine wpAnyH_take (i := 5) (v := .pointer (some ⟨b, 0, none⟩)) rfl (by kernel_rfl) (by kernel_rfl) (by kernel_rfl) (fun _ _ _ h => h) (Or.inl ⟨by rfl, by intro w9 _; go_simp⟩) HX ?_
          simp only [List.getElem_toArray, List.getElem_cons_succ, List.getElem_cons_zero, Act.put, List.setIfInBounds_toArray, List.set_cons_zero, List.set_cons_succ]
          refine wpAnyH_take (i := 6) (v := .slice (some ⟨gs, 0, none⟩) (q + 1 + 1) sc) rfl (by kernel_rfl) (by kernel_rfl) (by kernel_rfl) (fun _ _ _ h => h) (Or.inl ⟨by rfl, by intro w9 h9; obtain ⟨c7, c8, c9⟩ := HCs.out w9 h9; go_simp⟩) HX ?_
          simp only [List.getElem_toArray, List.getElem_cons_succ, List.getElem_cons_zero, Act.put, List.setIfInBounds_toArray, List.set_cons_zero, List.set_cons_succ]
          refine wpAnyH_take (i := 7) (v := .int .i64 ((q : Int) + 2)) rfl (by kernel_rfl) (by kernel_rfl) (by kernel_rfl) (fun _ _ _ h => h) (Or.inl ⟨by rfl, by intro w9 _; go_simp⟩) HX ?_
          simp only [List.getElem_toArray, List.getElem_cons_succ, List.getElem_cons_zero, Act.put, List.setIfInBounds_toArray, List.set_cons_zero, List.set_cons_succ]
          refine wpAnyH_take (i := 8) (v := .int .i64 ((q : Int) + 1)) rfl (by kernel_rfl) (by kernel_rfl) (by kernel_rfl) (fun _ _ _ h => h) (Or.inl ⟨by rfl, by intro w9 _; have k9 := kw1.out.1; go_simp⟩) HX ?_
          simp only [List.getElem_toArray, List.getElem_cons_succ, List.getElem_cons_zero, Act.put, List.setIfInBounds_toArray, List.set_cons_zero, List.set_cons_succ]
          refine wpAnyH_take (i := 9) (v := .pointer (some ⟨gs, q + 1, none⟩)) rfl (by kernel_rfl) (by kernel_rfl) (by kernel_rfl) (fun _ _ _ h => h) (Or.inl ⟨by rfl, by intro w9 _; go_simp⟩) HX ?_
          simp only [List.getElem_toArray, List.getElem_cons_succ, List.getElem_cons_zero, Act.put, List.setIfInBounds_toArray, List.set_cons_zero, List.set_cons_succ]
          refine wpAnyH_take (i := 10) (v := .int .i64 (s : Int)) rfl (by kernel_rfl) (by kernel_rfl) (by kernel_rfl) (fun _ _ _ h => h) (Or.inl ⟨by rfl, by intro w9 h9; obtain ⟨c7, c8, c9⟩ := HCs.out w9 h9; go_simp⟩) HX ?_
          simp only [List.getElem_toArray, List.getElem_cons_succ, List.getElem_cons_zero, Act.put, List.setIfInBounds_toArray, List.set_cons_zero, List.set_cons_succ]
          refine wpAnyH_take (i := 11) (v := .pointer (some ⟨b, 0, none⟩)) rfl (by kernel_rfl) (by kernel_rfl) (by kernel_rfl) (fun _ _ _ h => h) (Or.inl ⟨by rfl, by intro w9 _; go_simp⟩) HX ?_
          simp only [List.getElem_toArray, List.getElem_cons_succ, List.getElem_cons_zero, Act.put, List.setIfInBounds_toArray, List.set_cons_zero, List.set_cons_succ]
          refine wpAnyH_take (i := 12) (v := .pointer (some ⟨b, 0, none⟩)) rfl (by kernel_rfl) (by kernel_rfl) (by kernel_rfl) (fun _ _ _ h => h) (Or.inl ⟨by rfl, by intro w9 _; go_simp⟩) HX ?_
          simp only [List.getElem_toArray, List.getElem_cons_succ, List.getElem_cons_zero, Act.put, List.setIfInBounds_toArray, List.set_cons_zero, List.set_cons_succ]
          refine wpAnyH_take (i := 13) (v := .pointer (some ⟨b, 0, none⟩)) rfl (by kernel_rfl) (by kernel_rfl) (by kernel_rfl) (fun _ _ _ h => h) (Or.inl ⟨by rfl, by intro w9 _; go_simp⟩) HX ?_
          simp only [List.getElem_toArray, List.getElem_cons_succ, List.getElem_cons_zero, Act.put, List.setIfInBounds_toArray, List.set_cons_zero, List.set_cons_succ]
          refine wpAnyH_take (i := 14) (v := .slice (some ⟨gs, 0, none⟩) (q + 1 + 1) sc) rfl (by kernel_rfl) (by kernel_rfl) (by kernel_rfl) (fun _ _ _ h => h) (Or.inl ⟨by rfl, by intro w9 h9; obtain ⟨c7, c8, c9⟩ := HCs.out w9 h9; go_simp⟩) HX ?_
          simp only [List.getElem_toArray, List.getElem_cons_succ, List.getElem_cons_zero, Act.put, List.setIfInBounds_toArray, List.set_cons_zero, List.set_cons_succ]
          refine wpAnyH_take (i := 15) (v := .int .i64 ((q : Int) + 2)) rfl (by kernel_rfl) (by kernel_rfl) (by kernel_rfl) (fun _ _ _ h => h) (Or.inl ⟨by rfl, by intro w9 _; go_simp⟩) HX ?_
          simp only [List.getElem_toArray, List.getElem_cons_succ, List.getElem_cons_zero, Act.put, List.setIfInBounds_toArray, List.set_cons_zero, List.set_cons_succ]
          refine wpAnyH_take (i := 16) (v := .int .i64 (q : Int)) rfl (by kernel_rfl) (by kernel_rfl) (by kernel_rfl) (fun _ _ _ h => h) (Or.inl ⟨by rfl, by intro w9 _; go_simp; exact kw3.out⟩) HX ?_
          simp only [List.getElem_toArray, List.getElem_cons_succ, List.getElem_cons_zero, Act.put, List.setIfInBounds_toArray, List.set_cons_zero, List.set_cons_succ]
          refine wpAnyH_take (i := 17) (v := .pointer (some ⟨gs, q, none⟩)) rfl (by kernel_rfl) (by kernel_rfl) (by kernel_rfl) (fun _ _ _ h => h) (Or.inl ⟨by rfl, by intro w9 _; go_simp⟩) HX ?_
          simp only [List.getElem_toArray, List.getElem_cons_succ, List.getElem_cons_zero, Act.put, List.setIfInBounds_toArray, List.set_cons_zero, List.set_cons_succ]
          refine wpAnyH_take (i := 18) (v := .int .i64 (tq : Int)) rfl (by kernel_rfl) (by kernel_rfl) (by kernel_rfl) (fun _ _ _ h => h) (Or.inl ⟨by rfl, by intro w9 h9; obtain ⟨c7, c8, c9⟩ := HCs.out w9 h9; go_simp⟩) HX ?_
          simp only [List.getElem_toArray, List.getElem_cons_succ, List.getElem_cons_zero, Act.put, List.setIfInBounds_toArray, List.set_cons_zero, List.set_cons_succ]
          refine wpAnyH_take (i := 19) (v := .bool false) rfl (by kernel_rfl) (by kernel_rfl) (by kernel_rfl) (fun _ _ _ h => h) (Or.inl ⟨by rfl, by intro w9 _; go_simp⟩) HX ?_
          simp only [List.getElem_toArray, List.getElem_cons_succ, List.getElem_cons_zero, Act.put, List.setIfInBounds_toArray, List.set_cons_zero, List.set_cons_succ]
          refine wpAnyH_take (i := 20) (v := .bool false) rfl (by kernel_rfl) (by kernel_rfl) (by kernel_rfl) (fun _ _ _ h => h) (Or.inl ⟨by rfl, by intro w9 _; go_simp⟩) HX ?_
          simp only [List.getElem_toArray, List.getElem_cons_succ, List.getElem_cons_zero, Act.put, List.setIfInBounds_toArray, List.set_cons_zero, List.set_cons_succ]
          refine wpAnyH_done (by kernel_rfl) ?_ _
          have HY : Hid (Below wr.heap.size wr y0) := HX
          clear HX
          have HE : Hid ((∃ sv' hw', Rf y0 B b sv' hw' (szN (n + 1)) (puL nodeL (tlN n) Hs x) ∧ Wh w (.slice ya Hs.length yc) hw') ∧ Tu w B (.slice ya Hs.length yc) y0) := by
            obtain ⟨e1, e2⟩ := HG.out.stop
            have h9 := H0.out _ HY.out
            rw [← e1, ← e2]
            exact ⟨⟨_, _, h9.1, HW0.out⟩, h9.2⟩
          go_wp2
          go_ret
          exact ⟨rfl, HE.out.1, HE.out.2⟩
      · have hm0 : m = 0 := by
          rcases Nat.eq_zero_or_pos m with h8 | h8
          · exact h8
          · have := pc_pos (n := m) (by omega)
            omega
        subst hm0
        rw [pc_zero] at hF hsc ⊢
        have H0 : Hid (∀ W, Below wr.heap.size wr W → Rf W B b (.slice sa (0 + 1) sc) hwv (mgS s 0) (mgH Hs 0 y) ∧ Tu w B (.slice ya Hs.length yc) W) := fun W hW => ⟨hF.next hW, hU.trans hWh (Tu.of_below hW hF.le)⟩
        have HW0 : Hid (Wh w (.slice ya Hs.length yc) hwv) := hWh
        have HG : Hid (Mg n Hs x s (2 * 0) y) := g
        have HX0 : Hid (Below wr.heap.size wr wr) := Below.refl _ _
        clear hF hF' hU hWh g hsc hq0
        go_upto_region 6 with fail
        refine wp_region_held (S := Below wr.heap.size wr) (by kernel_rfl) ?_
        change wpAnyH _ _ _ _ _ _ _ _ (World.drew _)
        have HX : Below wr.heap.size wr wr.drew := HX0.out.drew
        clear HX0
        generalize World.drew _ = y0 at *
        refine wpAnyH_take (i := 0) (v := .int .i64 ((0 + 1 : Nat) : Int)) rfl (by kernel_rfl) (by kernel_rfl) (by kernel_rfl) (fun _ _ _ h => h) (Or.inl ⟨by rfl, by intro w9 _; go_simp⟩) HX ?_
        simp only [List.getElem_toArray, List.getElem_cons_succ, List.getElem_cons_zero, Act.put, List.setIfInBounds_toArray, List.set_cons_zero, List.set_cons_succ]
        refine wpAnyH_take (i := 1) (v := .bool false) rfl (by kernel_rfl) (by kernel_rfl) (by kernel_rfl) (fun _ _ _ h => h) (Or.inl ⟨by rfl, by intro w9 _; go_simp⟩) HX ?_
        simp only [List.getElem_toArray, List.getElem_cons_succ, List.getElem_cons_zero, Act.put, List.setIfInBounds_toArray, List.set_cons_zero, List.set_cons_succ]
        refine wpAnyH_take (i := 2) (v := .bool false) rfl (by kernel_rfl) (by kernel_rfl) (by kernel_rfl) (fun _ _ _ h => h) (Or.inl ⟨by rfl, by intro w9 _; go_simp⟩) HX ?_
        simp only [List.getElem_toArray, List.getElem_cons_succ, List.getElem_cons_zero, Act.put, List.setIfInBounds_toArray, List.set_cons_zero, List.set_cons_succ]
        refine wpAnyH_take (i := 3) (v := undef) rfl (by kernel_rfl) (by kernel_rfl) (by kernel_rfl) (fun _ _ _ h => h) (Or.inr ⟨by rfl, rfl⟩) HX ?_
        simp only [List.getElem_toArray, List.getElem_cons_succ, List.getElem_cons_zero, Act.put, List.setIfInBounds_toArray, List.set_cons_zero, List.set_cons_succ]
        refine wpAnyH_take (i := 4) (v := undef) rfl (by kernel_rfl) (by kernel_rfl) (by kernel_rfl) (fun _ _ _ h => h) (Or.inr ⟨by rfl, rfl⟩) HX ?_
        simp only [List.getElem_toArray, List.getElem_cons_succ, List.getElem_cons_zero, Act.put, List.setIfInBounds_toArray, List.set_cons_zero, List.set_cons_succ]
        refine wpAnyH_take (i := 5) (v := undef) rfl (by kernel_rfl) (by kernel_rfl) (by kernel_rfl) (fun _ _ _ h => h) (Or.inr ⟨by rfl, rfl⟩) HX ?_
        simp only [List.getElem_toArray, List.getElem_cons_succ, List.getElem_cons_zero, Act.put, List.setIfInBounds_toArray, List.set_cons_zero, List.set_cons_succ]
        refine wpAnyH_take (i := 6) (v := undef) rfl (by kernel_rfl) (by kernel_rfl) (by kernel_rfl) (fun _ _ _ h => h) (Or.inr ⟨by rfl, rfl⟩) HX ?_
        simp only [List.getElem_toArray, List.getElem_cons_succ, List.getElem_cons_zero, Act.put, List.setIfInBounds_toArray, List.set_cons_zero, List.set_cons_succ]
        refine wpAnyH_take (i := 7) (v := undef) rfl (by kernel_rfl) (by kernel_rfl) (by kernel_rfl) (fun _ _ _ h => h) (Or.inr ⟨by rfl, rfl⟩) HX ?_
        simp only [List.getElem_toArray, List.getElem_cons_succ, List.getElem_cons_zero, Act.put, List.setIfInBounds_toArray, List.set_cons_zero, List.set_cons_succ]
        refine wpAnyH_take (i := 8) (v := undef) rfl (by kernel_rfl) (by kernel_rfl) (by kernel_rfl) (fun _ _ _ h => h) (Or.inr ⟨by rfl, rfl⟩) HX ?_
        simp only [List.getElem_toArray, List.getElem_cons_succ, List.getElem_cons_zero, Act.put, List.setIfInBounds_toArray, List.set_cons_zero, List.set_cons_succ]
        refine wpAnyH_take (i := 9) (v := undef) rfl (by kernel_rfl) (by kernel_rfl) (by kernel_rfl) (fun _ _ _ h => h) (Or.inr ⟨by rfl, rfl⟩) HX ?_
        simp only [List.getElem_toArray, List.getElem_cons_succ, List.getElem_cons_zero, Act.put, List.setIfInBounds_toArray, List.set_cons_zero, List.set_cons_succ]
        refine wpAnyH_take (i := 10) (v := undef) rfl (by kernel_rfl) (by kernel_rfl) (by kernel_rfl) (fun _ _ _ h => h) (Or.inr ⟨by rfl, rfl⟩) HX ?_
        simp only [List.getElem_toArray, List.getElem_cons_succ, List.getElem_cons_zero, Act.put, List.setIfInBounds_toArray, List.set_cons_zero, List.set_cons_succ]
        refine wpAnyH_take (i := 11) (v := undef) rfl (by kernel_rfl) (by kernel_rfl) (by kernel_rfl) (fun _ _ _ h => h) (Or.inr ⟨by rfl, rfl⟩) HX ?_
        simp only [List.getElem_toArray, List.getElem_cons_succ, List.getElem_cons_zero, Act.put, List.setIfInBounds_toArray, List.set_cons_zero, List.set_cons_succ]
        refine wpAnyH_take (i := 12) (v := undef) rfl (by kernel_rfl) (by kernel_rfl) (by kernel_rfl) (fun _ _ _ h => h) (Or.inr ⟨by rfl, rfl⟩) HX ?_
        simp only [List.getElem_toArray, List.getElem_cons_succ, List.getElem_cons_zero, Act.put, List.setIfInBounds_toArray, List.set_cons_zero, List.set_cons_succ]
        refine wpAnyH_take (i := 13) (v := undef) rfl (by kernel_rfl) (by kernel_rfl) (by kernel_rfl) (fun _ _ _ h => h) (Or.inr ⟨by rfl, rfl⟩) HX ?_
        simp only [List.getElem_toArray, List.getElem_cons_succ, List.getElem_cons_zero, Act.put, List.setIfInBounds_toArray, List.set_cons_zero, List.set_cons_succ]
        refine wpAnyH_take (i := 14) (v := undef) rfl (by kernel_rfl) (by kernel_rfl) (by kernel_rfl) (fun _ _ _ h => h) (Or.inr ⟨by rfl, rfl⟩) HX ?_
        simp only [List.getElem_toArray, List.getElem_cons_succ, List.getElem_cons_zero, Act.put, List.setIfInBounds_toArray, List.set_cons_zero, List.set_cons_succ]
        refine wpAnyH_take (i := 15) (v := undef) rfl (by kernel_rfl) (by kernel_rfl) (by kernel_rfl) (fun _ _ _ h => h) (Or.inr ⟨by rfl, rfl⟩) HX ?_
        simp only [List.getElem_toArray, List.getElem_cons_succ, List.getElem_cons_zero, Act.put, List.setIfInBounds_toArray, List.set_cons_zero, List.set_cons_succ]
        refine wpAnyH_take (i := 16) (v := undef) rfl (by kernel_rfl) (by kernel_rfl) (by kernel_rfl) (fun _ _ _ h => h) (Or.inr ⟨by rfl, rfl⟩) HX ?_
        simp only [List.getElem_toArray, List.getElem_cons_succ, List.getElem_cons_zero, Act.put, List.setIfInBounds_toArray, List.set_cons_zero, List.set_cons_succ]
        refine wpAnyH_take (i := 17) (v := undef) rfl (by kernel_rfl) (by kernel_rfl) (by kernel_rfl) (fun _ _ _ h => h) (Or.inr ⟨by rfl, rfl⟩) HX ?_
        simp only [List.getElem_toArray, List.getElem_cons_succ, List.getElem_cons_zero, Act.put, List.setIfInBounds_toArray, List.set_cons_zero, List.set_cons_succ]
        refine wpAnyH_take (i := 18) (v := undef) rfl (by kernel_rfl) (by kernel_rfl) (by kernel_rfl) (fun _ _ _ h => h) (Or.inr ⟨by rfl, rfl⟩) HX ?_
        simp only [List.getElem_toArray, List.getElem_cons_succ, List.getElem_cons_zero, Act.put, List.setIfInBounds_toArray, List.set_cons_zero, List.set_cons_succ]
        refine wpAnyH_take (i := 19) (v := undef) rfl (by kernel_rfl) (by kernel_rfl) (by kernel_rfl) (fun _ _ _ h => h) (Or.inr ⟨by rfl, rfl⟩) HX ?_
        simp only [List.getElem_toArray, List.getElem_cons_succ, List.getElem_cons_zero, Act.put, List.setIfInBounds_toArray, List.set_cons_zero, List.set_cons_succ]
        refine wpAnyH_take (i := 20) (v := .bool false) rfl (by kernel_rfl) (by kernel_rfl) (by kernel_rfl) (fun _ _ _ h => h) (Or.inl ⟨by rfl, by intro w9 _; go_simp⟩) HX ?_
        simp only [List.getElem_toArray, List.getElem_cons_succ, List.getElem_cons_zero, Act.put, List.setIfInBounds_toArray, List.set_cons_zero, List.set_cons_succ]
        refine wpAnyH_done (by kernel_rfl) ?_ _
        have HY : Hid (Below wr.heap.size wr y0) := HX
        clear HX
        have HE : Hid ((∃ sv' hw', Rf y0 B b sv' hw' (szN (n + 1)) (puL nodeL (tlN n) Hs x) ∧ Wh w (.slice ya Hs.length yc) hw') ∧ Tu w B (.slice ya Hs.length yc) y0) := by
          obtain ⟨e1, e2⟩ := HG.out.stop
          have h9 := H0.out _ HY.out
          rw [← e1, ← e2]
          exact ⟨⟨_, _, h9.1, HW0.out⟩, h9.2⟩
        go_wp2
        go_ret
        exact ⟨rfl, HE.out.1, HE.out.2⟩
end Go.Proofs.YtnhfadjlajljlaaDoor
