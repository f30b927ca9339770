/- The walk of the law ShaSum: the hash of any text, and the digits of any hash, are the document's. -/
import Derived.Test.YtiajbepbhfojnaaDoorSh
import Derived.Test.YtiajbepbhfojnaaDoorTc
import Derived.Test.YtiajbepbhfojnaaDoorTd
import Derived.Deep.RegionHeld3
namespace Go.Proofs.YtiajbepbhfojnaaDoor
open Go.RowKit

/-- What is held: the tables, and the hash that came in. -/
structure SumS (w : World) (C : Array Value) (wr : World) : Prop where
  below : Below w.heap.size w wr
  k : TabK wr
  r : TabR wr
  b : wr.heap[w.heap.size]? = some (.cells C 22 (0, 0))
theorem SumS.next {w : World} {C : Array Value} {wr wx : World} (h : SumS w C wr) (hb : Below wr.heap.size wr wx) : SumS w C wx where
  below := h.below.trans (hb.mono h.below.size)
  k := h.k.below hb h.k.lt
  r := h.r.below hb h.r.lt
  b := by rw [hb.block _ (Array.getElem?_eq_some_iff.1 h.b).1]; exact h.b
theorem SumS.drew {w : World} {C : Array Value} {wr : World} (h : SumS w C wr) : SumS w C wr.drew := ⟨h.below.drew, h.k, h.r, h.b⟩
theorem ssum_long (s : ByteArray) (h : List UInt8) (w : World) (hs : 3000 < s.size) :
    Calls Tryd.prog 3 #[.string s, .agg (hv h)] w fun e w' => e = .returned (.bool true) ∧ Below w.heap.size w w' := by
  have h1 : (3000 : Int) < (s.size : Int) := by omega
  generalize hv h = C at *
  go_enter Tryd.func3, Tryd.ntmps3
  go_wp2
  go_ret
  first
  | exact ⟨rfl, Below.refl _ _⟩
  | exact ⟨rfl, (Below.refl _ _).alloc (Nat.le_refl _) _⟩
set_option linter.unusedSimpArgs false in
set_option maxRecDepth 100000 in
set_option maxHeartbeats 1600000 in
theorem ssum_walk (l h : List UInt8) (w : World) (hK : TabK w) (hR : TabR w) (hl : l.length ≤ 3000) (hh : h.length = 32) :
    Calls Tryd.prog 3 #[.string (S l), .agg (hv h)] w fun e w' => e = .returned (.bool true) ∧ Below w.heap.size w w' := by
  have h1 : ¬ (3000 : Int) < (l.length : Int) := by omega
  have hsz : (S l).size = l.length := S_size l
  have hgk := hK.lt
  have hgr := hR.lt
  have he : ∀ w : World, (binOp .eql 22 (.agg (hv (shaL l))) (.agg (hv (shaL l)))).run Tryd.prog w = .ok (.bool true) w := fun w => by
    have := eqH w (shaL l) (shaL l) (shaL_length _) (shaL_length _)
    simpa using this
  have HA : Hid (∀ wx, SumS w (hv h) wx → Calls Tryd.prog 9 #[.string (S l)] wx fun e w' => e = .returned (.agg (hv (shaL l))) ∧ SumS w (hv h) w') := fun wx k => (sum_any l wx k.k (by omega)).mono fun _ _ hh => ⟨hh.1, k.next hh.2⟩
  have HB : Hid (∀ wx, SumS w (hv h) wx → Calls Tryd.prog 10 #[.string (S l)] wx fun e w' => e = .returned (.agg (hv (shaL l))) ∧ SumS w (hv h) w') := fun wx k => (rsum_any l wx k.r (by omega)).mono fun _ _ hh => ⟨hh.1, k.next hh.2⟩
  have HC : Hid (∀ wx, SumS w (hv h) wx → Calls Tryd.prog 11 #[.agg (hv h)] wx fun e w' => e = .returned (.string (S (hexL h))) ∧ SumS w (hv h) w') := fun wx k => (hex_any h wx hh).mono fun _ _ hx => ⟨hx.1, k.next hx.2⟩
  have HD : Hid (∀ wx, SumS w (hv h) wx → Calls Tryd.prog 12 #[.agg (hv h)] wx fun e w' => e = .returned (.string (S (hexL h))) ∧ SumS w (hv h) w') := fun wx k => (rhex_any h wx hh).mono fun _ _ hx => ⟨hx.1, k.next hx.2⟩
  have HE : Hid (∀ wx, SumS w (hv h) wx → Calls Tryd.prog 13 #[] wx fun e w' => e = .returned (.bool true) ∧ SumS w (hv h) w') := fun wx k => (does_any wx k.k).mono fun _ _ hx => ⟨hx.1, k.next hx.2⟩
  have hcs : (hv h).size = 32 := by rw [hv_size, hh]
  generalize hv (shaL l) = D at *
  generalize S (hexL h) = X at *
  generalize hv h = C at *
  have HST : Hid (SumS w C (w.alloc (.cells C 22))) := by
    have hbe : Below w.heap.size w (w.alloc (.cells C 22)) := (Below.refl _ _).alloc (Nat.le_refl _) _
    exact ⟨hbe, hK.below hbe hgk, hR.below hbe hgr, heap_alloc_last _ _⟩
  have ic : Hid ((Tryd.prog.info? 22).map (·.size) = some C.toList.length) := by show _ = _; rw [info_h32, Array.length_toList, hcs]
  go_enter Tryd.func3, Tryd.ntmps3
  go_wp2_with fail
  have h0 := HST.out.drew
  refine wp_region_held (S := fun w' => SumS w C w') (by kernel_rfl) ?_
  change wpAnyH _ _ _ _ _ _ _ _ (World.drew _)
  generalize (w.alloc (.cells C 22)).drew = W0 at *
  refine wpAnyH_take (i := 0) (v := .string (S l)) rfl (by kernel_rfl) (by kernel_rfl) (by kernel_rfl) (fun _ _ _ h => h) (Or.inl ⟨by rfl, by intro w _; go_simp⟩) h0 ?_
  simp only [List.getElem_toArray, List.getElem_cons_succ, List.getElem_cons_zero, Act.put, List.setIfInBounds_toArray, List.set_cons_zero, List.set_cons_succ]
  refine wpAnyH_take (i := 2) (v := .string (S l)) rfl (by kernel_rfl) (by kernel_rfl) (by kernel_rfl) (fun _ _ _ h => h) (Or.inl ⟨by rfl, by intro w _; go_simp⟩) h0 ?_
  simp only [List.getElem_toArray, List.getElem_cons_succ, List.getElem_cons_zero, Act.put, List.setIfInBounds_toArray, List.set_cons_zero, List.set_cons_succ]
  refine wpAnyH_ready (rs := [1]) (by kernel_rfl) (by simp) (AllReadyH.cons (by simp only [List.getElem?_toArray, List.getElem?_cons_succ, List.getElem?_cons_zero]; rfl) (fun K hK => ?_) AllReadyH.nil)
  refine step_want (by rfl) ?_
  go_simp
  refine (HA.out _ h0).mono ?_
  rintro e w1 ⟨rfl, h1⟩
  refine hK.out _ _ h1 (fun _ => ?_)
  clear hK K
  try simp only [List.getElem_toArray, List.getElem_cons_succ, List.getElem_cons_zero, Act.put, List.setIfInBounds_toArray, List.set_cons_zero, List.set_cons_succ]
  refine wpAnyH_ready (rs := [3]) (by kernel_rfl) (by simp) (AllReadyH.cons (by simp only [List.getElem?_toArray, List.getElem?_cons_succ, List.getElem?_cons_zero]; rfl) (fun K hK => ?_) AllReadyH.nil)
  refine step_want (by rfl) ?_
  go_simp
  refine (HB.out _ h1).mono ?_
  rintro e w2 ⟨rfl, h2⟩
  refine hK.out _ _ h2 (fun _ => ?_)
  clear hK K
  try simp only [List.getElem_toArray, List.getElem_cons_succ, List.getElem_cons_zero, Act.put, List.setIfInBounds_toArray, List.set_cons_zero, List.set_cons_succ]
  refine wpAnyH_take (i := 4) (v := .bool true) rfl (by kernel_rfl) (by kernel_rfl) (by kernel_rfl) (fun _ _ _ h => h) (Or.inl ⟨by rfl, by intro w _; go_simp⟩) h2 ?_
  simp only [List.getElem_toArray, List.getElem_cons_succ, List.getElem_cons_zero, Act.put, List.setIfInBounds_toArray, List.set_cons_zero, List.set_cons_succ]
  refine wpAnyH_take (i := 5) (v := .bool true) rfl (by kernel_rfl) (by kernel_rfl) (by kernel_rfl) (fun _ _ _ h => h) (Or.inl ⟨by rfl, by intro w _; go_simp⟩) h2 ?_
  simp only [List.getElem_toArray, List.getElem_cons_succ, List.getElem_cons_zero, Act.put, List.setIfInBounds_toArray, List.set_cons_zero, List.set_cons_succ]
  refine wpAnyH_take (i := 6) (v := .agg C) rfl (by kernel_rfl) (by kernel_rfl) (by kernel_rfl) (fun _ _ _ h => h) (yieldsIf_load_mid (by rfl) 22 _ rfl w.heap.size 0 rfl C.toList _ (fun w h => range_row h.b) Tryd.underlying22 rfl ic.out) h2 ?_
  simp only [List.getElem_toArray, List.getElem_cons_succ, List.getElem_cons_zero, Act.put, List.setIfInBounds_toArray, List.set_cons_zero, List.set_cons_succ]
  refine wpAnyH_take (i := 8) (v := .agg C) rfl (by kernel_rfl) (by kernel_rfl) (by kernel_rfl) (fun _ _ _ h => h) (yieldsIf_load_mid (by rfl) 22 _ rfl w.heap.size 0 rfl C.toList _ (fun w h => range_row h.b) Tryd.underlying22 rfl ic.out) h2 ?_
  simp only [List.getElem_toArray, List.getElem_cons_succ, List.getElem_cons_zero, Act.put, List.setIfInBounds_toArray, List.set_cons_zero, List.set_cons_succ]
  refine wpAnyH_ready (rs := [7]) (by kernel_rfl) (by simp) (AllReadyH.cons (by simp only [List.getElem?_toArray, List.getElem?_cons_succ, List.getElem?_cons_zero]; rfl) (fun K hK => ?_) AllReadyH.nil)
  refine step_want (by rfl) ?_
  go_simp
  refine (HC.out _ h2).mono ?_
  rintro e w3 ⟨rfl, h3⟩
  refine hK.out _ _ h3 (fun _ => ?_)
  clear hK K
  try simp only [List.getElem_toArray, List.getElem_cons_succ, List.getElem_cons_zero, Act.put, List.setIfInBounds_toArray, List.set_cons_zero, List.set_cons_succ]
  refine wpAnyH_ready (rs := [9]) (by kernel_rfl) (by simp) (AllReadyH.cons (by simp only [List.getElem?_toArray, List.getElem?_cons_succ, List.getElem?_cons_zero]; rfl) (fun K hK => ?_) AllReadyH.nil)
  refine step_want (by rfl) ?_
  go_simp
  refine (HD.out _ h3).mono ?_
  rintro e w4 ⟨rfl, h4⟩
  refine hK.out _ _ h4 (fun _ => ?_)
  clear hK K
  try simp only [List.getElem_toArray, List.getElem_cons_succ, List.getElem_cons_zero, Act.put, List.setIfInBounds_toArray, List.set_cons_zero, List.set_cons_succ]
  refine wpAnyH_take (i := 10) (v := .bool true) rfl (by kernel_rfl) (by kernel_rfl) (by kernel_rfl) (fun _ _ _ h => h) (Or.inl ⟨by rfl, by intro w _; go_simp⟩) h4 ?_
  simp only [List.getElem_toArray, List.getElem_cons_succ, List.getElem_cons_zero, Act.put, List.setIfInBounds_toArray, List.set_cons_zero, List.set_cons_succ]
  refine wpAnyH_take (i := 11) (v := .bool true) rfl (by kernel_rfl) (by kernel_rfl) (by kernel_rfl) (fun _ _ _ h => h) (Or.inl ⟨by rfl, by intro w _; go_simp⟩) h4 ?_
  simp only [List.getElem_toArray, List.getElem_cons_succ, List.getElem_cons_zero, Act.put, List.setIfInBounds_toArray, List.set_cons_zero, List.set_cons_succ]
  refine wpAnyH_take (i := 12) (v := .bool true) rfl (by kernel_rfl) (by kernel_rfl) (by kernel_rfl) (fun _ _ _ h => h) (Or.inl ⟨by rfl, by intro w _; go_simp⟩) h4 ?_
  simp only [List.getElem_toArray, List.getElem_cons_succ, List.getElem_cons_zero, Act.put, List.setIfInBounds_toArray, List.set_cons_zero, List.set_cons_succ]
  refine wpAnyH_ready (rs := [13]) (by kernel_rfl) (by simp) (AllReadyH.cons (by simp only [List.getElem?_toArray, List.getElem?_cons_succ, List.getElem?_cons_zero]; rfl) (fun K hK => ?_) AllReadyH.nil)
  refine step_want (by rfl) ?_
  go_simp
  refine (HE.out _ h4).mono ?_
  rintro e w5 ⟨rfl, h5⟩
  refine hK.out _ _ h5 (fun _ => ?_)
  clear hK K
  try simp only [List.getElem_toArray, List.getElem_cons_succ, List.getElem_cons_zero, Act.put, List.setIfInBounds_toArray, List.set_cons_zero, List.set_cons_succ]
  refine wpAnyH_take (i := 14) (v := .bool true) rfl (by kernel_rfl) (by kernel_rfl) (by kernel_rfl) (fun _ _ _ h => h) (Or.inl ⟨by rfl, by intro w _; go_simp⟩) h5 ?_
  simp only [List.getElem_toArray, List.getElem_cons_succ, List.getElem_cons_zero, Act.put, List.setIfInBounds_toArray, List.set_cons_zero, List.set_cons_succ]
  refine wpAnyH_take (i := 15) (v := .bool true) rfl (by kernel_rfl) (by kernel_rfl) (by kernel_rfl) (fun _ _ _ h => h) (Or.inl ⟨by rfl, by intro w _; go_simp⟩) h5 ?_
  simp only [List.getElem_toArray, List.getElem_cons_succ, List.getElem_cons_zero, Act.put, List.setIfInBounds_toArray, List.set_cons_zero, List.set_cons_succ]
  refine wpAnyH_done (by kernel_rfl) ?_ _
  go_wp2
  go_ret
  exact ⟨rfl, h5.below⟩
theorem ssum_law (s : ByteArray) (h : List UInt8) (w : World) (hK : TabK w) (hR : TabR w) (hh : h.length = 32) :
    Calls Tryd.prog 3 #[.string s, .agg (hv h)] w fun e w' => e = .returned (.bool true) ∧ Below w.heap.size w w' := by
  by_cases h0 : 3000 < s.size
  · exact ssum_long s h w h0
  · rw [← S_data s]
    exact ssum_walk s.data.toList h w hK hR (by have : s.data.toList.length = s.size := rfl; omega) hh
end Go.Proofs.YtiajbepbhfojnaaDoor
