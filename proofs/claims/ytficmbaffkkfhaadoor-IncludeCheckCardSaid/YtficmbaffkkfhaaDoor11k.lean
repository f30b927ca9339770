/- The law IncludeCheck (layer 11). -/
import Derived.Test.YtficmbaffkkfhaaDoor11j
namespace Go.Proofs.YtficmbaffkkfhaaDoor
open Go.RowKit

/-- A claim's cells. -/
def clC (x r : List UInt8) (i n : Int) (v : Value) : Array Value := hv x ++ hv r ++ #[.int .i64 i, .int .i64 n, v]
theorem cl_size {x r : List UInt8} (hx : x.length = 32) (hr : r.length = 32) (i n : Int) (v : Value) : (clC x r i n v).size = 67 := by
  have h1 : (hv x).size = 32 := by rw [hv_size, hx]
  have h2 : (hv r).size = 32 := by rw [hv_size, hr]
  unfold clC
  rw [Array.size_append, Array.size_append, h1, h2]
  rfl
theorem cl_leaf {x r : List UInt8} (hx : x.length = 32) {i n : Int} {v : Value} {w : World} {b : Nat} {t : TypeId} {q : Nat × Nat} (h : w.heap[b]? = some (.cells (clC x r i n v) t q)) : w.rangeAt b 0 (hv x).toList := fun j u hj => by
  have h1 : (hv x).size = 32 := by rw [hv_size, hx]
  have hl := (List.getElem?_eq_some_iff.1 hj).1
  rw [Array.length_toList] at hl
  rw [cell_of_row _ _ _ _ _ _ h, Nat.zero_add, clC, Array.getElem?_append_left (by rw [Array.size_append]; omega), Array.getElem?_append_left (by omega), ← Array.getElem?_toList]
  exact hj
theorem cl_root {x r : List UInt8} (hx : x.length = 32) (hr : r.length = 32) {i n : Int} {v : Value} {w : World} {b : Nat} {t : TypeId} {q : Nat × Nat} (h : w.heap[b]? = some (.cells (clC x r i n v) t q)) : w.rangeAt b 32 (hv r).toList := fun j u hj => by
  have h1 : (hv x).size = 32 := by rw [hv_size, hx]
  have h2 : (hv r).size = 32 := by rw [hv_size, hr]
  have hl := (List.getElem?_eq_some_iff.1 hj).1
  rw [Array.length_toList] at hl
  rw [cell_of_row _ _ _ _ _ _ h, clC, Array.getElem?_append_left (by rw [Array.size_append]; omega), Array.getElem?_append_right (by omega), h1, show 32 + j - 32 = j by omega, ← Array.getElem?_toList]
  exact hj
theorem cl_rest {x r : List UInt8} (hx : x.length = 32) (hr : r.length = 32) {i n : Int} {v : Value} {w : World} {b : Nat} {t : TypeId} {q : Nat × Nat} (h : w.heap[b]? = some (.cells (clC x r i n v) t q)) : w.cell? ⟨b, 64, none⟩ = some (.int .i64 i) ∧ w.cell? ⟨b, 65, none⟩ = some (.int .i64 n) ∧ w.cell? ⟨b, 66, none⟩ = some v := by
  have h1 : (hv x).size = 32 := by rw [hv_size, hx]
  have h2 : (hv r).size = 32 := by rw [hv_size, hr]
  have hs : (hv x ++ hv r).size = 64 := by rw [Array.size_append, h1, h2]
  refine ⟨?_, ?_, ?_⟩ <;> rw [cell_of_row _ _ _ _ _ _ h, clC, Array.getElem?_append_right (by omega), hs] <;> rfl
set_option maxRecDepth 100000 in
set_option maxHeartbeats 8000000 in
set_option linter.unusedSimpArgs false in
set_option linter.unusedVariables false in
theorem icheck_walk {w : World} {a : Option Addr} {c : Nat} {x r : List UInt8} {P : List (List UInt8)} (i n : Int) (hn : n < 9223372036854775808) (hx : x.length = 32) (hr : r.length = 32) (hP : HsAt w (.slice a P.length c) P) (hc : P.length ≤ c) (hK : TabL w) (hR : TabR w) : Calls Tryd.prog 4 #[.agg (clC x r i n (.slice a P.length c))] w fun e w' => e = .returned (.bool true) ∧ Below w.heap.size w w' := by
  obtain ⟨m, hm⟩ : ∃ m, P.length = m := ⟨_, rfl⟩
  rw [hm]
  obtain ⟨w1, hw1⟩ : ∃ w1, w.alloc (.cells (clC x r i n (.slice a m c)) 31) = w1 := ⟨_, rfl⟩
  have b1 : Below w.heap.size w w1 := by rw [← hw1]; exact (Below.refl _ _).alloc (Nat.le_refl _) _
  have g1 : w1.heap[w.heap.size]? = some (.cells (clC x r i n (.slice a m c)) 31 (0, 0)) := by rw [← hw1]; exact heap_alloc_last w _
  have HG : Hid (∀ W, Below w1.heap.size w1 W → W.rangeAt w.heap.size 0 (hv x).toList ∧ W.rangeAt w.heap.size 32 (hv r).toList ∧ W.cell? ⟨w.heap.size, 64, none⟩ = some (.int .i64 i) ∧ W.cell? ⟨w.heap.size, 65, none⟩ = some (.int .i64 n) ∧ W.cell? ⟨w.heap.size, 66, none⟩ = some (.slice a m c) ∧ HsAt W (.slice a m c) P ∧ TabL W ∧ TabR W ∧ Below w.heap.size w W) := fun W hW => by
    have hg := (hW.block _ (Array.getElem?_eq_some_iff.1 g1).1).trans g1
    have hB := b1.trans (hW.mono b1.size)
    have h3 := cl_rest hx hr hg
    exact ⟨cl_leaf hx hg, cl_root hx hr hg, h3.1, h3.2.1, h3.2.2, by rw [← hm]; exact hP.below hB, hK.below hB hK.lt, hR.below hB hR.lt, hB⟩
  have c66 := (HG.out w1 (Below.refl _ _)).2.2.2.2.1
  have hsz := cl_size hx hr i n (.slice a m c)
  have hxs : (hv x).size = 32 := by rw [hv_size, hx]
  have hrs : (hv r).size = 32 := by rw [hv_size, hr]
  have icx : Hid ((Tryd.prog.info? 23).map (·.size) = some (hv x).toList.length) := by show _ = _; rw [info_h32, Array.length_toList, hxs]
  have icr : Hid ((Tryd.prog.info? 23).map (·.size) = some (hv r).toList.length) := by show _ = _; rw [info_h32, Array.length_toList, hrs]
  by_cases hbig : m > 100
  · have h1 : (m : Int) > 100 := by omega
    have HB : Hid (Below w.heap.size w w1) := b1
    clear hP hK hR b1 g1 HG hm hn hc
    generalize clC x r i n (.slice a m c) = C at *
    go_enter Tryd.func4, Tryd.ntmps4
    go_wp2
    go_ret
    exact ⟨rfl, HB.out⟩
  · have h1 : ¬ (m : Int) > 100 := by omega
    have HC : Hid (∀ W, Below w1.heap.size w1 W → Calls Tryd.prog 13 #[.agg (hv x), .int .i64 i, .int .i64 n, .slice a m c, .agg (hv r)] W fun e w' => e = .returned (.int .i64 (ckE x i n P r)) ∧ Below W.heap.size W w') := fun W hW => by
      have h := HG.out W hW
      have := check_any (P := P) (a := a) (c := c) (r := r) i n hn hx hr h.2.2.2.2.2.2.1 (by rw [hm]; exact h.2.2.2.2.2.1) hc (by omega)
      rwa [hm] at this
    have HQ : Hid (∀ W, Below w1.heap.size w1 W → Calls Tryd.prog 14 #[.agg (hv x), .int .i64 i, .int .i64 n, .slice a m c, .agg (hv r)] W fun e w' => e = .returned (.int .i64 (ckE x i n P r)) ∧ Below W.heap.size W w') := fun W hW => by
      have h := HG.out W hW
      have := rcheck_any (P := P) (a := a) (c := c) (r := r) i n hn hx hr h.2.2.2.2.2.2.2.1 (by rw [hm]; exact h.2.2.2.2.2.1) hc (by omega)
      rwa [hm] at this
    have HD : Hid (∀ W, Below w1.heap.size w1 W → Calls Tryd.prog 12 #[] W fun e w' => e = .returned (.bool true) ∧ Below W.heap.size W w') := fun W hW => does11_any W (HG.out W hW).2.2.2.2.2.2.1
    have HX1 : Hid (Below w1.heap.size w1 w1) := Below.refl _ _
    clear hP hK hR b1 g1 hm hn hc hbig hx hr
    generalize clC x r i n (.slice a m c) = C at *
    generalize ckE x i n P r = E at *
    generalize hv x = X at *
    generalize hv r = R at *
    go_enter Tryd.func4, Tryd.ntmps4
    go_upto_region 3 with fail
    refine wp_region_held (S := Below w1.heap.size w1) (by kernel_rfl) ?_
    change wpAnyH _ _ _ _ _ _ _ _ (World.drew _)
    have HX : Below w1.heap.size w1 w1.drew := HX1.out.drew
    clear HX1
    generalize World.drew _ = y0 at *
    refine wpAnyH_take (i := 0) (v := .pointer (some ⟨w.heap.size, 0, none⟩)) rfl (by kernel_rfl) (by kernel_rfl) (by kernel_rfl) (fun _ _ _ h => h) (Or.inl ⟨by rfl, by intro w9 _; go_simp⟩) HX ?_
    simp only [List.getElem_toArray, List.getElem_cons_succ, List.getElem_cons_zero, Act.put, List.setIfInBounds_toArray, List.set_cons_zero, List.set_cons_succ]
    refine wpAnyH_take (i := 1) (v := .agg X) rfl (by kernel_rfl) (by kernel_rfl) (by kernel_rfl) (fun _ _ _ h => h) (yieldsIf_load_mid (by rfl) 23 _ rfl w.heap.size 0 rfl X.toList _ (fun w' h => (HG.out w' h).1) Tryd.underlying23 rfl icx.out) HX ?_
    simp only [List.getElem_toArray, List.getElem_cons_succ, List.getElem_cons_zero, Act.put, List.setIfInBounds_toArray, List.set_cons_zero, List.set_cons_succ]
    refine wpAnyH_take (i := 2) (v := .pointer (some ⟨w.heap.size, 64, none⟩)) rfl (by kernel_rfl) (by kernel_rfl) (by kernel_rfl) (fun _ _ _ h => h) (Or.inl ⟨by rfl, by intro w9 _; go_simp⟩) HX ?_
    simp only [List.getElem_toArray, List.getElem_cons_succ, List.getElem_cons_zero, Act.put, List.setIfInBounds_toArray, List.set_cons_zero, List.set_cons_succ]
    refine wpAnyH_take (i := 3) (v := .int .i64 i) rfl (by kernel_rfl) (by kernel_rfl) (by kernel_rfl) (fun _ _ _ h => h) (Or.inl ⟨by rfl, by intro w9 h9; have c9 := (HG.out w9 h9).2.2.1; go_simp⟩) HX ?_
    simp only [List.getElem_toArray, List.getElem_cons_succ, List.getElem_cons_zero, Act.put, List.setIfInBounds_toArray, List.set_cons_zero, List.set_cons_succ]
    refine wpAnyH_take (i := 4) (v := .pointer (some ⟨w.heap.size, 65, none⟩)) rfl (by kernel_rfl) (by kernel_rfl) (by kernel_rfl) (fun _ _ _ h => h) (Or.inl ⟨by rfl, by intro w9 _; go_simp⟩) HX ?_
    simp only [List.getElem_toArray, List.getElem_cons_succ, List.getElem_cons_zero, Act.put, List.setIfInBounds_toArray, List.set_cons_zero, List.set_cons_succ]
    refine wpAnyH_take (i := 5) (v := .int .i64 n) rfl (by kernel_rfl) (by kernel_rfl) (by kernel_rfl) (fun _ _ _ h => h) (Or.inl ⟨by rfl, by intro w9 h9; have c9 := (HG.out w9 h9).2.2.2.1; go_simp⟩) HX ?_
    simp only [List.getElem_toArray, List.getElem_cons_succ, List.getElem_cons_zero, Act.put, List.setIfInBounds_toArray, List.set_cons_zero, List.set_cons_succ]
    refine wpAnyH_take (i := 6) (v := .pointer (some ⟨w.heap.size, 66, none⟩)) rfl (by kernel_rfl) (by kernel_rfl) (by kernel_rfl) (fun _ _ _ h => h) (Or.inl ⟨by rfl, by intro w9 _; go_simp⟩) HX ?_
    simp only [List.getElem_toArray, List.getElem_cons_succ, List.getElem_cons_zero, Act.put, List.setIfInBounds_toArray, List.set_cons_zero, List.set_cons_succ]
    refine wpAnyH_take (i := 7) (v := .slice a m c) rfl (by kernel_rfl) (by kernel_rfl) (by kernel_rfl) (fun _ _ _ h => h) (Or.inl ⟨by rfl, by intro w9 h9; have c9 := (HG.out w9 h9).2.2.2.2.1; go_simp⟩) HX ?_
    simp only [List.getElem_toArray, List.getElem_cons_succ, List.getElem_cons_zero, Act.put, List.setIfInBounds_toArray, List.set_cons_zero, List.set_cons_succ]
    refine wpAnyH_take (i := 8) (v := .pointer (some ⟨w.heap.size, 32, none⟩)) rfl (by kernel_rfl) (by kernel_rfl) (by kernel_rfl) (fun _ _ _ h => h) (Or.inl ⟨by rfl, by intro w9 _; go_simp⟩) HX ?_
    simp only [List.getElem_toArray, List.getElem_cons_succ, List.getElem_cons_zero, Act.put, List.setIfInBounds_toArray, List.set_cons_zero, List.set_cons_succ]
    refine wpAnyH_take (i := 9) (v := .agg R) rfl (by kernel_rfl) (by kernel_rfl) (by kernel_rfl) (fun _ _ _ h => h) (yieldsIf_load_mid (by rfl) 23 _ rfl w.heap.size 32 rfl R.toList _ (fun w' h => (HG.out w' h).2.1) Tryd.underlying23 rfl icr.out) HX ?_
    simp only [List.getElem_toArray, List.getElem_cons_succ, List.getElem_cons_zero, Act.put, List.setIfInBounds_toArray, List.set_cons_zero, List.set_cons_succ]
    refine wpAnyH_take (i := 11) (v := .pointer (some ⟨w.heap.size, 0, none⟩)) rfl (by kernel_rfl) (by kernel_rfl) (by kernel_rfl) (fun _ _ _ h => h) (Or.inl ⟨by rfl, by intro w9 _; go_simp⟩) HX ?_
    simp only [List.getElem_toArray, List.getElem_cons_succ, List.getElem_cons_zero, Act.put, List.setIfInBounds_toArray, List.set_cons_zero, List.set_cons_succ]
    refine wpAnyH_take (i := 12) (v := .agg X) rfl (by kernel_rfl) (by kernel_rfl) (by kernel_rfl) (fun _ _ _ h => h) (yieldsIf_load_mid (by rfl) 23 _ rfl w.heap.size 0 rfl X.toList _ (fun w' h => (HG.out w' h).1) Tryd.underlying23 rfl icx.out) HX ?_
    simp only [List.getElem_toArray, List.getElem_cons_succ, List.getElem_cons_zero, Act.put, List.setIfInBounds_toArray, List.set_cons_zero, List.set_cons_succ]
    refine wpAnyH_take (i := 13) (v := .pointer (some ⟨w.heap.size, 64, none⟩)) rfl (by kernel_rfl) (by kernel_rfl) (by kernel_rfl) (fun _ _ _ h => h) (Or.inl ⟨by rfl, by intro w9 _; go_simp⟩) HX ?_
    simp only [List.getElem_toArray, List.getElem_cons_succ, List.getElem_cons_zero, Act.put, List.setIfInBounds_toArray, List.set_cons_zero, List.set_cons_succ]
    refine wpAnyH_take (i := 14) (v := .int .i64 i) rfl (by kernel_rfl) (by kernel_rfl) (by kernel_rfl) (fun _ _ _ h => h) (Or.inl ⟨by rfl, by intro w9 h9; have c9 := (HG.out w9 h9).2.2.1; go_simp⟩) HX ?_
    simp only [List.getElem_toArray, List.getElem_cons_succ, List.getElem_cons_zero, Act.put, List.setIfInBounds_toArray, List.set_cons_zero, List.set_cons_succ]
    refine wpAnyH_take (i := 15) (v := .pointer (some ⟨w.heap.size, 65, none⟩)) rfl (by kernel_rfl) (by kernel_rfl) (by kernel_rfl) (fun _ _ _ h => h) (Or.inl ⟨by rfl, by intro w9 _; go_simp⟩) HX ?_
    simp only [List.getElem_toArray, List.getElem_cons_succ, List.getElem_cons_zero, Act.put, List.setIfInBounds_toArray, List.set_cons_zero, List.set_cons_succ]
    refine wpAnyH_take (i := 16) (v := .int .i64 n) rfl (by kernel_rfl) (by kernel_rfl) (by kernel_rfl) (fun _ _ _ h => h) (Or.inl ⟨by rfl, by intro w9 h9; have c9 := (HG.out w9 h9).2.2.2.1; go_simp⟩) HX ?_
    simp only [List.getElem_toArray, List.getElem_cons_succ, List.getElem_cons_zero, Act.put, List.setIfInBounds_toArray, List.set_cons_zero, List.set_cons_succ]
    refine wpAnyH_take (i := 17) (v := .pointer (some ⟨w.heap.size, 66, none⟩)) rfl (by kernel_rfl) (by kernel_rfl) (by kernel_rfl) (fun _ _ _ h => h) (Or.inl ⟨by rfl, by intro w9 _; go_simp⟩) HX ?_
    simp only [List.getElem_toArray, List.getElem_cons_succ, List.getElem_cons_zero, Act.put, List.setIfInBounds_toArray, List.set_cons_zero, List.set_cons_succ]
    refine wpAnyH_take (i := 18) (v := .slice a m c) rfl (by kernel_rfl) (by kernel_rfl) (by kernel_rfl) (fun _ _ _ h => h) (Or.inl ⟨by rfl, by intro w9 h9; have c9 := (HG.out w9 h9).2.2.2.2.1; go_simp⟩) HX ?_
    simp only [List.getElem_toArray, List.getElem_cons_succ, List.getElem_cons_zero, Act.put, List.setIfInBounds_toArray, List.set_cons_zero, List.set_cons_succ]
    refine wpAnyH_take (i := 19) (v := .pointer (some ⟨w.heap.size, 32, none⟩)) rfl (by kernel_rfl) (by kernel_rfl) (by kernel_rfl) (fun _ _ _ h => h) (Or.inl ⟨by rfl, by intro w9 _; go_simp⟩) HX ?_
    simp only [List.getElem_toArray, List.getElem_cons_succ, List.getElem_cons_zero, Act.put, List.setIfInBounds_toArray, List.set_cons_zero, List.set_cons_succ]
    refine wpAnyH_take (i := 20) (v := .agg R) rfl (by kernel_rfl) (by kernel_rfl) (by kernel_rfl) (fun _ _ _ h => h) (yieldsIf_load_mid (by rfl) 23 _ rfl w.heap.size 32 rfl R.toList _ (fun w' h => (HG.out w' h).2.1) Tryd.underlying23 rfl icr.out) HX ?_
    simp only [List.getElem_toArray, List.getElem_cons_succ, List.getElem_cons_zero, Act.put, List.setIfInBounds_toArray, List.set_cons_zero, List.set_cons_succ]
    refine wpAnyH_ready (rs := [10]) (by kernel_rfl) (by simp) (AllReadyH.cons (by simp only [List.getElem?_toArray, List.getElem?_cons_succ, List.getElem?_cons_zero]; rfl) (fun K hK => ?_) AllReadyH.nil)
    refine step_want (by rfl) ?_
    go_simp
    refine (HC.out _ HX).mono ?_
    rintro e y1 ⟨rfl, bc⟩
    have HX : Below w1.heap.size w1 y1 := HX.trans (bc.mono HX.size)
    clear bc
    refine hK.out _ _ HX (fun _ => ?_)
    clear hK K
    try simp only [List.getElem_toArray, List.getElem_cons_succ, List.getElem_cons_zero, Act.put, List.setIfInBounds_toArray, List.set_cons_zero, List.set_cons_succ]
    refine wpAnyH_ready (rs := [21]) (by kernel_rfl) (by simp) (AllReadyH.cons (by simp only [List.getElem?_toArray, List.getElem?_cons_succ, List.getElem?_cons_zero]; rfl) (fun K hK => ?_) AllReadyH.nil)
    refine step_want (by rfl) ?_
    go_simp
    refine (HQ.out _ HX).mono ?_
    rintro e y2 ⟨rfl, bc⟩
    have HX : Below w1.heap.size w1 y2 := HX.trans (bc.mono HX.size)
    clear bc
    refine hK.out _ _ HX (fun _ => ?_)
    clear hK K
    try simp only [List.getElem_toArray, List.getElem_cons_succ, List.getElem_cons_zero, Act.put, List.setIfInBounds_toArray, List.set_cons_zero, List.set_cons_succ]
    refine wpAnyH_take (i := 22) (v := .bool true) rfl (by kernel_rfl) (by kernel_rfl) (by kernel_rfl) (fun _ _ _ h => h) (Or.inl ⟨by rfl, by intro w9 _; go_simp⟩) HX ?_
    simp only [List.getElem_toArray, List.getElem_cons_succ, List.getElem_cons_zero, Act.put, List.setIfInBounds_toArray, List.set_cons_zero, List.set_cons_succ]
    refine wpAnyH_take (i := 23) (v := .bool true) rfl (by kernel_rfl) (by kernel_rfl) (by kernel_rfl) (fun _ _ _ h => h) (Or.inl ⟨by rfl, by intro w9 _; go_simp⟩) HX ?_
    simp only [List.getElem_toArray, List.getElem_cons_succ, List.getElem_cons_zero, Act.put, List.setIfInBounds_toArray, List.set_cons_zero, List.set_cons_succ]
    refine wpAnyH_ready (rs := [24]) (by kernel_rfl) (by simp) (AllReadyH.cons (by simp only [List.getElem?_toArray, List.getElem?_cons_succ, List.getElem?_cons_zero]; rfl) (fun K hK => ?_) AllReadyH.nil)
    refine step_want (by rfl) ?_
    go_simp
    refine (HD.out _ HX).mono ?_
    rintro e y3 ⟨rfl, bc⟩
    have HX : Below w1.heap.size w1 y3 := HX.trans (bc.mono HX.size)
    clear bc
    refine hK.out _ _ HX (fun _ => ?_)
    clear hK K
    try simp only [List.getElem_toArray, List.getElem_cons_succ, List.getElem_cons_zero, Act.put, List.setIfInBounds_toArray, List.set_cons_zero, List.set_cons_succ]
    refine wpAnyH_take (i := 25) (v := .bool true) rfl (by kernel_rfl) (by kernel_rfl) (by kernel_rfl) (fun _ _ _ h => h) (Or.inl ⟨by rfl, by intro w9 _; go_simp⟩) HX ?_
    simp only [List.getElem_toArray, List.getElem_cons_succ, List.getElem_cons_zero, Act.put, List.setIfInBounds_toArray, List.set_cons_zero, List.set_cons_succ]
    refine wpAnyH_take (i := 26) (v := .bool true) rfl (by kernel_rfl) (by kernel_rfl) (by kernel_rfl) (fun _ _ _ h => h) (Or.inl ⟨by rfl, by intro w9 _; go_simp⟩) HX ?_
    simp only [List.getElem_toArray, List.getElem_cons_succ, List.getElem_cons_zero, Act.put, List.setIfInBounds_toArray, List.set_cons_zero, List.set_cons_succ]
    refine wpAnyH_done (by kernel_rfl) ?_ _
    have HF : Hid (Below w.heap.size w y3) := (HG.out _ HX).2.2.2.2.2.2.2.2
    clear HX
    go_wp2
    go_ret
    exact ⟨rfl, HF.out⟩
end Go.Proofs.YtficmbaffkkfhaaDoor
