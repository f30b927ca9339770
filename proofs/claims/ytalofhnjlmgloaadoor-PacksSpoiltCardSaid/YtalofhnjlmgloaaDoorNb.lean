/- A packer in memory, and what add makes of it. -/
import Derived.Test.YtalofhnjlmgloaaDoorFg
import Derived.Test.YtalofhnjlmgloaaDoorTx
import Derived.Test.YtalofhnjlmgloaaDoorPm6
import Derived.Lib.Builder
import Derived.Deep.RegionHeld3
namespace Go.Proofs.YtalofhnjlmgloaaDoor
open Go.RowKit

theorem sv_length (L : List (List UInt8)) : (sv L).length = L.length := by simp [sv]
theorem sv_snoc (L : List (List UInt8)) (b : List UInt8) : sv (L ++ [b]) = sv L ++ [.string (S b)] := by simp [sv]
theorem owns_below {w w' : World} {B : Nat} {e : TypeId} {s n : Nat} {v : Value} {xs : List Value} (h : w.ownsRow B e s v n xs) (hb : Below w.heap.size w w') : w'.ownsRow B e s v n xs := by
  refine ⟨h.1, ?_⟩
  rcases h.2 with q | ⟨g, cap, cur, q1, q2, q3, q4⟩
  · exact .inl q
  · exact .inr ⟨g, cap, cur, q1, q2, (hb.block _ (Array.getElem?_eq_some_iff.1 q3).1).trans q3, q4⟩
theorem owns_slice {w : World} {B : Nat} {e : TypeId} {s n : Nat} {v : Value} {xs : List Value} (h : w.ownsRow B e s v n xs) : ∃ a c, v = .slice a n c := by
  rcases h.2 with ⟨q1, q2⟩ | ⟨g, cap, cur, q1, _⟩
  · exact ⟨none, 0, by rw [q1, q2]⟩
  · exact ⟨_, _, q1⟩
/-- The tables lie below B, and stay. -/
structure Base (B : Nat) (w0 : World) : Prop where
  tab : Tab w0
  tab4 : Tab4 w0
  g1 : 0 < B
  g2 : 1 < B
  le : B ≤ w0.heap.size
theorem Base.of {w : World} (h : Tab w) (h4 : Tab4 w) : Base w.heap.size w := ⟨h, h4, h.lt, h4.lt, Nat.le_refl _⟩
theorem Base.tabAt {B : Nat} {w0 w : World} (h : Base B w0) (hb : Below B w0 w) : Tab w := by
  obtain ⟨t, fr, q⟩ := h.tab
  exact ⟨t, fr, (hb.block _ h.g1).trans q⟩
theorem Base.tab4At {B : Nat} {w0 w : World} (h : Base B w0) (hb : Below B w0 w) : Tab4 w := by
  obtain ⟨t, fr, q⟩ := h.tab4
  exact ⟨t, fr, (hb.block _ h.g2).trans q⟩
/-- A packer of one's own, with its list of blocks (v: what holds it), and its error. -/
structure PkV (w0 : World) (B p : Nat) (k e : Int) (L : List (List UInt8)) (n : Int) (v : Value) (w : World) : Prop where
  lo : B ≤ p
  cell : w.heap[p]? = some (.cells #[.int .u8 k, .int .i64 e, v, .int .i64 n] 49 (0, 0))
  owns : w.ownsRow B 9 1 v L.length (sv L)
  base : Base B w0
  below : Below B w0 w
def Pk (w0 : World) (B p : Nat) (k e : Int) (L : List (List UInt8)) (n : Int) (w : World) : Prop := ∃ v, PkV w0 B p k e L n v w
theorem ne_packer : 49 ≠ 9 := by decide
section
variable {w0 w w' : World} {B p : Nat} {k e n : Int} {L : List (List UInt8)} {v v' : Value} {b : List UInt8}
theorem PkV.lt (h : PkV w0 B p k e L n v w) : p < w.heap.size := (Array.getElem?_eq_some_iff.1 h.cell).1
theorem PkV.size (h : PkV w0 B p k e L n v w) : B ≤ w.heap.size := Nat.le_trans h.base.le h.below.size
theorem PkV.ne (h : PkV w0 B p k e L n v w) : v.ownBlock ≠ some p := Lib.ownBlock_ne h.owns h.cell ne_packer
theorem PkV.tab (h : PkV w0 B p k e L n v w) : Tab w := h.base.tabAt h.below
theorem PkV.tab4 (h : PkV w0 B p k e L n v w) : Tab4 w := h.base.tab4At h.below
theorem PkV.next (h : PkV w0 B p k e L n v w) (hb : Below w.heap.size w w') : PkV w0 B p k e L n v w' :=
  ⟨h.lo, (hb.block _ h.lt).trans h.cell, owns_below h.owns hb, h.base, h.below.trans (hb.mono h.size)⟩
theorem PkV.drew (h : PkV w0 B p k e L n v w) : PkV w0 B p k e L n v w.drew := ⟨h.lo, h.cell, h.owns, h.base, h.below.drew⟩
theorem PkV.alloc (h : PkV w0 B p k e L n v w) (o : Obj) : PkV w0 B p k e L n v (w.alloc o) := h.next ((Below.refl _ _).alloc (Nat.le_refl _) _)
theorem PkV.c0 (h : PkV w0 B p k e L n v w) : w.cell? ⟨p, 0, none⟩ = some (.int .u8 k) := by rw [cell_of_row _ _ _ _ _ _ h.cell]; rfl
theorem PkV.c1 (h : PkV w0 B p k e L n v w) : w.cell? ⟨p, 1, none⟩ = some (.int .i64 e) := by rw [cell_of_row _ _ _ _ _ _ h.cell]; rfl
theorem PkV.c2 (h : PkV w0 B p k e L n v w) : w.cell? ⟨p, 2, none⟩ = some v := by rw [cell_of_row _ _ _ _ _ _ h.cell]; rfl
theorem PkV.c3 (h : PkV w0 B p k e L n v w) : w.cell? ⟨p, 3, none⟩ = some (.int .i64 n) := by rw [cell_of_row _ _ _ _ _ _ h.cell]; rfl
theorem PkV.fr (h : PkV w0 B p k e L n v w) (o : Nat) : w.frozen? ⟨p, o, none⟩ = false := frozen_of_row _ _ _ _ _ h.cell
theorem PkV.slice (h : PkV w0 B p k e L n v w) : ∃ a c, v = .slice a L.length c := owns_slice h.owns
/-- Its error is told. -/
theorem PkV.fails (h : PkV w0 B p k e L n v w) (m : Int) : PkV w0 B p k e L m v (w.setCell ⟨p, 3, none⟩ (.int .i64 m)) := by
  refine ⟨h.lo, by rw [heap_set_same h.cell]; rfl, ?_, h.base, h.below.setCell h.lo _⟩
  refine ⟨h.owns.1, ?_⟩
  rcases h.owns.2 with q | ⟨g, cap, cur, q1, q2, q3, q4⟩
  · exact .inl q
  · refine .inr ⟨g, cap, cur, q1, q2, ?_, q4⟩
    rw [Below.heap_setCell _ _ _ _ (fun hg => h.ne (by rw [q1, hg]; rfl))]; exact q3
/-- A block more. -/
theorem PkV.put (h : PkV w0 B p k e L n v w) (ho : w'.ownsRow B 9 1 v' (L.length + 1) (sv L ++ [.string (S b)])) (hg : w.grownBy w' v.ownBlock) :
    w'.cell? ⟨p, 2, none⟩ = some v ∧ w'.frozen? ⟨p, 2, none⟩ = false ∧ PkV w0 B p k e (L ++ [b]) n v' (w'.setCell ⟨p, 2, none⟩ v') := by
  have hc : w'.heap[p]? = some (.cells #[.int .u8 k, .int .i64 e, v, .int .i64 n] 49 (0, 0)) := by
    rw [hg.block p h.lt (fun e => h.ne e.symm)]; exact h.cell
  have hne := Lib.ownBlock_ne ho hc ne_packer
  refine ⟨by rw [cell_of_row _ _ _ _ _ _ hc]; rfl, frozen_of_row _ _ _ _ _ hc, h.lo, by rw [heap_set_same hc]; rfl, ?_, h.base, ?_⟩
  · rw [show (L ++ [b]).length = L.length + 1 by simp, sv_snoc]
    refine ⟨ho.1, ?_⟩
    rcases ho.2 with q | ⟨g, cap, cur, q1, q2, q3, q4⟩
    · exact .inl q
    · refine .inr ⟨g, cap, cur, q1, q2, ?_, q4⟩
      rw [Below.heap_setCell _ _ _ _ (fun hg => hne (by rw [q1, hg]; rfl))]; exact q3
  · exact (h.below.grown hg h.size (fun j hj => (World.ownsRow.lt h.owns j hj).1)).setCell h.lo _
end
set_option maxRecDepth 100000 in
set_option maxHeartbeats 4000000 in
set_option linter.unusedSimpArgs false in
theorem add_any (d : List UInt8) {w0 w : World} {B p : Nat} {k e : Int} {L : List (List UInt8)} (h : Pk w0 B p k e L 0 w) (hl : L.length ≤ 70000) :
    Calls Tryd.prog 21 #[.pointer (some ⟨p, 0, none⟩), .string (S d)] w fun r w' => r = .returned (.bool (encE ⟨k, e, L.length, d⟩ == 0)) ∧ Pk w0 B p k e (if encE ⟨k, e, L.length, d⟩ == 0 then L ++ [encL ⟨k, e, L.length, d⟩] else L) (encE ⟨k, e, L.length, d⟩) w' := by
  have HEn : Hid (∀ w : World, Tab w → Tab4 w → Calls Tryd.prog 30 #[.agg #[.int .u8 k, .int .i64 e, .int .i64 L.length, .string (S d)]] w fun r w' => r = .returned (.tuple #[.string (S (encL ⟨k, e, L.length, d⟩)), .int .i64 (encE ⟨k, e, L.length, d⟩)]) ∧ Below w.heap.size w w') := fun w a b => encode_any ⟨k, e, L.length, d⟩ w a b
  obtain ⟨ia, i1, i2, i3, i4⟩ := info_string
  have HIA : Hid (Tryd.prog.info? 9 = some ia ∧ ia.zero = some (.string ⟨#[]⟩) ∧ ia.size = 1 ∧ ia.bytes = 16) := ⟨i1, i2, i3, i4⟩
  clear i1 i2 i3 i4
  obtain ⟨v, HX⟩ := h
  obtain ⟨sa, sc, rfl⟩ := HX.slice
  generalize encL ⟨k, e, L.length, d⟩ = X at *
  generalize encE ⟨k, e, L.length, d⟩ = M at *
  generalize S d = D at *
  go_enter Tryd.func21, Tryd.ntmps21
  go_upto_region 1 with fail
  refine wp_region_held (S := PkV w0 B p k e L 0 (.slice sa L.length sc)) (by kernel_rfl) ?_
  change wpAnyH _ _ _ _ _ _ _ _ (World.drew _)
  have HX := HX.drew
  generalize World.drew _ = w1 at *
  refine wpAnyH_take (i := 0) (v := .pointer (some ⟨p, 0, none⟩)) rfl (by kernel_rfl) (by kernel_rfl) (by kernel_rfl) (fun _ _ _ h => h) (Or.inl ⟨by rfl, by intro w _; go_simp⟩) HX ?_
  simp only [List.getElem_toArray, List.getElem_cons_succ, List.getElem_cons_zero, Act.put, List.setIfInBounds_toArray, List.set_cons_zero, List.set_cons_succ]
  refine wpAnyH_take (i := 1) (v := .pointer (some ⟨p, 0, none⟩)) rfl (by kernel_rfl) (by kernel_rfl) (by kernel_rfl) (fun _ _ _ h => h) (Or.inl ⟨by rfl, by intro w _; go_simp⟩) HX ?_
  simp only [List.getElem_toArray, List.getElem_cons_succ, List.getElem_cons_zero, Act.put, List.setIfInBounds_toArray, List.set_cons_zero, List.set_cons_succ]
  refine wpAnyH_take (i := 2) (v := .pointer (some ⟨p, 0, none⟩)) rfl (by kernel_rfl) (by kernel_rfl) (by kernel_rfl) (fun _ _ _ h => h) (Or.inl ⟨by rfl, by intro w _; go_simp⟩) HX ?_
  simp only [List.getElem_toArray, List.getElem_cons_succ, List.getElem_cons_zero, Act.put, List.setIfInBounds_toArray, List.set_cons_zero, List.set_cons_succ]
  refine wpAnyH_take (i := 3) (v := .int .u8 k) rfl (by kernel_rfl) (by kernel_rfl) (by kernel_rfl) (fun _ _ _ h => h) (Or.inl ⟨by rfl, by intro w hw; have hc := PkV.c0 hw; go_simp⟩) HX ?_
  simp only [List.getElem_toArray, List.getElem_cons_succ, List.getElem_cons_zero, Act.put, List.setIfInBounds_toArray, List.set_cons_zero, List.set_cons_succ]
  refine wpAnyH_take (i := 4) (v := .pointer (some ⟨p, 0, none⟩)) rfl (by kernel_rfl) (by kernel_rfl) (by kernel_rfl) (fun _ _ _ h => h) (Or.inl ⟨by rfl, by intro w _; go_simp⟩) HX ?_
  simp only [List.getElem_toArray, List.getElem_cons_succ, List.getElem_cons_zero, Act.put, List.setIfInBounds_toArray, List.set_cons_zero, List.set_cons_succ]
  refine wpAnyH_take (i := 5) (v := .pointer (some ⟨p, 0, none⟩)) rfl (by kernel_rfl) (by kernel_rfl) (by kernel_rfl) (fun _ _ _ h => h) (Or.inl ⟨by rfl, by intro w _; go_simp⟩) HX ?_
  simp only [List.getElem_toArray, List.getElem_cons_succ, List.getElem_cons_zero, Act.put, List.setIfInBounds_toArray, List.set_cons_zero, List.set_cons_succ]
  refine wpAnyH_take (i := 6) (v := .pointer (some ⟨p, 1, none⟩)) rfl (by kernel_rfl) (by kernel_rfl) (by kernel_rfl) (fun _ _ _ h => h) (Or.inl ⟨by rfl, by intro w _; go_simp⟩) HX ?_
  simp only [List.getElem_toArray, List.getElem_cons_succ, List.getElem_cons_zero, Act.put, List.setIfInBounds_toArray, List.set_cons_zero, List.set_cons_succ]
  refine wpAnyH_take (i := 7) (v := .int .i64 e) rfl (by kernel_rfl) (by kernel_rfl) (by kernel_rfl) (fun _ _ _ h => h) (Or.inl ⟨by rfl, by intro w hw; have hc := PkV.c1 hw; go_simp⟩) HX ?_
  simp only [List.getElem_toArray, List.getElem_cons_succ, List.getElem_cons_zero, Act.put, List.setIfInBounds_toArray, List.set_cons_zero, List.set_cons_succ]
  refine wpAnyH_take (i := 8) (v := .pointer (some ⟨p, 0, none⟩)) rfl (by kernel_rfl) (by kernel_rfl) (by kernel_rfl) (fun _ _ _ h => h) (Or.inl ⟨by rfl, by intro w _; go_simp⟩) HX ?_
  simp only [List.getElem_toArray, List.getElem_cons_succ, List.getElem_cons_zero, Act.put, List.setIfInBounds_toArray, List.set_cons_zero, List.set_cons_succ]
  refine wpAnyH_take (i := 9) (v := .pointer (some ⟨p, 0, none⟩)) rfl (by kernel_rfl) (by kernel_rfl) (by kernel_rfl) (fun _ _ _ h => h) (Or.inl ⟨by rfl, by intro w _; go_simp⟩) HX ?_
  simp only [List.getElem_toArray, List.getElem_cons_succ, List.getElem_cons_zero, Act.put, List.setIfInBounds_toArray, List.set_cons_zero, List.set_cons_succ]
  refine wpAnyH_take (i := 10) (v := .pointer (some ⟨p, 2, none⟩)) rfl (by kernel_rfl) (by kernel_rfl) (by kernel_rfl) (fun _ _ _ h => h) (Or.inl ⟨by rfl, by intro w _; go_simp⟩) HX ?_
  simp only [List.getElem_toArray, List.getElem_cons_succ, List.getElem_cons_zero, Act.put, List.setIfInBounds_toArray, List.set_cons_zero, List.set_cons_succ]
  refine wpAnyH_take (i := 11) (v := .slice sa L.length sc) rfl (by kernel_rfl) (by kernel_rfl) (by kernel_rfl) (fun _ _ _ h => h) (Or.inl ⟨by rfl, by intro w hw; have hc := PkV.c2 hw; go_simp⟩) HX ?_
  simp only [List.getElem_toArray, List.getElem_cons_succ, List.getElem_cons_zero, Act.put, List.setIfInBounds_toArray, List.set_cons_zero, List.set_cons_succ]
  refine wpAnyH_take (i := 12) (v := .int .i64 L.length) rfl (by kernel_rfl) (by kernel_rfl) (by kernel_rfl) (fun _ _ _ h => h) (Or.inl ⟨by rfl, by intro w _; go_simp⟩) HX ?_
  simp only [List.getElem_toArray, List.getElem_cons_succ, List.getElem_cons_zero, Act.put, List.setIfInBounds_toArray, List.set_cons_zero, List.set_cons_succ]
  refine wpAnyH_take (i := 13) (v := .string D) rfl (by kernel_rfl) (by kernel_rfl) (by kernel_rfl) (fun _ _ _ h => h) (Or.inl ⟨by rfl, by intro w _; go_simp⟩) HX ?_
  simp only [List.getElem_toArray, List.getElem_cons_succ, List.getElem_cons_zero, Act.put, List.setIfInBounds_toArray, List.set_cons_zero, List.set_cons_succ]
  refine wpAnyH_take (i := 14) (v := .agg #[.int .u8 k, .int .i64 e, .int .i64 L.length, .string D]) rfl (by kernel_rfl) (by kernel_rfl) (by kernel_rfl) (fun _ _ _ h => h) (Or.inl ⟨by rfl, by intro w _; go_simp⟩) HX ?_
  simp only [List.getElem_toArray, List.getElem_cons_succ, List.getElem_cons_zero, Act.put, List.setIfInBounds_toArray, List.set_cons_zero, List.set_cons_succ]
  refine wpAnyH_ready (rs := [15]) (by kernel_rfl) (by simp) (AllReadyH.cons (by simp only [List.getElem?_toArray, List.getElem?_cons_succ, List.getElem?_cons_zero]; rfl) (fun K hK => ?_) AllReadyH.nil)
  refine step_plain rfl ?_
  go_simp
  refine (HEn.out _ HX.tab HX.tab4).mono ?_
  rintro r w2 ⟨rfl, b2⟩
  have HX := HX.next b2
  clear b2 HEn
  refine hK.out _ _ HX (fun _ => ?_)
  clear hK K
  try simp only [List.getElem_toArray, List.getElem_cons_succ, List.getElem_cons_zero, Act.put, List.setIfInBounds_toArray, List.set_cons_zero, List.set_cons_succ]
  refine wpAnyH_take (i := 16) (v := .tuple #[.string (S X), .int .i64 M]) rfl (by kernel_rfl) (by kernel_rfl) (by kernel_rfl) (fun _ _ _ h => h) (Or.inl ⟨by rfl, by intro w _; go_simp⟩) HX ?_
  simp only [List.getElem_toArray, List.getElem_cons_succ, List.getElem_cons_zero, Act.put, List.setIfInBounds_toArray, List.set_cons_zero, List.set_cons_succ]
  refine wpAnyH_take (i := 17) (v := .string (S X)) rfl (by kernel_rfl) (by kernel_rfl) (by kernel_rfl) (fun _ _ _ h => h) (Or.inl ⟨by rfl, by intro w _; go_simp⟩) HX ?_
  simp only [List.getElem_toArray, List.getElem_cons_succ, List.getElem_cons_zero, Act.put, List.setIfInBounds_toArray, List.set_cons_zero, List.set_cons_succ]
  refine wpAnyH_take (i := 18) (v := .int .i64 M) rfl (by kernel_rfl) (by kernel_rfl) (by kernel_rfl) (fun _ _ _ h => h) (Or.inl ⟨by rfl, by intro w _; go_simp⟩) HX ?_
  simp only [List.getElem_toArray, List.getElem_cons_succ, List.getElem_cons_zero, Act.put, List.setIfInBounds_toArray, List.set_cons_zero, List.set_cons_succ]
  refine wpAnyH_take (i := 19) (v := .string (S X)) rfl (by kernel_rfl) (by kernel_rfl) (by kernel_rfl) (fun _ _ _ h => h) (Or.inl ⟨by rfl, by intro w _; go_simp⟩) HX ?_
  simp only [List.getElem_toArray, List.getElem_cons_succ, List.getElem_cons_zero, Act.put, List.setIfInBounds_toArray, List.set_cons_zero, List.set_cons_succ]
  refine wpAnyH_take (i := 20) (v := .int .i64 M) rfl (by kernel_rfl) (by kernel_rfl) (by kernel_rfl) (fun _ _ _ h => h) (Or.inl ⟨by rfl, by intro w _; go_simp⟩) HX ?_
  simp only [List.getElem_toArray, List.getElem_cons_succ, List.getElem_cons_zero, Act.put, List.setIfInBounds_toArray, List.set_cons_zero, List.set_cons_succ]
  refine wpAnyH_done (by kernel_rfl) ?_ _
  by_cases hM : M = 0
  · subst hM
    obtain ⟨A, hA⟩ : ∃ A, S X = A := ⟨_, rfl⟩
    have HY := HX.alloc (.cells #[.string A] 9)
    have c2 := HX.c2
    rw [hA]
    go_wp2_with (refine wpList_append_own _ rfl _ _ 23 rfl B 9 ia (.string ⟨#[]⟩) 1 16 Tryd.underlying23 HIA.out.1 HIA.out.2.1 HIA.out.2.2.1 HIA.out.2.2.2 rfl (by omega) (.slice sa L.length sc) L.length (sv L) rfl HY.owns ⟨w2.heap.size, 0, none⟩ 1 1 [.string A] rfl rfl one_news one_cells (by simp only [maxLen]; omega) (by omega) HY.size ?_; intro v' w3 r1 r2 r3; obtain ⟨xa, xc, rfl⟩ := owns_slice r1; rw [← hA] at r1; obtain ⟨d2, f2, HZ⟩ := HY.put r1 r2; have HZ : Hid _ := HZ; clear r1 r2 r3 HX HY c2)
    go_ret
    exact ⟨rfl, ⟨_, HZ.out⟩⟩
  · have hM2 : (M == 0) = false := by simpa using hM
    have hM3 : (M != 0) = true := by simpa using hM
    have c3 := HX.c3
    have f3 := HX.fr 3
    have HZ : Hid _ := HX.fails M
    clear hM HX
    go_wp2
    go_ret
    exact ⟨rfl, ⟨_, HZ.out⟩⟩
end Go.Proofs.YtalofhnjlmgloaaDoor
