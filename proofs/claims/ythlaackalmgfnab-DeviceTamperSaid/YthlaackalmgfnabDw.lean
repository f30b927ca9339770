/- Tamper on a device. -/
import Derived.Test.YthlaackalmgfnabDu
import Derived.Test.YthlaackalmgfnabDf
namespace Go.Proofs.Ythlaackalmgfnab
open Go.RowKit

/-- What a Tamper tells, and makes. -/
def tamperD (d : Dv) (i st : Int) (s : List UInt8) : Int × Dv :=
  if ¬ (0 ≤ i ∧ i < d.sure.length) then (2, d)
  else match blkOf st s with
    | none => (2, d)
    | some b => (0, { d with sure := d.sure.set i.toNat b, told := d.told.set i.toNat b, acts := delA d.acts i })
theorem delA_sub (L : List Ac) (i : Int) : ∀ x ∈ delA L i, x ∈ L := fun _ hx => (List.mem_filter.1 hx).1
theorem DevAt.delActs {w w6 : World} {p : Nat} {d : Dv} {O : Nat → Prop} {a b ca cb c : Nat} {x : Option Addr} {fv kv : Value} {i : Int} (h : DevAt w p d O a b ca cb (.slice x d.acts.length c) fv kv)
    (h1 : w6.ownsRow 0 79 1 (.slice x (delA d.acts i).length c) (delA d.acts i).length ((delA d.acts i).map acV)) (h2 : Turn (fun k => ∃ g, x = some g ∧ k = g.block) w w6) :
    DevAt (w6.setCell ⟨p, 2, none⟩ (.slice x (delA d.acts i).length c)) p { d with acts := delA d.acts i } O a b ca cb (.slice x (delA d.acts i).length c) fv kv ∧ Turn O w (w6.setCell ⟨p, 2, none⟩ (.slice x (delA d.acts i).length c)) := by
  obtain ⟨n1, n2, n3, n4, n5, n6⟩ := nodup_mem h.nodup
  have hO : ∀ k, (∃ g, x = some g ∧ k = g.block) → (Value.slice x d.acts.length c).ownBlock = some k := fun k ⟨g, e, hk⟩ => by rw [e, hk]; rfl
  have hpl := (h.own p (by simp [blocks])).2
  have keep : ∀ k, k < w.heap.size → k ≠ p → (Value.slice x d.acts.length c).ownBlock ≠ some k → (w6.setCell ⟨p, 2, none⟩ (.slice x (delA d.acts i).length c)).heap[k]? = w.heap[k]? := fun k hk hp hn => by
    rw [Below.heap_setCell _ _ _ _ hp, h2.block k hk (fun e => hn (hO k e))]
  have hcp : w6.heap[p]? = w.heap[p]? := h2.block p hpl (fun e => (n4 p (hO p e)).1 rfl)
  have hsz : (w6.setCell ⟨p, 2, none⟩ (.slice x (delA d.acts i).length c)).heap.size = w6.heap.size := heap_set_size _ _ _
  have hbl : blocks p a b (.slice x (delA d.acts i).length c) fv kv = blocks p a b (.slice x d.acts.length c) fv kv := by
    unfold blocks
    congr 3
    cases x <;> rfl
  refine ⟨⟨?_, ?_, ?_, h.len, h.pos, h.small, ?_, fun y hy => h.inr y (delA_sub _ _ y hy), ?_, h.left, by rw [hbl]; exact h.nodup, fun k hk => ?_⟩, ?_⟩
  · rw [heap_set_same (by rw [hcp]; exact h.cells)]; rfl
  · exact h.sure.same (keep a (h.own a (by simp [blocks])).2 n1.symm (fun e => (n4 a e).2.1 rfl))
  · exact h.told.same (keep b (h.own b (by simp [blocks])).2 n2.symm (fun e => (n4 b e).2.2.1 rfl))
  · refine owns_same h1 fun k hk => ?_
    have hk2 : (Value.slice x d.acts.length c).ownBlock = some k := by cases x with | none => cases hk | some g => exact hk
    exact Below.heap_setCell _ _ _ _ (n4 k hk2).1
  · refine h.fail.same fun k hk => ?_
    rcases hk with hk | hk
    · exact keep k (h.own k (by simp [blocks, hk])).2 (n5 k hk).1 (fun e => (n4 k e).2.2.2.1 hk)
    · exact keep k (h.own k (by simp [blocks, hk])).2 (n6 k hk).1 (fun e => (n4 k e).2.2.2.2 hk)
  · rw [hbl] at hk
    exact ⟨(h.own k hk).1, by rw [hsz]; exact Nat.lt_of_lt_of_le (h.own k hk).2 h2.size⟩
  · have hOp : O p := (h.own p (by simp [blocks])).1
    refine Turn.setCell ⟨h2.os, h2.tape, h2.output, h2.size, fun k hk hn => h2.block k hk (fun e => hn ?_)⟩ hOp _
    exact (h.own k (by simp [blocks, hO k e])).1
set_option maxRecDepth 100000 in
set_option linter.unusedSimpArgs false in
set_option maxHeartbeats 1600000 in
theorem tamper_dev {w : World} {p : Nat} {d : Dv} {O : Nat → Prop} (h : Dev w p d O) (i st : Int) (s : List UInt8) (hs : d.acts.length < 1000000) :
    Calls Try.prog 23 #[.pointer (some ⟨p, 0, none⟩), .int .i64 i, .int .i64 st, .string (S s)] w fun e w' => e = .returned (.int .i64 (tamperD d i st s).1) ∧ Dev w' p (tamperD d i st s).2 O ∧ Turn O w w' := by
  obtain ⟨W0, hW0⟩ : ∃ W0, w.alloc (.cells #[.int .i64 i] 3) = W0 := ⟨_, rfl⟩
  have hB0 : Below w.heap.size w W0 := by rw [← hW0]; exact (Below.refl _ _).alloc (Nat.le_refl _) _
  have hG0 : W0.heap[w.heap.size]? = some (.cells #[.int .i64 i] 3 (0, 0)) := by rw [← hW0]; exact heap_alloc_last _ _
  have c0 : W0.cell? ⟨w.heap.size, 0, none⟩ = some (.int .i64 i) := by rw [cell_of_row _ _ _ _ _ _ hG0]; rfl
  have hD0 := h.below hB0
  have hn := isNone_dev hD0
  have hh := has_dev hD0 i
  have HW0 : Hid _ := hW0
  have HB0 : Hid (Below w.heap.size w W0) := hB0
  have HHi : Hid (∀ k, O k → True) := fun _ _ => trivial
  by_cases hi : 0 ≤ i ∧ i < d.sure.length
  · rw [decide_eq_true hi] at hh
    have HBo : Hid (Calls Try.prog 40 #[.int .i64 st, .string (S s)] W0 fun e w' => e = .returned (.tuple #[.agg (bc ((blkOf st s).getD blank)).toArray, .bool (blkOf st s).isSome]) ∧ Below W0.heap.size W0 w') := blockOf_any st s W0
    have hz := (zero_of_info zero_bk).1
    cases hb : blkOf st s with
    | none =>
      rw [hb] at HBo
      simp only [Option.getD_none, Option.isSome_none] at HBo
      have e : tamperD d i st s = (2, d) := by unfold tamperD; rw [if_neg (fun h => h hi), hb]
      rw [e]
      have HX1 : Hid ((bc blank).toArray.size = 129) := bcA_size _
      have HX2 : Hid ((bc blank).toArray.all (·.oneCell') = true) := bcA_one _
      have hne : ¬ (bc blank).toArray = #[] := fun h => by have := HX1.out; rw [h] at this; cases this
      have HD : Hid (Dev w p d O) := h
      clear h hD0 hb hB0 hG0 hW0 e
      generalize (bc blank).toArray = X at *
      generalize S s = A at *
      go_enter Try.func23, Try.ntmps23
      go_wp2_with fail
      rw [HW0.out]
      refine Calls.mono hn ?_
      rintro e w1 ⟨rfl, rfl⟩
      go_wp2_with fail
      refine Calls.mono hh ?_
      rintro e w1 ⟨rfl, rfl⟩
      go_wp2_with fail
      refine Calls.mono HBo.out ?_
      rintro e w2 ⟨rfl, b2⟩
      have HB2 : Hid (Below w.heap.size w w2) := HB0.out.trans (b2.mono HB0.out.size)
      clear b2 HBo hn hh
      go_wp2_with (refine store_last rfl 57 _ _ rfl 129 _ _ X rfl rfl info_bk HX1.out HX1.out HX2.out ?_)
      go_ret
      have HB3 := HB2.out.alloc HB2.out.size (.cells X 57)
      exact ⟨rfl, HD.out.below HB3, Turn.of_below HB3⟩
    | some bk =>
      rw [hb] at HBo
      simp only [Option.getD_some, Option.isSome_some] at HBo
      have e : tamperD d i st s = (0, { d with sure := d.sure.set i.toNat bk, told := d.told.set i.toNat bk, acts := delA d.acts i }) := by unfold tamperD; rw [if_neg (fun h => h hi), hb]
      rw [e]
      obtain ⟨j, rfl⟩ : ∃ j : Nat, i = j := ⟨i.toNat, by omega⟩
      rw [Int.toNat_natCast]
      have hjl : j < d.sure.length := by omega
      have HX1 : Hid ((bc bk).toArray.size = 129) := bcA_size _
      have HX2 : Hid ((bc bk).toArray.all (·.oneCell') = true) := bcA_one _
      have HXi : Hid ((Try.prog.info? 57).map (·.size) = some (bc bk).toArray.size) := by show _ = _; rw [info_bk, HX1.out]
      have HZ1 : Hid ((bc blank).toArray.size = 129) := bcA_size _
      have hne : ¬ (bc blank).toArray = #[] := fun h => by have := HZ1.out; rw [h] at this; cases this
      obtain ⟨a, b, ca, cb, cv, fv, kv, hA⟩ := h
      obtain ⟨x, c, rfl⟩ := owns_slice hA.acts
      have hOa : O a := (hA.own a (by simp [blocks])).1
      have hOb : O b := (hA.own b (by simp [blocks])).1
      obtain ⟨n1, n2, n3, n4, n5, n6⟩ := nodup_mem hA.nodup
      have hal := (hA.own a (by simp [blocks])).2
      have hbl := (hA.own b (by simp [blocks])).2
      have hxl : ∀ g, x = some g → g.block < w.heap.size := fun g e => (hA.own g.block (by simp [blocks, e, Value.ownBlock])).2
      obtain ⟨n, hnn⟩ : ∃ n, d.sure.length = n := ⟨_, rfl⟩
      have HNN : Hid (d.sure.length = n) := hnn
      have hin2 : (j : Int) < (n : Int) := by rw [← hnn]; omega
      have HA : Hid (DevAt w p d O a b ca cb (.slice x d.acts.length c) fv kv) := hA
      obtain ⟨X, hX⟩ : ∃ X, (bc bk).toArray = X := ⟨_, rfl⟩
      rw [hX] at HBo HX1 HX2 HXi
      have HXX : Hid ((bc bk).toArray = X) := hX
      have HIB : Hid ((Try.prog.info? 57).map (·.size) = some X.size) := HXi.out
      have HXr : Hid (∀ (W : World) (G : Nat), W.heap[G]? = some (.cells X 57 (0, 0)) → W.rangeAt G 0 X.toList) := fun W G hg => range_row hg
      have HIC : Hid ((Try.prog.info? 57).map (·.size) = some X.toList.length) := by show _ = _; rw [HXi.out, Array.length_toList]
      have hfr := Try.func23
      clear hD0 hb hB0 hG0 hW0 e hX hnn hi hfr
      generalize (bc blank).toArray = Z at *
      generalize S s = A at *
      obtain ⟨B, hB⟩ : ∃ B, w.heap.size = B := ⟨_, rfl⟩
      rw [hB] at c0
      have HB : Hid (w.heap.size = B) := hB
      go_enter Try.func23, Try.ntmps23
      go_wp2_with fail
      rw [HW0.out]
      try rw [hB]
      refine Calls.mono hn ?_
      rintro e w1 ⟨rfl, rfl⟩
      go_wp2_with fail
      refine Calls.mono hh ?_
      rintro e w1 ⟨rfl, rfl⟩
      go_wp2_with fail
      refine Calls.mono HBo.out ?_
      rintro e w2 ⟨rfl, b2⟩
      have HB2 : Hid (Below w.heap.size w w2) := HB0.out.trans (b2.mono HB0.out.size)
      have c2 : w2.cell? ⟨B, 0, none⟩ = some (.int .i64 (j : Int)) := by rw [World.cell?_of_block (b2.block B (World.block_lt_of_cell? w1 _ c0))]; exact c0
      have hBl2 : B < w2.heap.size := World.block_lt_of_cell? w2 _ c2
      have HB3 : Hid (Below w.heap.size w (w2.alloc (.cells X 57)).drew) := (HB2.out.alloc HB2.out.size _).drew
      have HS : (w2.alloc (.cells X 57)).drew.cell? ⟨p, 0, none⟩ = some (.slice (some ⟨a, 0, none⟩) n ca) ∧ (w2.alloc (.cells X 57)).drew.cell? ⟨p, 1, none⟩ = some (.slice (some ⟨b, 0, none⟩) n cb) ∧ (w2.alloc (.cells X 57)).drew.cell? ⟨B, 0, none⟩ = some (.int .i64 (j : Int)) ∧ (w2.alloc (.cells X 57)).drew.heap[w2.heap.size]? = some (.cells X 57 (0, 0)) := by
        obtain ⟨q0, q1, -⟩ := (HA.out.below HB3.out).c
        rw [HNN.out] at q0 q1
        refine ⟨q0, q1, ?_, heap_alloc_last _ _⟩
        show (w2.alloc (.cells X 57)).cell? ⟨B, 0, none⟩ = _
        rw [World.cell?_of_block (Below.heap_alloc _ _ _ hBl2)]; exact c2
      clear b2 HBo hn hh c0
      go_wp2_with (refine store_last rfl 57 _ _ rfl 129 _ _ X rfl rfl info_bk HZ1.out HX1.out HX2.out ?_)
      have hGl : w2.heap.size < (w2.alloc (.cells X 57)).drew.heap.size := by show _ < (w2.alloc _).heap.size; simp
      have hGw : w.heap.size ≤ w2.heap.size := HB2.out.size
      generalize w2.heap.size = G at *
      refine wp_region_held (S := fun w' => w'.cell? ⟨p, 0, none⟩ = some (.slice (some ⟨a, 0, none⟩) n ca) ∧ w'.cell? ⟨p, 1, none⟩ = some (.slice (some ⟨b, 0, none⟩) n cb) ∧ w'.cell? ⟨B, 0, none⟩ = some (.int .i64 (j : Int)) ∧ w'.heap[G]? = some (.cells X 57 (0, 0))) (by kernel_rfl) ?_
      change wpAnyH _ _ _ _ _ _ _ _ (World.drew _)
      generalize (w2.alloc (.cells X 57)).drew = W4 at *
      refine wpAnyH_take (i := 0) (v := .pointer (some ⟨p, 0, none⟩)) rfl (by kernel_rfl) (by kernel_rfl) (by kernel_rfl) (fun _ _ _ h => h) (Or.inl ⟨by first | rfl | kernel_rfl, by intro w _; go_simp⟩) HS ?_
      simp only [List.getElem_toArray, List.getElem_cons_succ, List.getElem_cons_zero, Act.put, List.setIfInBounds_toArray, List.set_cons_zero, List.set_cons_succ]
      refine wpAnyH_take (i := 1) (v := .pointer (some ⟨p, 0, none⟩)) rfl (by kernel_rfl) (by kernel_rfl) (by kernel_rfl) (fun _ _ _ h => h) (Or.inl ⟨by first | rfl | kernel_rfl, by intro w _; go_simp⟩) HS ?_
      simp only [List.getElem_toArray, List.getElem_cons_succ, List.getElem_cons_zero, Act.put, List.setIfInBounds_toArray, List.set_cons_zero, List.set_cons_succ]
      refine wpAnyH_take (i := 2) (v := .pointer (some ⟨p, 0, none⟩)) rfl (by kernel_rfl) (by kernel_rfl) (by kernel_rfl) (fun _ _ _ h => h) (Or.inl ⟨by first | rfl | kernel_rfl, by intro w _; go_simp⟩) HS ?_
      simp only [List.getElem_toArray, List.getElem_cons_succ, List.getElem_cons_zero, Act.put, List.setIfInBounds_toArray, List.set_cons_zero, List.set_cons_succ]
      refine wpAnyH_take (i := 3) (v := .slice (some ⟨a, 0, none⟩) n ca) rfl (by kernel_rfl) (by kernel_rfl) (by kernel_rfl) (fun _ _ _ h => h) (Or.inl ⟨by rfl, by intro w hw; have hw : w.cell? ⟨p, 0, none⟩ = some (.slice (some ⟨a, 0, none⟩) n ca) ∧ w.cell? ⟨p, 1, none⟩ = some (.slice (some ⟨b, 0, none⟩) n cb) ∧ w.cell? ⟨B, 0, none⟩ = some (.int .i64 (j : Int)) ∧ w.heap[G]? = some (.cells X 57 (0, 0)) := hw; obtain ⟨hw1, hw2, hw3, hw4⟩ := hw; go_simp⟩) HS ?_
      simp only [List.getElem_toArray, List.getElem_cons_succ, List.getElem_cons_zero, Act.put, List.setIfInBounds_toArray, List.set_cons_zero, List.set_cons_succ]
      refine wpAnyH_take (i := 4) (v := .int .i64 (j : Int)) rfl (by kernel_rfl) (by kernel_rfl) (by kernel_rfl) (fun _ _ _ h => h) (Or.inl ⟨by rfl, by intro w hw; have hw : w.cell? ⟨p, 0, none⟩ = some (.slice (some ⟨a, 0, none⟩) n ca) ∧ w.cell? ⟨p, 1, none⟩ = some (.slice (some ⟨b, 0, none⟩) n cb) ∧ w.cell? ⟨B, 0, none⟩ = some (.int .i64 (j : Int)) ∧ w.heap[G]? = some (.cells X 57 (0, 0)) := hw; obtain ⟨hw1, hw2, hw3, hw4⟩ := hw; go_simp⟩) HS ?_
      simp only [List.getElem_toArray, List.getElem_cons_succ, List.getElem_cons_zero, Act.put, List.setIfInBounds_toArray, List.set_cons_zero, List.set_cons_succ]
      refine wpAnyH_take (i := 5) (v := .pointer (some ⟨p, 0, none⟩)) rfl (by kernel_rfl) (by kernel_rfl) (by kernel_rfl) (fun _ _ _ h => h) (Or.inl ⟨by first | rfl | kernel_rfl, by intro w _; go_simp⟩) HS ?_
      simp only [List.getElem_toArray, List.getElem_cons_succ, List.getElem_cons_zero, Act.put, List.setIfInBounds_toArray, List.set_cons_zero, List.set_cons_succ]
      refine wpAnyH_take (i := 6) (v := .pointer (some ⟨p, 0, none⟩)) rfl (by kernel_rfl) (by kernel_rfl) (by kernel_rfl) (fun _ _ _ h => h) (Or.inl ⟨by first | rfl | kernel_rfl, by intro w _; go_simp⟩) HS ?_
      simp only [List.getElem_toArray, List.getElem_cons_succ, List.getElem_cons_zero, Act.put, List.setIfInBounds_toArray, List.set_cons_zero, List.set_cons_succ]
      refine wpAnyH_take (i := 7) (v := .pointer (some ⟨p, 1, none⟩)) rfl (by kernel_rfl) (by kernel_rfl) (by kernel_rfl) (fun _ _ _ h => h) (Or.inl ⟨by first | rfl | kernel_rfl, by intro w _; go_simp⟩) HS ?_
      simp only [List.getElem_toArray, List.getElem_cons_succ, List.getElem_cons_zero, Act.put, List.setIfInBounds_toArray, List.set_cons_zero, List.set_cons_succ]
      refine wpAnyH_take (i := 8) (v := .slice (some ⟨b, 0, none⟩) n cb) rfl (by kernel_rfl) (by kernel_rfl) (by kernel_rfl) (fun _ _ _ h => h) (Or.inl ⟨by rfl, by intro w hw; have hw : w.cell? ⟨p, 0, none⟩ = some (.slice (some ⟨a, 0, none⟩) n ca) ∧ w.cell? ⟨p, 1, none⟩ = some (.slice (some ⟨b, 0, none⟩) n cb) ∧ w.cell? ⟨B, 0, none⟩ = some (.int .i64 (j : Int)) ∧ w.heap[G]? = some (.cells X 57 (0, 0)) := hw; obtain ⟨hw1, hw2, hw3, hw4⟩ := hw; go_simp⟩) HS ?_
      simp only [List.getElem_toArray, List.getElem_cons_succ, List.getElem_cons_zero, Act.put, List.setIfInBounds_toArray, List.set_cons_zero, List.set_cons_succ]
      refine wpAnyH_take (i := 9) (v := .int .i64 (j : Int)) rfl (by kernel_rfl) (by kernel_rfl) (by kernel_rfl) (fun _ _ _ h => h) (Or.inl ⟨by rfl, by intro w hw; have hw : w.cell? ⟨p, 0, none⟩ = some (.slice (some ⟨a, 0, none⟩) n ca) ∧ w.cell? ⟨p, 1, none⟩ = some (.slice (some ⟨b, 0, none⟩) n cb) ∧ w.cell? ⟨B, 0, none⟩ = some (.int .i64 (j : Int)) ∧ w.heap[G]? = some (.cells X 57 (0, 0)) := hw; obtain ⟨hw1, hw2, hw3, hw4⟩ := hw; go_simp⟩) HS ?_
      simp only [List.getElem_toArray, List.getElem_cons_succ, List.getElem_cons_zero, Act.put, List.setIfInBounds_toArray, List.set_cons_zero, List.set_cons_succ]
      refine wpAnyH_take (i := 10) (v := .agg X) rfl (by kernel_rfl) (by kernel_rfl) (by kernel_rfl) (fun _ _ _ h => h) (yieldsIf_load_mid (by rfl) 57 _ rfl G 0 rfl X.toList _ (fun w h => HXr.out w G h.2.2.2) Try.underlying57 rfl HIC.out) HS ?_
      simp only [List.getElem_toArray, List.getElem_cons_succ, List.getElem_cons_zero, Act.put, List.setIfInBounds_toArray, List.set_cons_zero, List.set_cons_succ]
      refine wpAnyH_take (i := 11) (v := .agg X) rfl (by kernel_rfl) (by kernel_rfl) (by kernel_rfl) (fun _ _ _ h => h) (yieldsIf_load_mid (by rfl) 57 _ rfl G 0 rfl X.toList _ (fun w h => HXr.out w G h.2.2.2) Try.underlying57 rfl HIC.out) HS ?_
      simp only [List.getElem_toArray, List.getElem_cons_succ, List.getElem_cons_zero, Act.put, List.setIfInBounds_toArray, List.set_cons_zero, List.set_cons_succ]
      refine wpAnyH_take (i := 12) (v := .pointer (some ⟨a, j * 129, none⟩)) rfl (by kernel_rfl) (by kernel_rfl) (by kernel_rfl) (fun _ _ _ h => h) (Or.inl ⟨by first | rfl | kernel_rfl, by intro w _; go_simp⟩) HS ?_
      simp only [List.getElem_toArray, List.getElem_cons_succ, List.getElem_cons_zero, Act.put, List.setIfInBounds_toArray, List.set_cons_zero, List.set_cons_succ]
      have D4 : Hid _ := HA.out.below HB3.out
      obtain ⟨cur, new, g1, g2, g3, D5⟩ := D4.out.putSure j hjl bk
      rw [HXX.out] at g2 g3
      have hjl5 : j < (d.sure.set j bk).length := by simpa using hjl
      obtain ⟨cur2, new2, k1, k2, k3, D6⟩ := D5.putTold j hjl5 bk
      rw [HXX.out] at k2 k3
      have HT5 : Hid (Turn O w (W4.setRow a new)) := (Turn.of_below HB3.out).setRow hOa new
      have HT6 : Hid (Turn O w ((W4.setRow a new).setRow b new2)) := HT5.out.setRow hOb new2
      have hBb : B ≠ a ∧ B ≠ b := by have := HB.out; omega
      have hGb : G ≠ a ∧ G ≠ b := by omega
      have HS5 : (W4.setRow a new).cell? ⟨p, 0, none⟩ = some (.slice (some ⟨a, 0, none⟩) n ca) ∧ (W4.setRow a new).cell? ⟨p, 1, none⟩ = some (.slice (some ⟨b, 0, none⟩) n cb) ∧ (W4.setRow a new).cell? ⟨B, 0, none⟩ = some (.int .i64 (j : Int)) ∧ (W4.setRow a new).heap[G]? = some (.cells X 57 (0, 0)) := by
        obtain ⟨q0, q1, -⟩ := D5.c
        simp only [List.length_set] at q0 q1
        rw [HNN.out] at q0 q1
        exact ⟨q0, q1, by rw [World.cell?_of_block (w := W4) (heap_setRow_ne hBb.1)]; exact HS.2.2.1, by rw [heap_setRow_ne hGb.1]; exact HS.2.2.2⟩
      have HS6 : ((W4.setRow a new).setRow b new2).cell? ⟨p, 0, none⟩ = some (.slice (some ⟨a, 0, none⟩) n ca) ∧ ((W4.setRow a new).setRow b new2).cell? ⟨p, 1, none⟩ = some (.slice (some ⟨b, 0, none⟩) n cb) ∧ ((W4.setRow a new).setRow b new2).cell? ⟨B, 0, none⟩ = some (.int .i64 (j : Int)) ∧ ((W4.setRow a new).setRow b new2).heap[G]? = some (.cells X 57 (0, 0)) := by
        obtain ⟨q0, q1, -⟩ := D6.c
        simp only [List.length_set] at q0 q1
        rw [HNN.out] at q0 q1
        exact ⟨q0, q1, by rw [World.cell?_of_block (w := W4.setRow a new) (heap_setRow_ne hBb.2)]; exact HS5.2.2.1, by rw [heap_setRow_ne hGb.2]; exact HS5.2.2.2⟩
      have HD6 : Hid _ := D6
      have G1 : Hid _ := g1
      have G2 : Hid _ := g2
      have G3 : Hid _ := g3
      have J1 : Hid _ := k1
      have J2 : Hid _ := k2
      have J3 : Hid _ := k3
      clear g1 g2 g3 k1 k2 k3 D5 D6 D4
      refine wpAnyH_ready (rs := [13]) (by kernel_rfl) (by simp) (AllReadyH.cons (by simp only [List.getElem?_toArray, List.getElem?_cons_succ, List.getElem?_cons_zero]; rfl) (fun K hK => ?_) AllReadyH.nil)
      refine step_plain rfl (wp_store_midR 57 _ _ rfl a (j * 129) X cur new 57 rfl rfl G1.out G2.out HXi.out HX2.out G3.out ?_)
      refine hK.out _ _ HS5 (fun _ => ?_)
      clear hK K
      try simp only [List.getElem_toArray, List.getElem_cons_succ, List.getElem_cons_zero, Act.put, List.setIfInBounds_toArray, List.set_cons_zero, List.set_cons_succ]
      refine wpAnyH_take (i := 14) (v := .pointer (some ⟨b, j * 129, none⟩)) rfl (by kernel_rfl) (by kernel_rfl) (by kernel_rfl) (fun _ _ _ h => h) (Or.inl ⟨by first | rfl | kernel_rfl, by intro w _; go_simp⟩) HS5 ?_
      simp only [List.getElem_toArray, List.getElem_cons_succ, List.getElem_cons_zero, Act.put, List.setIfInBounds_toArray, List.set_cons_zero, List.set_cons_succ]
      refine wpAnyH_ready (rs := [15]) (by kernel_rfl) (by simp) (AllReadyH.cons (by simp only [List.getElem?_toArray, List.getElem?_cons_succ, List.getElem?_cons_zero]; rfl) (fun K hK => ?_) AllReadyH.nil)
      refine step_plain rfl (wp_store_midR 57 _ _ rfl b (j * 129) X cur2 new2 57 rfl rfl J1.out J2.out HXi.out HX2.out J3.out ?_)
      refine hK.out _ _ HS6 (fun _ => ?_)
      clear hK K
      try simp only [List.getElem_toArray, List.getElem_cons_succ, List.getElem_cons_zero, Act.put, List.setIfInBounds_toArray, List.set_cons_zero, List.set_cons_succ]
      refine wpAnyH_done (by kernel_rfl) ?_ _
      obtain ⟨-, -, cB, -⟩ := HS6
      obtain ⟨-, -, c2', -⟩ := HD6.out.c
      generalize ((W4.setRow a new).setRow b new2) = W6 at *
      have HDe : Hid (Calls Try.prog 41 #[.slice x d.acts.length c, .func (.func 42) #[] #[.pointer (some ⟨B, 0, none⟩)]] W6 fun e w' => e = .returned (.slice x (delA d.acts (j : Int)).length c) ∧ w'.ownsRow 0 79 1 (.slice x (delA d.acts (j : Int)).length c) (delA d.acts (j : Int)).length ((delA d.acts (j : Int)).map acV) ∧ Turn (fun b => ∃ g, x = some g ∧ b = g.block) W6 w') := delete_any HD6.out.acts cB (by omega) (fun g e => by have := hxl g e; have := HB.out; omega)
      clear HS HS5 G1 G2 G3 J1 J2 J3 cB c2 HA hA
      go_wp2_with fail
      refine Calls.mono HDe.out ?_
      rintro e w7 ⟨rfl, o7, t7⟩
      obtain ⟨D8, T8⟩ := HD6.out.delActs o7 t7
      have HR : Hid (Dev (w7.setCell ⟨p, 2, none⟩ (.slice x (delA d.acts (j : Int)).length c)) p { d with sure := d.sure.set j bk, told := d.told.set j bk, acts := delA d.acts (j : Int) } O ∧ Turn O w (w7.setCell ⟨p, 2, none⟩ (.slice x (delA d.acts (j : Int)).length c))) := ⟨⟨_, _, _, _, _, _, _, D8⟩, HT6.out.trans T8 fun _ _ h => h⟩
      have hpn : ∀ k, (∃ g, x = some g ∧ k = g.block) → k ≠ p := fun k ⟨g, e, hk⟩ => by rw [hk]; exact (n4 g.block (by rw [e]; rfl)).1
      have cp7 : w7.cell? ⟨p, 2, none⟩ = some (.slice x d.acts.length c) := by
        rw [World.cell?_of_block (t7.block p (HD6.out.own p (by simp [blocks])).2 (fun e => hpn p e rfl))]; exact c2'
      have fp7 : w7.frozen? ⟨p, 2, none⟩ = false := by
        have e : w7.heap[p]? = W6.heap[p]? := t7.block p (HD6.out.own p (by simp [blocks])).2 (fun e => hpn p e rfl)
        rw [HD6.out.cells] at e
        exact frozen_of_row _ _ _ _ _ e
      clear o7 t7 D8 T8 HDe HD6 c2'
      go_wp2
      go_ret
      exact ⟨rfl, HR.out⟩
  · rw [decide_eq_false hi] at hh
    have e : tamperD d i st s = (2, d) := by unfold tamperD; rw [if_pos hi]
    rw [e]
    have HD : Hid (Dev w p d O) := h
    clear h hD0 hB0 hG0 hW0 e hi
    generalize S s = A at *
    go_enter Try.func23, Try.ntmps23
    go_wp2_with fail
    rw [HW0.out]
    refine Calls.mono hn ?_
    rintro e w1 ⟨rfl, rfl⟩
    go_wp2_with fail
    refine Calls.mono hh ?_
    rintro e w1 ⟨rfl, rfl⟩
    clear hn hh
    go_wp2
    go_ret
    exact ⟨rfl, HD.out.below HB0.out, Turn.of_below HB0.out⟩
end Go.Proofs.Ythlaackalmgfnab
