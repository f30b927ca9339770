/- An act done, plainly and in memory. -/
import Derived.Test.YtdjjhiamiaialaaDoorKg
import Derived.Test.YtdjjhiamiaialaaDoorLa
namespace Go.Proofs.YtdjjhiamiaialaaDoor
open Go.RowKit

/-- What is owned behind a call, the new blocks with it. -/
def grow (O : Nat → Prop) (w w' : World) : Nat → Prop := fun k => O k ∨ (w.heap.size ≤ k ∧ k < w'.heap.size)
/-- An act under way. -/
def actD (d : Dv) (x : Ac) : Dv := { d with acts := d.acts ++ [x], told := d.told.set x.at_ (keptB (d.told.getD x.at_ blank) x 15) }
def keepOf (d : Dv) : List Int :=
  match d.fail with
  | none => []
  | some (_, k) => k
def endD (d : Dv) : Int × Dv := if (failsD d).1 then (43, crashD (failsD d).2 (keepOf (failsD d).2)) else (0, (failsD d).2)
/-- An act done, or failed at. -/
def doD (d : Dv) (x : Ac) : Int × Dv := endD (actD d x)
theorem DevAt.addAct {w w1 : World} {p : Nat} {d : Dv} {O : Nat → Prop} {a b ca cb : Nat} {cv fv kv v' : Value} (h : DevAt w p d O a b ca cb cv fv kv) (x : Ac) (hx : x.at_ < d.sure.length) (o : Obj)
    (h1 : w1.ownsRow 0 78 1 v' (d.acts.length + 1) (d.acts.map acV ++ [acV x])) (h2 : (w.alloc o).grownBy w1 cv.ownBlock) (h3 : ∀ k, v'.ownBlock = some k → cv.ownBlock = some k ∨ (w.alloc o).heap.size ≤ k) :
    DevAt (w1.setCell ⟨p, 2, none⟩ v') p { d with acts := d.acts ++ [x] } (grow O w w1) a b ca cb v' fv kv ∧ Turn O w (w1.setCell ⟨p, 2, none⟩ v') := by
  obtain ⟨n1, n2, n3, n4, n5, n6⟩ := nodup_mem h.nodup
  have hsz : (w.alloc o).heap.size = w.heap.size + 1 := by simp
  have hs1 := h2.size
  have old : ∀ k, k < w.heap.size → some k ≠ cv.ownBlock → w1.heap[k]? = w.heap[k]? := fun k hk hn => by
    rw [h2.block k (by omega) hn, Below.heap_alloc _ _ _ hk]
  have olds : ∀ k, k < w.heap.size → some k ≠ cv.ownBlock → k ≠ p → (w1.setCell ⟨p, 2, none⟩ v').heap[k]? = w.heap[k]? := fun k hk hn hp => by
    rw [Below.heap_setCell _ _ _ _ hp, old k hk hn]
  have hp := h.own p (by simp [blocks])
  have ha := h.own a (by simp [blocks])
  have hb := h.own b (by simp [blocks])
  have cvp : some p ≠ cv.ownBlock := fun e => (n4 p e.symm).1 rfl
  have cva : some a ≠ cv.ownBlock := fun e => (n4 a e.symm).2.1 rfl
  have cvb : some b ≠ cv.ownBlock := fun e => (n4 b e.symm).2.2.1 rfl
  have lt' : ∀ k, v'.ownBlock = some k → k < w1.heap.size := fun k hk => (World.ownsRow.lt h1 k hk).2
  have newne : ∀ k, v'.ownBlock = some k → k ≠ p ∧ k ≠ a ∧ k ≠ b ∧ ptrB fv ≠ some k ∧ kv.ownBlock ≠ some k := fun k hk => by
    rcases h3 k hk with h3 | h3
    · exact n4 k h3
    · refine ⟨by omega, by omega, by omega, fun e => ?_, fun e => ?_⟩
      · have := (h.own k (by simp [blocks, e])).2; omega
      · have := (h.own k (by simp [blocks, e])).2; omega
  refine ⟨{ h with cells := ?_, sure := h.sure.same (olds a ha.2 cva n1.symm), told := h.told.same (olds b hb.2 cvb n2.symm), acts := ?_, inr := ?_, fail := h.fail.same fun k hk => ?_, nodup := ?_, own := ?_ }, ?_⟩
  · have : w1.heap[p]? = some _ := (old p hp.2 cvp).trans h.cells
    rw [heap_set_same this]; rfl
  · have := owns_same (w' := w1.setCell ⟨p, 2, none⟩ v') h1 fun k hk => Below.heap_setCell _ _ _ _ (newne k hk).1
    simpa using this
  · intro y hy
    simp only [List.mem_append, List.mem_singleton] at hy
    rcases hy with hy | rfl
    · exact h.inr y hy
    · exact hx
  · have hl := (h.own k (by rcases hk with hk | hk <;> simp [blocks, hk])).2
    have hkp : k ≠ p := by rcases hk with hk | hk; exact (n5 k hk).1; exact (n6 k hk).1
    refine olds k hl (fun e => ?_) hkp
    rcases hk with hk | hk
    · exact (n4 k e.symm).2.2.2.1 hk
    · exact (n4 k e.symm).2.2.2.2 hk
  · have hn := h.nodup
    simp only [blocks, List.nodup_cons, List.mem_cons, List.mem_append, Option.mem_toList, List.nodup_append, not_or] at hn ⊢
    obtain ⟨⟨h1, h2, h3, h4, h5⟩, ⟨h6, h7, h8, h9⟩, ⟨h10, h11, h12⟩, h13, h14, h17⟩ := hn
    refine ⟨⟨h1, h2, fun e => (newne p e).1 rfl, h4, h5⟩, ⟨h6, fun e => (newne a e).2.1 rfl, h8, h9⟩, ⟨fun e => (newne b e).2.2.1 rfl, h11, h12⟩, ?_, h14, ?_⟩
    · cases v'.ownBlock <;> simp
    · intro k hk j hj e
      subst e
      rcases hj with hj | hj
      · exact (newne k hk).2.2.2.1 hj
      · exact (newne k hk).2.2.2.2 hj
  · intro k hk
    rw [heap_set_size]
    simp only [blocks, List.mem_cons, List.mem_append, Option.mem_toList] at hk
    have stay : k ∈ blocks p a b cv fv kv → grow O w w1 k ∧ k < w1.heap.size := fun hm => ⟨.inl (h.own k hm).1, by have := (h.own k hm).2; omega⟩
    rcases hk with hk | hk | hk | hk | hk | hk
    · exact stay (by simp [blocks, hk])
    · exact stay (by simp [blocks, hk])
    · exact stay (by simp [blocks, hk])
    · rcases h3 k hk with h3 | h3
      · exact stay (by simp [blocks, h3])
      · exact ⟨.inr ⟨by omega, lt' k hk⟩, lt' k hk⟩
    · exact stay (by simp [blocks, hk])
    · exact stay (by simp [blocks, hk])
  · have ht : Turn O w w1 := ⟨h2.os, h2.tape, h2.output, by omega, fun k hk hn => old k hk (fun e => hn (h.own k (by simp [blocks, ← e])).1)⟩
    exact ht.setCell hp.1 _
end Go.Proofs.YtdjjhiamiaialaaDoor
