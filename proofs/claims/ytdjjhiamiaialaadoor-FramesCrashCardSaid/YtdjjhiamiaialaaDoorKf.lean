/- A device's blocks behind a store; what a crash leaves. -/
import Derived.Test.YtdjjhiamiaialaaDoorKe
namespace Go.Proofs.YtdjjhiamiaialaaDoor
open Go.RowKit

theorem DevAt.putSure {w : World} {p : Nat} {d : Dv} {O : Nat → Prop} {a b ca cb : Nat} {cv fv kv : Value} (h : DevAt w p d O a b ca cb cv fv kv) (i : Nat) (hi : i < d.sure.length) (x : Blk) :
    ∃ cur new : Array Value, w.heap[a]? = some (.cells cur 50 (0, 0)) ∧ i * 129 + (bc x).toArray.size ≤ cur.size ∧ (cur.toList.take (i * 129) ++ (bc x).toArray.toList ++ cur.toList.drop (i * 129 + (bc x).toArray.size)).toArray = new ∧ DevAt (w.setRow a new) p { d with sure := d.sure.set i x } O a b ca cb cv fv kv := by
  obtain ⟨cur, new, h1, h2, h3, h4⟩ := h.sure.put (rc_split d.sure i d.sure[i] (List.getElem?_eq_getElem hi)) (i * 129) (by simp; omega) (mid' := bc x) (by simp)
  obtain ⟨n1, n2, n3, n4, n5, n6⟩ := nodup_mem h.nodup
  have hne : ∀ k, k ≠ a → (w.setRow a new).heap[k]? = w.heap[k]? := fun k hk => heap_setRow_ne hk
  refine ⟨cur, new, h1, h2, h3, { h with cells := ?_, sure := ?_, told := h.told.same (hne b n3.symm), len := by simp [h.len], pos := by simpa using h.pos, small := by simpa using h.small, acts := owns_same h.acts fun k hk => hne k (n4 k hk).2.1, inr := by simpa using h.inr, fail := h.fail.same fun k hk => hne k ?_, own := fun k hk => ⟨(h.own k hk).1, by simpa [World.setRow] using (h.own k hk).2⟩ }⟩
  · rw [hne p n1, h.cells]; simp
  · rw [← rc_set d.sure i x hi] at h4; exact h4
  · rcases hk with hk | hk
    · exact (n5 k hk).2.1
    · exact (n6 k hk).2.1
theorem DevAt.putTold {w : World} {p : Nat} {d : Dv} {O : Nat → Prop} {a b ca cb : Nat} {cv fv kv : Value} (h : DevAt w p d O a b ca cb cv fv kv) (i : Nat) (hi : i < d.sure.length) (x : Blk) :
    ∃ cur new : Array Value, w.heap[b]? = some (.cells cur 50 (0, 0)) ∧ i * 129 + (bc x).toArray.size ≤ cur.size ∧ (cur.toList.take (i * 129) ++ (bc x).toArray.toList ++ cur.toList.drop (i * 129 + (bc x).toArray.size)).toArray = new ∧ DevAt (w.setRow b new) p { d with told := d.told.set i x } O a b ca cb cv fv kv := by
  have hi' : i < d.told.length := by rw [h.len]; exact hi
  obtain ⟨cur, new, h1, h2, h3, h4⟩ := h.told.put (rc_split d.told i d.told[i] (List.getElem?_eq_getElem hi')) (i * 129) (by simp; omega) (mid' := bc x) (by simp)
  obtain ⟨n1, n2, n3, n4, n5, n6⟩ := nodup_mem h.nodup
  have hne : ∀ k, k ≠ b → (w.setRow b new).heap[k]? = w.heap[k]? := fun k hk => heap_setRow_ne hk
  refine ⟨cur, new, h1, h2, h3, { h with cells := ?_, sure := h.sure.same (hne a n3), told := ?_, len := by simp [h.len], acts := owns_same h.acts fun k hk => hne k (n4 k hk).2.2.1, fail := h.fail.same fun k hk => hne k ?_, own := fun k hk => ⟨(h.own k hk).1, by simpa [World.setRow] using (h.own k hk).2⟩ }⟩
  · rw [hne p n2, h.cells]
  · rw [← rc_set d.told i x hi'] at h4; exact h4
  · rcases hk with hk | hk
    · exact (n5 k hk).2.2.1
    · exact (n6 k hk).2.2
theorem DevAt.rangeS {w : World} {p : Nat} {d : Dv} {O : Nat → Prop} {a b ca cb : Nat} {cv fv kv : Value} (h : DevAt w p d O a b ca cb cv fv kv) (i : Nat) (x : Blk) (hx : d.sure[i]? = some x) : w.rangeAt a (i * 129) (bc x).toArray.toList := by
  have hi := (List.getElem?_eq_some_iff.1 hx).1
  exact h.sure.range (rc_split d.sure i x hx) (i * 129) (by simp; omega)
theorem DevAt.rangeT {w : World} {p : Nat} {d : Dv} {O : Nat → Prop} {a b ca cb : Nat} {cv fv kv : Value} (h : DevAt w p d O a b ca cb cv fv kv) (i : Nat) (x : Blk) (hx : d.told[i]? = some x) : w.rangeAt b (i * 129) (bc x).toArray.toList := by
  have hi := (List.getElem?_eq_some_iff.1 hx).1
  exact h.told.range (rc_split d.told i x hx) (i * 129) (by simp; omega)
theorem DevAt.below {w w' : World} {p : Nat} {d : Dv} {O : Nat → Prop} {a b ca cb : Nat} {cv fv kv : Value} (h : DevAt w p d O a b ca cb cv fv kv) (hb : Below w.heap.size w w') : DevAt w' p d O a b ca cb cv fv kv :=
  h.same (fun k hk => hb.block k (h.own k hk).2) hb.size fun _ h => h
theorem DevAt.drew {w : World} {p : Nat} {d : Dv} {O : Nat → Prop} {a b ca cb : Nat} {cv fv kv : Value} (h : DevAt w p d O a b ca cb cv fv kv) : DevAt w.drew p d O a b ca cb cv fv kv :=
  h.same (fun _ _ => rfl) (Nat.le_refl _) fun _ h => h
/-- What is left of blocks, as they surely are and as they are told, behind a crash's first acts. -/
def crashN (s t : List Blk) (acts : List Ac) (k : List Int) : Nat → List Blk × List Blk
  | 0 => (s, t)
  | m + 1 =>
    match acts[m]? with
    | none => crashN s t acts k m
    | some x => ((crashN s t acts k m).1.set x.at_ (keptB ((crashN s t acts k m).1.getD x.at_ blank) x (k.getD m 0)), (crashN s t acts k m).2.set x.at_ (keptB ((crashN s t acts k m).1.getD x.at_ blank) x (k.getD m 0)))
theorem crashN_len (s t : List Blk) (acts : List Ac) (k : List Int) : ∀ m, (crashN s t acts k m).1.length = s.length ∧ (crashN s t acts k m).2.length = t.length
  | 0 => ⟨rfl, rfl⟩
  | m + 1 => by
    obtain ⟨h1, h2⟩ := crashN_len s t acts k m
    unfold crashN
    cases acts[m]? with
    | none => exact ⟨h1, h2⟩
    | some x => simp only [List.length_set]; exact ⟨h1, h2⟩
theorem crashN_succ (s t : List Blk) (acts : List Ac) (k : List Int) (m : Nat) (x : Ac) (h : acts[m]? = some x) (y : Blk) (hy : y = keptB ((crashN s t acts k m).1.getD x.at_ blank) x (k.getD m 0)) :
    crashN s t acts k (m + 1) = ((crashN s t acts k m).1.set x.at_ y, (crashN s t acts k m).2.set x.at_ y) := by
  rw [crashN, h, hy]
/-- A device behind a crash. -/
def crashD (d : Dv) (k : List Int) : Dv := ⟨(crashN d.sure d.told d.acts k d.acts.length).1, (crashN d.sure d.told d.acts k d.acts.length).2, [], false, d.starts, none⟩
/-- In the midst of a crash. -/
structure InCr (w : World) (p : Nat) (d : Dv) (O : Nat → Prop) (a b ca cb : Nat) (cv fv kv : Value) (k : List Int) (m : Nat) (wr : World) : Prop where
  dev : DevAt wr p { d with sure := (crashN d.sure d.told d.acts k m).1, told := (crashN d.sure d.told d.acts k m).2 } O a b ca cb cv fv kv
  turn : Turn (fun i => i = a ∨ i = b) w wr
/-- What is left when its acts, its failure and its running are ended. -/
theorem DevAt.ended {w : World} {p : Nat} {d : Dv} {O : Nat → Prop} {a b ca cb : Nat} {cv fv kv : Value} (h : DevAt w p d O a b ca cb cv fv kv) :
    Dev (((w.setCell ⟨p, 2, none⟩ (.slice none 0 0)).setCell ⟨p, 5, none⟩ (.pointer none)).setCell ⟨p, 3, none⟩ (.bool false)) p { d with acts := [], up := false, fail := none } O := by
  obtain ⟨n1, n2, n3, n4, n5, n6⟩ := nodup_mem h.nodup
  have hne : ∀ k, k ≠ p → (((w.setCell ⟨p, 2, none⟩ (.slice none 0 0)).setCell ⟨p, 5, none⟩ (.pointer none)).setCell ⟨p, 3, none⟩ (.bool false)).heap[k]? = w.heap[k]? := fun k hk => by
    rw [Below.heap_setCell _ _ _ _ hk, Below.heap_setCell _ _ _ _ hk, Below.heap_setCell _ _ _ _ hk]
  refine ⟨a, b, ca, cb, .slice none 0 0, .pointer none, .slice none 0 0, { h with cells := ?_, sure := h.sure.same (hne a n1.symm), told := h.told.same (hne b n2.symm), acts := World.ownsRow_nil _ _ _ _, inr := by simp, fail := ⟨rfl, rfl⟩, left := by simp, nodup := by simp [blocks, Value.ownBlock, ptrB, n1, n2, n3], own := fun k hk => ?_ }⟩
  · rw [heap_set_same (heap_set_same (heap_set_same h.cells))]; rfl
  · simp only [heap_set_size]
    refine h.own k ?_
    simp only [blocks, Value.ownBlock, ptrB, Option.toList, List.append_nil, List.mem_cons, List.not_mem_nil, or_false] at hk ⊢
    rcases hk with hk | hk | hk
    · exact .inl hk
    · exact .inr (.inl hk)
    · exact .inr (.inr (.inl hk))
end Go.Proofs.YtdjjhiamiaialaaDoor
