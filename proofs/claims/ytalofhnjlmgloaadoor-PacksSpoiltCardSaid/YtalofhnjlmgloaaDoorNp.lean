/- A list of texts of a call's own beside lists that came earlier; append to it. -/
import Derived.Test.YtalofhnjlmgloaaDoorNg
import Derived.Laws.MakeOwn
namespace Go.Proofs.YtalofhnjlmgloaaDoor
open Go.RowKit

/-- A list of texts that lies below B. -/
def Old (B : Nat) (w : World) (v : Value) (l : List (List UInt8)) : Prop := TextsAt w v l ∧ (l ≠ [] → ∀ b, v.ownBlock = some b → b < B)
theorem old_of {w : World} {v : Value} {l : List (List UInt8)} (h : TextsAt w v l) : Old w.heap.size w v l := by
  refine ⟨h, fun hne b hb => ?_⟩
  obtain ⟨a, c, rfl, hh⟩ := h
  cases l with
  | nil => exact absurd rfl hne
  | cons x l =>
    obtain ⟨b', o, rfl, hc⟩ := hh 0 x rfl
    have : b' = b := by simpa [Value.ownBlock] using hb
    subst this
    exact World.block_lt_of_cell? w _ hc
theorem Old.keep {B : Nat} {w w' : World} {v : Value} {l : List (List UInt8)} (h : Old B w v l) (hb : Below B w w') : Old B w' v l := by
  refine ⟨?_, h.2⟩
  obtain ⟨⟨a, c, e, hh⟩, h2⟩ := h
  refine ⟨a, c, e, fun i s hi => ?_⟩
  obtain ⟨b, o, rfl, hc⟩ := hh i s hi
  have hlt := h2 (fun h => by rw [h] at hi; simp at hi) b (by rw [e]; rfl)
  exact ⟨b, o, rfl, by rw [World.cell?_of_block (hb.block b hlt)]; exact hc⟩
/-- Lists that came earlier, and one of the call's own. -/
structure Mo (w0 : World) (B : Nat) (ts : List (Value × List (List UInt8))) (v : Value) (M : List (List UInt8)) (w : World) : Prop where
  base : Base w0.heap.size w0
  below : Below w0.heap.size w0 w
  le : w0.heap.size ≤ B
  size : B ≤ w.heap.size
  old : ∀ v l, (v, l) ∈ ts → Old B w v l
  owns : w.ownsRow B 9 1 v M.length (sv M)
section
variable {w0 w w' : World} {B : Nat} {ts : List (Value × List (List UInt8))} {v v' : Value} {M N : List (List UInt8)}
theorem Mo.start (h : Ts w0 ts w) : Mo w0 w.heap.size ts (.slice none 0 0) [] w := ⟨h.base, h.below, h.size, Nat.le_refl _, fun v l hv => old_of (h.texts v l hv), World.ownsRow_nil _ _ _ _⟩
theorem Mo.keep (h : Mo w0 B ts v M w) (hb : Below B w w') (ho : w'.ownsRow B 9 1 v' N.length (sv N)) : Mo w0 B ts v' N w' :=
  ⟨h.base, h.below.trans (hb.mono h.le), h.le, Nat.le_trans h.size hb.size, fun v l hv => (h.old v l hv).keep hb, ho⟩
theorem Mo.next (h : Mo w0 B ts v M w) (hb : Below w.heap.size w w') : Mo w0 B ts v M w' := h.keep (hb.mono h.size) (owns_below h.owns hb)
theorem Mo.drew (h : Mo w0 B ts v M w) : Mo w0 B ts v M w.drew := ⟨h.base, h.below.drew, h.le, h.size, h.old, h.owns⟩
theorem Mo.alloc (h : Mo w0 B ts v M w) (o : Obj) : Mo w0 B ts v M (w.alloc o) := h.next ((Below.refl _ _).alloc (Nat.le_refl _) _)
theorem Mo.grown (h : Mo w0 B ts v M w) (hg : w.grownBy w' v.ownBlock) (ho : w'.ownsRow B 9 1 v' (M.length + N.length) (sv (M ++ N))) : Mo w0 B ts v' (M ++ N) w' :=
  h.keep ((Below.refl _ _).grown hg h.size (fun j hj => (World.ownsRow.lt h.owns j hj).1)) (by rw [List.length_append]; exact ho)
theorem Mo.all (h : Mo w0 B ts v M w) : Ts w0 ((v, M) :: ts) w :=
  (⟨h.base, h.below, fun v l hv => (h.old v l hv).1⟩ : Ts w0 ts w).add (texts_of_owns h.owns).1
end
theorem sv_append (M N : List (List UInt8)) : sv (M ++ N) = sv M ++ sv N := by simp [sv]
theorem append_nothing6 {P : Program} {w : World} (t ty e : TypeId) (i : TypeInfo) (ht : P.underlying t = some (.slice e)) (hi : P.info? e = some i) (a : Addr) (n c c' : Nat) (hn : n ≤ c) :
    (Builtin.append_ #[t, t] ty #[.slice (some a) n c, .slice none 0 c']).run P w = .ok (.slice (some a) n c) w := by
  simp [Builtin.append_, run_underlying ht, sizeOf, typeInfo, hi, Builtin.lenOf, Builtin.firstCells, loadCells, hn, storeCells]
/-- append of texts to a list of one's own. -/
theorem wp_append_texts {op : Oper} {a : Act} {W : World} {K : Act → World → Prop} {Q : Exit → Act → World → Prop} (s y : Operand) (ho : op.op = .call { callee := .builtin .append, args := #[s, y], argTypes := #[23, 23] })
    (B : Nat) (v xv : Value) (M N : List (List UInt8)) (hs : a.eval s = v) (hy : a.eval y = xv) (hown : W.ownsRow B 9 1 v M.length (sv M)) (hN : TextsAt W xv N)
    (hsome : (∃ b o n c, xv = .slice (some ⟨b, o, none⟩) n c) ∨ ∃ ad n c, v = .slice (some ad) n c) (hl : M.length + N.length ≤ 1000000) (hB : B ≤ W.heap.size)
    (h : ∀ v' w', w'.ownsRow B 9 1 v' (M.length + N.length) (sv (M ++ N)) → W.grownBy w' v.ownBlock → (∃ xa xc, v' = .slice xa (M.length + N.length) xc) → K (a.put op.dst v') w') : op.wp Tryd.prog a W K Q := by
  obtain ⟨ia, i1, i2, i3, i4⟩ := info_string
  obtain ⟨xa, xc, e, hh⟩ := hN
  subst e
  cases xa with
  | none =>
    have hk0 : N = [] := by
      cases N with
      | nil => rfl
      | cons z k => obtain ⟨_, _, h, _⟩ := hh 0 z rfl; cases h
    subst hk0
    rcases hsome with ⟨b, o, n, c, e⟩ | ⟨ad, n, c, e⟩
    · simp at e
    · subst e
      obtain ⟨a', c', e'⟩ := owns_slice hown
      have hn : n = M.length := by simp at e'; exact e'.2.1
      subst hn
      have hap := append_nothing6 (P := Tryd.prog) (w := W) 23 op.type 9 ia Tryd.underlying23 i1 ad M.length c xc (owns_cap hown)
      unfold Oper.wp execOp
      simp only [ho, resolve, invoke, builtin, Sem.run_bind, Sem.run_pure, Result.andThen_ok, List.map_toArray, List.map_cons, List.map_nil, hs, hy, List.length_nil, hap]
      exact h _ _ (by simpa using hown) ⟨rfl, rfl, rfl, Nat.le_refl _, fun _ _ _ => rfl⟩ ⟨some ad, c, by simp⟩
  | some ad =>
    refine wp_append_own W s y 23 ho B 9 ia (.string ⟨#[]⟩) 1 16 Tryd.underlying23 i1 i2 i3 i4 rfl (by omega) v M.length (sv M) hs hown ad N.length xc (sv N) hy (by simp [sv]) (fun j u hj => ?_) (fun u hu => ?_) (by simp only [maxLen]; omega) (by omega) hB (fun v' w' r1 r2 _ => h v' w' (by rw [sv_append]; exact r1) r2 (owns_slice r1))
    · unfold sv at hj
      rw [List.getElem?_map] at hj
      cases hkj : N[j]? with
      | none => rw [hkj] at hj; cases hj
      | some n =>
        rw [hkj] at hj
        obtain ⟨b, o, e2, hc⟩ := hh j n hkj
        obtain rfl : ad = ⟨b, o, none⟩ := by simpa using e2
        obtain rfl : Value.string (S n) = u := by simpa using hj
        rw [Addr.add_mid]
        exact hc
    · unfold sv at hu
      simp only [List.mem_map] at hu
      obtain ⟨x, _, rfl⟩ := hu
      rfl
theorem Mo.grow {w0 w w' : World} {B : Nat} {ts : List (Value × List (List UInt8))} {v v' : Value} {M R : List (List UInt8)} (h : Mo w0 B ts v M w) (hg : w.grownBy w' v.ownBlock) (ho : w'.ownsRow B 9 1 v' R.length (sv R)) : Mo w0 B ts v' R w' :=
  h.keep ((Below.refl _ _).grown hg h.size (fun j hj => (World.ownsRow.lt h.owns j hj).1)) ho
/-- The same where a list of one's own lies beside others. -/
theorem wp_append_mo {op : Oper} {a : Act} {W : World} {K : Act → World → Prop} {Q : Exit → Act → World → Prop} (s y : Operand) (ho : op.op = .call { callee := .builtin .append, args := #[s, y], argTypes := #[23, 23] })
    {w0 : World} {B : Nat} {ts : List (Value × List (List UInt8))} {v : Value} {M : List (List UInt8)} (hM : Mo w0 B ts v M W) (xv : Value) (N R : List (List UInt8)) (n : Nat) (hs : a.eval s = v) (hy : a.eval y = xv) (hN : TextsAt W xv N)
    (hsome : (∃ b o n c, xv = .slice (some ⟨b, o, none⟩) n c) ∨ ∃ ad n c, v = .slice (some ad) n c) (hR : M ++ N = R) (hn : R.length = n) (hl : n ≤ 1000000)
    (h : ∀ xa xc w', n ≤ xc → Mo w0 B ts (.slice xa n xc) R w' → K (a.put op.dst (.slice xa n xc)) w') : op.wp Tryd.prog a W K Q := by
  subst hR hn
  rw [List.length_append] at *
  exact wp_append_texts s y ho B v xv M N hs hy hM.owns hN hsome hl hM.size fun v' w' h1 h2 h3 => by
    obtain ⟨xa, xc, rfl⟩ := h3
    exact h xa xc w' (owns_cap h1) (hM.grown h2 h1)
theorem wpList_append_mo {ops : Array Oper} {rest : List Oper} {o : Oper} {a : Act} {W : World} {Q : Exit → Act → World → Prop} (hgd : o.guard = none) (s y : Operand) (ho : o.op = .call { callee := .builtin .append, args := #[s, y], argTypes := #[23, 23] })
    {w0 : World} {B : Nat} {ts : List (Value × List (List UInt8))} {v : Value} {M : List (List UInt8)} (hM : Mo w0 B ts v M W) (xv : Value) (N R : List (List UInt8)) (n : Nat) (hs : a.eval s = v) (hy : a.eval y = xv) (hN : TextsAt W xv N)
    (hsome : (∃ b o n c, xv = .slice (some ⟨b, o, none⟩) n c) ∨ ∃ ad n c, v = .slice (some ad) n c) (hR : M ++ N = R) (hn : R.length = n) (hl : n ≤ 1000000)
    (h : ∀ xa xc w', n ≤ xc → Mo w0 B ts (.slice xa n xc) R w' → wpList Tryd.prog ops Q rest (a.put o.dst (.slice xa n xc)) w') : wpList Tryd.prog ops Q (o :: rest) a W :=
  wpList_plain hgd fun _ hK => wp_append_mo s y ho hM xv N R n hs hy hN hsome hR hn hl fun xa xc w' h1 h2 => hK _ _ (h xa xc w' h1 h2)
/-- make of a list of texts with room. -/
theorem mk_room6 (B K : Nat) (hK : K ≤ 1000000) (w : World) (hB : B ≤ w.heap.size) : ∃ w', (Instr.makeSlice 23 (.int .i64 0) (.int .i64 ((K : Int) + 1))).run Tryd.prog w = .ok (.slice (some ⟨w.heap.size, 0, none⟩) 0 (K + 1)) w' ∧
    w'.ownsRow B 9 1 (.slice (some ⟨w.heap.size, 0, none⟩) 0 (K + 1)) 0 [] ∧ w.grownBy w' none := by
  obtain ⟨ia, i1, i2, i3, i4⟩ := info_string
  exact run_make_own w B 23 9 ia (.string ⟨#[]⟩) 1 Tryd.underlying23 i1 i2 i3 .i64 .i64 (K + 1) (by rw [i4]; omega) (by simp only [maxLen]; omega) hB
end Go.Proofs.YtalofhnjlmgloaaDoor
