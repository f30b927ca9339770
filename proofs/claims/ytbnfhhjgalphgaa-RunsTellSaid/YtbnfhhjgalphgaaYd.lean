/- A list of runs of a call's own beside lists that came earlier; append to it. -/
import Derived.Test.YtbnfhhjgalphgaaY0
import Derived.Test.YtbnfhhjgalphgaaLh
import Derived.Test.YtbnfhhjgalphgaaLw
import Derived.Laws.MakeOwn
namespace Go.Proofs.Ytbnfhhjgalphgaa
open Go.RowKit

/-- Runs as cells. -/
def rsv : List Rn → List Value
  | [] => []
  | r :: l => .int .i64 r.s :: .int .i64 r.c :: rsv l
theorem rsv_length : ∀ l : List Rn, (rsv l).length = l.length * 2
  | [] => rfl
  | r :: l => by simp [rsv, rsv_length l]; omega
theorem rsv_append : ∀ l m : List Rn, rsv (l ++ m) = rsv l ++ rsv m
  | [], m => rfl
  | r :: l, m => by simp [rsv, rsv_append l m]
theorem rsv_get : ∀ {l : List Rn} {i : Nat} {r : Rn}, l[i]? = some r → (rsv l)[i * 2]? = some (.int .i64 r.s) ∧ (rsv l)[i * 2 + 1]? = some (.int .i64 r.c)
  | [], i, r, h => by simp at h
  | x :: l, 0, r, h => by
    obtain rfl : x = r := by simpa using h
    exact ⟨rfl, rfl⟩
  | x :: l, i + 1, r, h => by
    have := rsv_get (l := l) (i := i) (r := r) (by simpa using h)
    rw [show (i + 1) * 2 = i * 2 + 1 + 1 by omega]
    exact ⟨by simpa [rsv] using this.1, by simpa [rsv] using this.2⟩
theorem rsv_of {l : List Rn} {j : Nat} {u : Value} (h : (rsv l)[j]? = some u) : ∃ i r, l[i]? = some r ∧ ((j = i * 2 ∧ u = .int .i64 r.s) ∨ (j = i * 2 + 1 ∧ u = .int .i64 r.c)) := by
  have hj := (List.getElem?_eq_some_iff.1 h).1
  rw [rsv_length] at hj
  obtain ⟨r, hr⟩ : ∃ r, l[j / 2]? = some r := ⟨_, List.getElem?_eq_getElem (by omega)⟩
  obtain ⟨g1, g2⟩ := rsv_get hr
  refine ⟨j / 2, r, hr, ?_⟩
  rcases (by omega : j = j / 2 * 2 ∨ j = j / 2 * 2 + 1) with e | e
  · rw [← e, h] at g1; exact .inl ⟨e, Option.some.inj g1⟩
  · rw [← e, h] at g2; exact .inr ⟨e, Option.some.inj g2⟩
theorem rsv_one (l : List Rn) : ∀ u ∈ rsv l, u.oneCell' = true := fun u hu => by
  obtain ⟨j, hj⟩ := List.getElem?_of_mem hu
  obtain ⟨i, r, _, ⟨_, rfl⟩ | ⟨_, rfl⟩⟩ := rsv_of hj <;> rfl
theorem info_run : ∃ i, Try.prog.info? 24 = some i ∧ i.zero = some (.agg #[.int .i64 0, .int .i64 0]) ∧ i.size = 2 ∧ i.bytes = 16 := by
  have h : (Try.prog.info? 24).map (fun i => (i.zero, i.size, i.bytes)) = some (some (.agg #[.int .i64 0, .int .i64 0]), 2, 16) := by kernel_rfl
  cases hq : Try.prog.info? 24 with
  | none => rw [hq] at h; cases h
  | some i =>
    rw [hq] at h
    simp at h
    exact ⟨i, rfl, h.1, h.2.1, h.2.2⟩
theorem runs_of_owns {w : World} {B : Nat} {v : Value} {l : List Rn} (h : w.ownsRow B 24 2 v l.length (rsv l)) : RunsAt w v l ∧ ∀ i, v.ownBlock = some i → B ≤ i ∧ i < w.heap.size := by
  refine ⟨?_, fun i hi => World.ownsRow.lt h i hi⟩
  rcases h.2 with ⟨h1, h2⟩ | ⟨g, cap, cur, h1, _, hg, _, _, _, htk⟩
  · refine ⟨none, 0, by rw [h1, h2], fun i n hi => ?_⟩
    have := (List.getElem?_eq_some_iff.1 hi).1
    omega
  · refine ⟨_, _, h1, fun i r hi => ⟨g, 0, rfl, ?_⟩⟩
    have hl := (List.getElem?_eq_some_iff.1 hi).1
    obtain ⟨g1, g2⟩ := rsv_get hi
    rw [← htk, List.getElem?_take] at g1 g2
    rw [cell_of_row _ _ _ _ _ _ hg, cell_of_row _ _ _ _ _ _ hg, Nat.zero_add, ← Array.getElem?_toList, ← Array.getElem?_toList]
    rw [if_pos (by omega)] at g1 g2
    exact ⟨g1, g2⟩
theorem rowns_slice {w : World} {B : Nat} {e : TypeId} {s n : Nat} {v : Value} {xs : List Value} (h : w.ownsRow B e s v n xs) : ∃ a c, v = .slice a n c ∧ n ≤ c := by
  rcases h.2 with ⟨q1, q2⟩ | ⟨g, cap, cur, q1, _, _, q4, _⟩
  · exact ⟨none, 0, by rw [q1, q2], by omega⟩
  · exact ⟨_, _, q1, q4⟩
theorem rowns_below {w w' : World} {B : Nat} {e : TypeId} {s n : Nat} {v : Value} {xs : List Value} (h : w.ownsRow B e s v n xs) (hb : Below w.heap.size w w') : w'.ownsRow B e s v n xs := by
  refine ⟨h.1, ?_⟩
  rcases h.2 with q | ⟨g, cap, cur, q1, q2, q3, q4⟩
  · exact .inl q
  · exact .inr ⟨g, cap, cur, q1, q2, (hb.block _ (Array.getElem?_eq_some_iff.1 q3).1).trans q3, q4⟩
/-- A list of runs that lies below B. -/
def OldR (B : Nat) (w : World) (v : Value) (l : List Rn) : Prop := RunsAt w v l ∧ (l ≠ [] → ∀ b, v.ownBlock = some b → b < B)
theorem oldR_of {w : World} {v : Value} {l : List Rn} (h : RunsAt w v l) : OldR w.heap.size w v l := by
  refine ⟨h, fun hne b hb => ?_⟩
  obtain ⟨a, c, rfl, hh⟩ := h
  cases l with
  | nil => exact absurd rfl hne
  | cons x l =>
    obtain ⟨b', o, rfl, hc, _⟩ := hh 0 x rfl
    have : b' = b := by simpa [Value.ownBlock] using hb
    subst this
    exact World.block_lt_of_cell? w _ hc
theorem OldR.keep {B : Nat} {w w' : World} {v : Value} {l : List Rn} (h : OldR B w v l) (hb : Below B w w') : OldR B w' v l := by
  refine ⟨?_, h.2⟩
  obtain ⟨⟨a, c, e, hh⟩, h2⟩ := h
  refine ⟨a, c, e, fun i s hi => ?_⟩
  obtain ⟨b, o, rfl, hc, hd⟩ := hh i s hi
  have hlt := h2 (fun h => by rw [h] at hi; simp at hi) b (by rw [e]; rfl)
  exact ⟨b, o, rfl, by rw [World.cell?_of_block (hb.block b hlt)]; exact hc, by rw [World.cell?_of_block (hb.block b hlt)]; exact hd⟩
/-- Lists that came earlier, and one of the call's own. -/
structure Mr (w0 : World) (B : Nat) (ts : List (Value × List Rn)) (v : Value) (M : List Rn) (w : World) : Prop where
  below : Below w0.heap.size w0 w
  le : w0.heap.size ≤ B
  size : B ≤ w.heap.size
  old : ∀ v l, (v, l) ∈ ts → OldR B w v l
  owns : w.ownsRow B 24 2 v M.length (rsv M)
section
variable {w0 w w' : World} {B : Nat} {ts : List (Value × List Rn)} {v v' : Value} {M N R : List Rn}
theorem Mr.start (hb : Below w0.heap.size w0 w) (h : ∀ v l, (v, l) ∈ ts → RunsAt w v l) : Mr w0 w.heap.size ts (.slice none 0 0) [] w := ⟨hb, hb.size, Nat.le_refl _, fun v l hv => oldR_of (h v l hv), World.ownsRow_nil _ _ _ _⟩
theorem Mr.keep (h : Mr w0 B ts v M w) (hb : Below B w w') (ho : w'.ownsRow B 24 2 v' N.length (rsv N)) : Mr w0 B ts v' N w' :=
  ⟨h.below.trans (hb.mono h.le), h.le, Nat.le_trans h.size hb.size, fun v l hv => (h.old v l hv).keep hb, ho⟩
theorem Mr.next (h : Mr w0 B ts v M w) (hb : Below w.heap.size w w') : Mr w0 B ts v M w' := h.keep (hb.mono h.size) (rowns_below h.owns hb)
theorem Mr.drewN (h : Mr w0 B ts v M w) (n : Nat) : Mr w0 B ts v M (w.drewN n) := h.next (below_drewN (Below.refl _ _) n)
theorem Mr.drew (h : Mr w0 B ts v M w) : Mr w0 B ts v M w.drew := h.next (Below.refl _ _).drew
theorem Mr.alloc (h : Mr w0 B ts v M w) (o : Obj) : Mr w0 B ts v M (w.alloc o) := h.next ((Below.refl _ _).alloc (Nat.le_refl _) _)
theorem Mr.grow (h : Mr w0 B ts v M w) (hg : w.grownBy w' v.ownBlock) (ho : w'.ownsRow B 24 2 v' R.length (rsv R)) : Mr w0 B ts v' R w' :=
  h.keep ((Below.refl _ _).grown hg h.size (fun j hj => (World.ownsRow.lt h.owns j hj).1)) ho
theorem Mr.own (h : Mr w0 B ts v M w) : RunsAt w v M := (runs_of_owns h.owns).1
theorem Mr.at_ (h : Mr w0 B ts v M w) {v1 : Value} {l1 : List Rn} (hv : (v1, l1) ∈ ts) : RunsAt w v1 l1 := (h.old _ _ hv).1
end
/-- One run, just made. -/
theorem RunsAt.made (w : World) (s c : Int) : RunsAt (w.alloc (.cells #[.int .i64 s, .int .i64 c] 24)) (.slice (some ⟨w.heap.size, 0, none⟩) 1 1) [⟨s, c⟩] := by
  refine ⟨_, _, rfl, fun i r hi => ?_⟩
  have hi0 : i = 0 := by have := (List.getElem?_eq_some_iff.1 hi).1; simpa using this
  subst hi0
  obtain rfl : (⟨s, c⟩ : Rn) = r := by simpa using hi
  refine ⟨_, _, rfl, ?_, ?_⟩ <;> rw [cell_of_row _ _ _ _ _ _ (heap_alloc_last w _)] <;> rfl
theorem RunsAt.take {w : World} {a : Option Addr} {n c : Nat} {l : List Rn} (h : RunsAt w (.slice a n c) l) (i : Nat) (hi : i ≤ n) : RunsAt w (.slice a i c) (l.take i) := by
  obtain ⟨a', c', e, h⟩ := h
  simp at e
  obtain ⟨rfl, rfl, rfl⟩ := e
  refine ⟨a, c, by rw [List.length_take, Nat.min_eq_left hi], fun j s hj => ?_⟩
  rw [List.getElem?_take] at hj
  split at hj
  · exact h j s hj
  · cases hj
theorem RunsAt.rest {w : World} {b o n c : Nat} {l : List Rn} (h : RunsAt w (.slice (some ⟨b, o, none⟩) n c) l) (i : Nat) (hi : i ≤ n) (hc : n ≤ c) : RunsAt w (.slice (if c = i then some ⟨b, o, none⟩ else some ⟨b, o + i * 2, none⟩) (n - i) (c - i)) (l.drop i) := by
  obtain ⟨a', c', e, h⟩ := h
  simp at e
  obtain ⟨rfl, rfl, rfl⟩ := e
  refine ⟨_, _, by rw [List.length_drop], fun j s hj => ?_⟩
  have hl := (List.getElem?_eq_some_iff.1 hj).1
  rw [List.length_drop] at hl
  rw [List.getElem?_drop] at hj
  obtain ⟨b', o', e', hc, hd⟩ := h (i + j) s hj
  simp at e'
  obtain ⟨rfl, rfl⟩ := e'
  refine ⟨_, o + i * 2, by rw [if_neg (by omega)], ?_, ?_⟩
  · rw [show o + i * 2 + j * 2 = o + (i + j) * 2 by omega]; exact hc
  · rw [show o + i * 2 + j * 2 + 1 = o + (i + j) * 2 + 1 by omega]; exact hd
theorem rappend_nothing {P : Program} {w : World} (t ty e : TypeId) (i : TypeInfo) (ht : P.underlying t = some (.slice e)) (hi : P.info? e = some i) (a : Addr) (n c c' : Nat) (hn : n ≤ c) :
    (Builtin.append_ #[t, t] ty #[.slice (some a) n c, .slice none 0 c']).run P w = .ok (.slice (some a) n c) w := by
  simp [Builtin.append_, run_underlying ht, sizeOf, typeInfo, hi, Builtin.lenOf, Builtin.firstCells, loadCells, hn, storeCells]
/-- append of runs to a list of one's own. -/
theorem wp_append_mr {op : Oper} {a : Act} {W : World} {K : Act → World → Prop} {Q : Exit → Act → World → Prop} (s y : Operand) (ho : op.op = .call { callee := .builtin .append, args := #[s, y], argTypes := #[22, 22] })
    {w0 : World} {B : Nat} {ts : List (Value × List Rn)} {v : Value} {M : List Rn} (hM : Mr w0 B ts v M W) (xv : Value) (N R : List Rn) (n : Nat) (hs : a.eval s = v) (hy : a.eval y = xv) (hN : RunsAt W xv N)
    (hsome : (∃ b o n c, xv = .slice (some ⟨b, o, none⟩) n c) ∨ ∃ ad n c, v = .slice (some ad) n c) (hR : M ++ N = R) (hn : R.length = n) (hl : n ≤ 1000000)
    (h : ∀ xa xc w', n ≤ xc → Mr w0 B ts (.slice xa n xc) R w' → K (a.put op.dst (.slice xa n xc)) w') : op.wp Try.prog a W K Q := by
  subst hR hn
  obtain ⟨ia, i1, i2, i3, i4⟩ := info_run
  obtain ⟨xa, xc, e, hh⟩ := hN
  subst e
  rw [List.length_append] at *
  cases xa with
  | none =>
    have hk0 : N = [] := by
      cases N with
      | nil => rfl
      | cons z k => obtain ⟨_, _, h, _⟩ := hh 0 z rfl; cases h
    subst hk0
    rcases hsome with ⟨b, o, n, c, e⟩ | ⟨ad, n, c, e⟩
    · simp at e
    · subst e
      obtain ⟨a', c', e', hcap⟩ := rowns_slice hM.owns
      have hn : n = M.length ∧ c' = c := by simp at e'; exact ⟨e'.2.1, e'.2.2.symm⟩
      obtain ⟨rfl, rfl⟩ := hn
      have hap := rappend_nothing (P := Try.prog) (w := W) 22 op.type 24 ia Try.underlying22 i1 ad M.length c' xc hcap
      unfold Oper.wp execOp
      simp only [ho, resolve, invoke, builtin, Sem.run_bind, Sem.run_pure, Result.andThen_ok, List.map_toArray, List.map_cons, List.map_nil, hs, hy, List.length_nil, hap]
      exact h _ _ _ (by simpa using hcap) (by simpa using hM)
  | some ad =>
    refine wp_append_own W s y 22 ho B 24 ia (.agg #[.int .i64 0, .int .i64 0]) 2 16 Try.underlying22 i1 i2 i3 i4 rfl (by omega) v M.length (rsv M) hs hM.owns ad N.length xc (rsv N) hy (rsv_length N) (fun j u hj => ?_) (rsv_one N) (by simp only [maxLen]; omega) (by omega) hM.size (fun v' w' r1 r2 _ => ?_)
    · obtain ⟨i, r, hi, hju⟩ := rsv_of hj
      obtain ⟨b, o, e2, hc, hd⟩ := hh i r hi
      obtain rfl : ad = ⟨b, o, none⟩ := by simpa using e2
      rcases hju with ⟨rfl, rfl⟩ | ⟨rfl, rfl⟩
      · rw [Addr.add_mid]; exact hc
      · rw [Addr.add_mid]; exact hd
    · obtain ⟨xa, xc', rfl, hcap⟩ := rowns_slice r1
      exact h xa xc' w' hcap (hM.grow r2 (by rw [rsv_append, List.length_append]; exact r1))
theorem wpList_append_mr {ops : Array Oper} {rest : List Oper} {o : Oper} {a : Act} {W : World} {Q : Exit → Act → World → Prop} (hgd : o.guard = none) (s y : Operand) (ho : o.op = .call { callee := .builtin .append, args := #[s, y], argTypes := #[22, 22] })
    {w0 : World} {B : Nat} {ts : List (Value × List Rn)} {v : Value} {M : List Rn} (hM : Mr w0 B ts v M W) (xv : Value) (N R : List Rn) (n : Nat) (hs : a.eval s = v) (hy : a.eval y = xv) (hN : RunsAt W xv N)
    (hsome : (∃ b o n c, xv = .slice (some ⟨b, o, none⟩) n c) ∨ ∃ ad n c, v = .slice (some ad) n c) (hR : M ++ N = R) (hn : R.length = n) (hl : n ≤ 1000000)
    (h : ∀ xa xc w', n ≤ xc → Mr w0 B ts (.slice xa n xc) R w' → wpList Try.prog ops Q rest (a.put o.dst (.slice xa n xc)) w') : wpList Try.prog ops Q (o :: rest) a W :=
  wpList_plain hgd fun _ hK => wp_append_mr s y ho hM xv N R n hs hy hN hsome hR hn hl fun xa xc w' h1 h2 => hK _ _ (h xa xc w' h1 h2)
end Go.Proofs.Ytbnfhhjgalphgaa
