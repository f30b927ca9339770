/- What a proof leads to (layer 11). -/
import Derived.Test.YtficmbaffkkfhaaDoor11c
namespace Go.Proofs.YtficmbaffkkfhaaDoor
open Go.RowKit Go.Shelf
attribute [local go_sem] Oper.semAt_some

/-- Behind so many parts. -/
def ldV (i : Nat) (x : List UInt8) (P : List (List UInt8)) (pre : List (Nat × Nat)) : List UInt8 := (pre.zip P).foldl (stP i) x
theorem ldV_snoc {i : Nat} {x : List UInt8} {P : List (List UInt8)} {pre : List (Nat × Nat)} (p : Nat × Nat) {q : List UInt8} (h : P[pre.length]? = some q) : ldV i x P (pre ++ [p]) = stP i (ldV i x P pre) (p, q) := by
  have hl := (List.getElem?_eq_some_iff.1 h).1
  have h1 : P = P.take pre.length ++ q :: P.drop (pre.length + 1) := by
    rw [(List.getElem?_eq_some_iff.1 h).2.symm, List.getElem_cons_drop, List.take_append_drop]
  have h2 : (P.take pre.length).length = pre.length := by rw [List.length_take]; omega
  unfold ldV
  have e1 : (pre ++ [p]).zip P = pre.zip (P.take pre.length) ++ [(p, q)] := by
    conv => lhs; rw [h1]
    rw [List.zip_append h2.symm]
    rfl
  have e2 : pre.zip P = pre.zip (P.take pre.length) := by
    conv => lhs; rw [h1]
    have h3 : (pre ++ []).zip (P.take pre.length ++ q :: P.drop (pre.length + 1)) = pre.zip (P.take pre.length) ++ ([] : List (Nat × Nat)).zip (q :: P.drop (pre.length + 1)) := List.zip_append h2.symm
    rw [List.append_nil, List.zip_nil_left, List.append_nil] at h3
    exact h3
  rw [e1, e2, List.foldl_append]
  rfl
theorem st_32 {i : Nat} {h : List UInt8} {p : (Nat × Nat) × List UInt8} : (stP i h p).length = 32 := by
  unfold stP
  split <;> exact shaL_length _
theorem fold_32 {i : Nat} : ∀ (l : List ((Nat × Nat) × List UInt8)) (x : List UInt8), x.length = 32 → (l.foldl (stP i) x).length = 32
  | [], _, h => h
  | _ :: l, _, _ => fold_32 l _ st_32
theorem ldV_32 {i : Nat} {x : List UInt8} {P : List (List UInt8)} {pre : List (Nat × Nat)} (h : x.length = 32) : (ldV i x P pre).length = 32 := fold_32 _ _ h
/-- Between two rounds. -/
structure LdI (w : World) (i n : Nat) (x : List UInt8) (P : List (List UInt8)) (pre : List (Pt n)) (W : World) : Prop where
  le : pre.length ≤ P.length
  bi : Boxed W (w.heap.size + 1) 3 (.int .i64 (i : Int))
  z : W.heap[w.heap.size + 1 + 1]? = some (.cells (hv (padTo 32 [])) 23 (0, 0))
  ok : Boxed W (w.heap.size + 1 + 1 + 1) 4 (.bool false)
  h : W.heap[w.heap.size + 1 + 1 + 1 + 1]? = some (.cells (hv (ldV i x P (pre.map (·.1)))) 23 (0, 0))
  r : ∃ a' c', Boxed W (w.heap.size + 1 + 1 + 1 + 1 + 1) 22 (.slice a' (P.length - pre.length) c') ∧ P.length - pre.length ≤ c' ∧ HsAt w (.slice a' (P.length - pre.length) c') (P.drop pre.length)
  sz : w.heap.size + 8 ≤ W.heap.size
  b : Below w.heap.size w W
theorem LdI.far {w W W' : World} {i n : Nat} {x : List UInt8} {P : List (List UInt8)} {pre : List (Pt n)} (h : LdI w i n x P pre W) (hb : ∀ k, k < w.heap.size + 8 → W'.heap[k]? = W.heap[k]?) (hs : W.heap.size ≤ W'.heap.size) (hB : Below w.heap.size w W') : LdI w i n x P pre W' := by
  obtain ⟨a', c', h1, h2⟩ := h.r
  exact ⟨h.le, (hb _ (by omega)).trans h.bi, (hb _ (by omega)).trans h.z, (hb _ (by omega)).trans h.ok, (hb _ (by omega)).trans h.h, ⟨a', c', (hb _ (by omega)).trans h1, h2⟩, Nat.le_trans h.sz hs, hB⟩
theorem LdI.next {w W W' : World} {i n : Nat} {x : List UInt8} {P : List (List UInt8)} {pre : List (Pt n)} (h : LdI w i n x P pre W) (hb : Below W.heap.size W W') : LdI w i n x P pre W' :=
  h.far (fun k hk => hb.block k (Nat.lt_of_lt_of_le hk h.sz)) hb.size (h.b.trans (hb.mono h.b.size))
theorem LdI.own {w : World} {i n : Nat} {x : List UInt8} {P : List (List UInt8)} : OwnFrom (w.heap.size + 8) (LdI w i n x P) := fun pre X Y row hs hg hr =>
  hs.far (fun k hk => hg.block k (Nat.lt_of_lt_of_le hk hs.sz) (fun e => by have := (hr _ e.symm).1; omega)) hg.size (ownFrom_below (β := Unit) (B := w.heap.size + 8) (Nat.le_refl _) (by omega) () X Y row hs.b hg hr)
/-- Where a round has left: the proof is too short. -/
structure LdX (w : World) (i n : Nat) (P : List (List UInt8)) (c : Code) (W : World) : Prop where
  c : c = .ret
  lt : P.length < (bes i 0 n).length
  z : W.heap[w.heap.size + 1 + 1]? = some (.cells (hv (padTo 32 [])) 23 (0, 0))
  ok : Boxed W (w.heap.size + 1 + 1 + 1) 4 (.bool false)
  sz : w.heap.size + 8 ≤ W.heap.size
  b : Below w.heap.size w W
theorem LdX.own {α : Type} {w : World} {i n : Nat} {P : List (List UInt8)} {c : Code} : OwnFrom (w.heap.size + 8) (fun (_ : α) W => LdX w i n P c W) := fun pre X Y row hs hg hr =>
  have hb : ∀ k, k < w.heap.size + 8 → Y.heap[k]? = X.heap[k]? := fun k hk => hg.block k (Nat.lt_of_lt_of_le hk hs.sz) (fun e => by have := (hr _ e.symm).1; omega)
  ⟨hs.c, hs.lt, (hb _ (by omega)).trans hs.z, (hb _ (by omega)).trans hs.ok, Nat.le_trans hs.sz hg.size, ownFrom_below (β := Unit) (B := w.heap.size + 8) (Nat.le_refl _) (by omega) () X Y row hs.b hg hr⟩
section
variable {F : Fence} {n : Nat}
theorem wpListIn_load_row {ops : Array Oper} {rest : List Oper} {o : Oper} {a : Act} {w : World} {Q : Exit → Act → World → Prop} (hgd : o.guard = none) (ty : TypeId) (x : Operand) (ho : o.op = .load ty x)
    (b k : Nat) (hx : a.eval x = .pointer (some ⟨b, k, none⟩)) (cs : List Value) (d : TypeDesc) (hc : w.rangeAt b k cs)
    (hu : Tryd.prog.underlying ty = some d) (hd : d.isRow = true) (hi : (Tryd.prog.info? ty).map (·.size) = some cs.length)
    (h : wpListIn F n Tryd.prog ops Q rest (a.put o.dst (.agg cs.toArray)) w) : wpListIn F n Tryd.prog ops Q (o :: rest) a w := by
  refine wpListIn_plain hgd fun K hK' => ?_
  unfold Oper.wpIn
  refine ⟨by simp [Oper.about, ho], ?_⟩
  rw [Oper.semAt_plain F _ _ (by rw [ho]; intro c hc'; cases hc')]
  unfold execOp
  simp only [ho, hx, Instr.loadAt, Instr.sureAddr, Sem.run_bind, Sem.run_pure, Result.andThen_ok, run_loadVar_mid w b k ty cs d hc hu hd hi]
  exact hK' _ _ h
theorem wpListIn_store_box {ops : Array Oper} {rest : List Oper} {o : Oper} {a : Act} {w : World} {Q : Exit → Act → World → Prop} (hgd : o.guard = none) (ty : TypeId) (x y : Operand) (ho : o.op = .store ty x y)
    (g : Nat) (cells : Array Value) (hx : a.eval x = .pointer (some ⟨g, 0, none⟩)) (hy : a.eval y = .agg cells)
    (t : TypeId) (old : Array Value) (hg : w.heap[g]? = some (.cells old t (0, 0))) (hi : (Tryd.prog.info? ty).map (·.size) = some cells.size)
    (hold : old.size = cells.size) (h1 : cells.all (·.oneCell') = true)
    (h : wpListIn F n Tryd.prog ops Q rest (a.put o.dst undef) (w.setRow g cells)) : wpListIn F n Tryd.prog ops Q (o :: rest) a w := by
  refine wpListIn_plain hgd fun K hK' => ?_
  unfold Oper.wpIn
  refine ⟨by simp [Oper.about, ho], ?_⟩
  rw [Oper.semAt_plain F _ _ (by rw [ho]; intro c hc'; cases hc')]
  unfold execOp
  simp only [ho, hx, hy, Instr.storeAt, Instr.sureAddr, Sem.run_bind, Sem.run_pure, Result.andThen_ok, run_storeVar_row w g t ty old cells hg hi hold h1]
  exact hK' _ _ h
end
theorem results_cells {P : Program} {fn : Func} {p u : Tmp} {ty tu : TypeId} (h : fn.results = #[.cell p ty, .cell u tu]) (tmps : Array Value) (W : World) (g n b : Nat) (t e : TypeId) (cs : Array Value) (fr : Nat × Nat) (v : Value)
    (hp : tmps.getD p undef = .pointer (some ⟨g, 0, none⟩)) (hg : W.heap[g]? = some (.cells cs t fr)) (hu : P.underlying ty = some (.array n e)) (hi : (P.info? ty).map (·.size) = some n) (hn : cs.size = n)
    (hq : tmps.getD u undef = .pointer (some ⟨b, 0, none⟩)) (hl2 : (loadVar tu ⟨b, 0, none⟩).run P W = .ok v W) :
    (results fn tmps).run P W = .ok (.tuple #[.agg cs, v]) W := by
  have hl := run_loadVar_row (P := P) W g t ty cs fr _ hg hu rfl (by rw [hi, hn])
  have hp' : tmps[p]?.getD undef = .pointer (some ⟨g, 0, none⟩) := by simpa using hp
  have hq' : tmps[u]?.getD undef = .pointer (some ⟨b, 0, none⟩) := by simpa using hq
  simp only [results, h]
  simp [Result.andThen, hp', hq', asAddr, hl, hl2]
theorem load_bool {W : World} {b : Nat} {v : Bool} (h : W.cell? ⟨b, 0, none⟩ = some (.bool v)) : (loadVar 4 ⟨b, 0, none⟩).run Tryd.prog W = .ok (.bool v) W := by
  simp [go_sem, loadVar, h]
/-- Both results are set. -/
theorem led_set {w W : World} {C R : Array Value} {v : Value} (b : Bool) (hB : Below w.heap.size w W) (hz : W.heap[w.heap.size + 1 + 1]? = some (.cells C 23 (0, 0))) (ho : Boxed W (w.heap.size + 1 + 1 + 1) 4 v) :
    ∃ W1 W2, W.setRow (w.heap.size + 1 + 1) R = W1 ∧ W1.cell? ⟨w.heap.size + 1 + 1 + 1, 0, none⟩ = some v ∧ W1.frozen? ⟨w.heap.size + 1 + 1 + 1, 0, none⟩ = false ∧ W1.setCell ⟨w.heap.size + 1 + 1 + 1, 0, none⟩ (.bool b) = W2 ∧
      Hid (W2.heap[w.heap.size + 1 + 1]? = some (.cells R 23 (0, 0)) ∧ Boxed W2 (w.heap.size + 1 + 1 + 1) 4 (.bool b) ∧ Below w.heap.size w W2 ∧ (∀ k, w.heap.size + 8 ≤ k → W2.heap[k]? = W.heap[k]?) ∧ (∀ k, k ≠ w.heap.size + 1 + 1 → k ≠ w.heap.size + 1 + 1 + 1 → W2.heap[k]? = W.heap[k]?) ∧ W2.heap.size = W.heap.size) := by
  have h1 : Boxed (W.setRow (w.heap.size + 1 + 1) R) (w.heap.size + 1 + 1 + 1) 4 v := (heap_setRow_ne (by omega)).trans ho
  have e2 : ∀ k, k ≠ w.heap.size + 1 + 1 + 1 → ((W.setRow (w.heap.size + 1 + 1) R).setCell ⟨w.heap.size + 1 + 1 + 1, 0, none⟩ (.bool b)).heap[k]? = (W.setRow (w.heap.size + 1 + 1) R).heap[k]? := fun k hk => Below.heap_setCell _ _ _ k (fun e => by first | exact hk e | exact hk e.symm)
  refine ⟨_, _, rfl, h1.cell, h1.frozen, rfl, (e2 _ (by omega)).trans (heap_setRow_same hz), h1.set _, (below_setRow hB (by omega) _).setCell (p := ⟨w.heap.size + 1 + 1 + 1, 0, none⟩) (by simp only; omega) _, fun k hk => (e2 k (by omega)).trans (heap_setRow_ne (by omega)), fun k h2 h3 => (e2 k h3).trans (heap_setRow_ne h2), by simp [World.setRow, World.setCell]⟩
set_option maxRecDepth 100000 in
theorem led_end {w W : World} {R : Array Value} {b : Bool} {D : Nat} {tmps : Array Value} (hR : R.size = 32) (hz : W.heap[w.heap.size + 1 + 1]? = some (.cells R 23 (0, 0))) (ho : Boxed W (w.heap.size + 1 + 1 + 1) 4 (.bool b)) (hD : w.heap.size + 8 ≤ D)
    (h8 : tmps.getD 8 undef = .pointer (some ⟨w.heap.size + 1 + 1, 0, none⟩)) (h9 : tmps.getD 9 undef = .pointer (some ⟨w.heap.size + 1 + 1 + 1, 0, none⟩)) :
    (results Tryd.f25 tmps).run Tryd.prog (W.putObj D (.deferred none)) = .ok (.tuple #[.agg R, .bool b]) (W.putObj D (.deferred none)) := by
  have hb2 : Boxed (W.putObj D (.deferred none)) (w.heap.size + 1 + 1 + 1) 4 (.bool b) := (World.putObj_heap_other (by omega)).trans ho
  exact results_cells (p := 8) (u := 9) Tryd.results25 _ _ (w.heap.size + 1 + 1) 32 (w.heap.size + 1 + 1 + 1) 23 5 R (0, 0) (.bool b) h8 ((World.putObj_heap_other (by omega)).trans hz) Tryd.underlying23 info_h32 hR h9 (load_bool hb2.cell)
theorem led_endB {w W : World} {D : Nat} (hB : Below w.heap.size w W) (hD : w.heap.size + 8 ≤ D) (hK : W.heap[D]? = some (.deferred (some []))) : Below w.heap.size w (W.putObj D (.deferred none)) :=
  hB.trans (belowK_b (w := w) (Nat.le_refl _) _ D _ _ (by omega) hK rfl rfl)
set_option maxRecDepth 100000 in
set_option maxHeartbeats 4000000 in
set_option linter.unusedSimpArgs false in
set_option linter.unusedVariables false in
theorem led_wide (N : Nat) (hN : 5 ≤ N) {w : World} {a : Option Addr} {c : Nat} {x : List UInt8} {P : List (List UInt8)} (i n : Nat) (hi : i < n) (hn : n < 9223372036854775808) (hx : x.length = 32) (hK : TabL w) (hP : HsAt w (.slice a P.length c) P) (hc : P.length ≤ c) (hl : P.length ≤ 100000) :
    CallsIn Fence.wide N Tryd.prog 25 #[.agg (hv x), .int .i64 (i : Int), .int .i64 (n : Int), .slice a P.length c] w fun e w' => e = .returned (.tuple #[.agg (hv ((ldH x i n P).getD (padTo 32 []))), .bool (ldH x i n P).isSome]) ∧ Below w.heap.size w w' := by
  obtain ⟨m, hm⟩ : ∃ m, P.length = m := ⟨_, rfl⟩
  rw [hm] at hP hc hl ⊢
  have hxs : (hv x).size = 32 := by rw [hv_size, hx]
  have ic : Hid ((Tryd.prog.info? 23).map (·.size) = some (hv x).toList.length) := by show _ = _; rw [info_h32, Array.length_toList, hxs]
  have hR1 := hv_one x
  have hzs := hz_size
  generalize hXX : hv x = X at *
  obtain ⟨ZZ, hZZ⟩ : ∃ ZZ, hv (padTo 32 []) = ZZ := ⟨_, rfl⟩
  rw [hZZ] at hzs
  obtain ⟨w1, hw1⟩ : ∃ w1, w.alloc (.cells X 23) = w1 := ⟨_, rfl⟩
  have hs1 : w1.heap.size = w.heap.size + 1 := by rw [← hw1, World.size_alloc]
  have b1 : Below w.heap.size w w1 := by rw [← hw1]; exact (Below.refl _ _).alloc (Nat.le_refl _) _
  have n1 : w1.heap[w.heap.size]? = some (.cells X 23 (0, 0)) := by
    have := heap_alloc_last w (.cells X 23)
    rw [hw1] at this
    exact this
  obtain ⟨w2, hw2⟩ : ∃ w2, w1.alloc (.cells #[.int .i64 (i : Int)] 3) = w2 := ⟨_, rfl⟩
  have hs2 : w2.heap.size = w.heap.size + 1 + 1 := by rw [← hw2, World.size_alloc, hs1]
  have b2 : Below w1.heap.size w1 w2 := by rw [← hw2]; exact (Below.refl _ _).alloc (Nat.le_refl _) _
  have n2 : w2.heap[w.heap.size + 1]? = some (.cells #[.int .i64 (i : Int)] 3 (0, 0)) := by
    have := heap_alloc_last w1 (.cells #[.int .i64 (i : Int)] 3)
    rw [hw2, hs1] at this
    exact this
  obtain ⟨w3, hw3⟩ : ∃ w3, w2.alloc (.cells ZZ 23) = w3 := ⟨_, rfl⟩
  have hs3 : w3.heap.size = w.heap.size + 1 + 1 + 1 := by rw [← hw3, World.size_alloc, hs2]
  have b3 : Below w2.heap.size w2 w3 := by rw [← hw3]; exact (Below.refl _ _).alloc (Nat.le_refl _) _
  have n3 : w3.heap[w.heap.size + 1 + 1]? = some (.cells ZZ 23 (0, 0)) := by
    have := heap_alloc_last w2 (.cells ZZ 23)
    rw [hw3, hs2] at this
    exact this
  obtain ⟨w4, hw4⟩ : ∃ w4, w3.alloc (.cells #[.bool false] 4) = w4 := ⟨_, rfl⟩
  have hs4 : w4.heap.size = w.heap.size + 1 + 1 + 1 + 1 := by rw [← hw4, World.size_alloc, hs3]
  have b4 : Below w3.heap.size w3 w4 := by rw [← hw4]; exact (Below.refl _ _).alloc (Nat.le_refl _) _
  have n4 : w4.heap[w.heap.size + 1 + 1 + 1]? = some (.cells #[.bool false] 4 (0, 0)) := by
    have := heap_alloc_last w3 (.cells #[.bool false] 4)
    rw [hw4, hs3] at this
    exact this
  obtain ⟨w5, hw5⟩ : ∃ w5, w4.alloc (.cells ZZ 23) = w5 := ⟨_, rfl⟩
  have hs5 : w5.heap.size = w.heap.size + 1 + 1 + 1 + 1 + 1 := by rw [← hw5, World.size_alloc, hs4]
  have b5 : Below w4.heap.size w4 w5 := by rw [← hw5]; exact (Below.refl _ _).alloc (Nat.le_refl _) _
  have n5 : w5.heap[w.heap.size + 1 + 1 + 1 + 1]? = some (.cells ZZ 23 (0, 0)) := by
    have := heap_alloc_last w4 (.cells ZZ 23)
    rw [hw5, hs4] at this
    exact this
  obtain ⟨w6, hw6⟩ : ∃ w6, w5.alloc (.cells #[.slice none 0 0] 22) = w6 := ⟨_, rfl⟩
  have hs6 : w6.heap.size = w.heap.size + 1 + 1 + 1 + 1 + 1 + 1 := by rw [← hw6, World.size_alloc, hs5]
  have b6 : Below w5.heap.size w5 w6 := by rw [← hw6]; exact (Below.refl _ _).alloc (Nat.le_refl _) _
  have n6 : w6.heap[w.heap.size + 1 + 1 + 1 + 1 + 1]? = some (.cells #[.slice none 0 0] 22 (0, 0)) := by
    have := heap_alloc_last w5 (.cells #[.slice none 0 0] 22)
    rw [hw6, hs5] at this
    exact this
  have k1 : w4.heap[w.heap.size]? = some (.cells X 23 (0, 0)) := (b4.block _ (by omega)).trans ((b3.block _ (by omega)).trans ((b2.block _ (by omega)).trans n1))
  have r4 := range_row k1
  have m5 : w6.heap[w.heap.size + 1 + 1 + 1 + 1]? = some (.cells ZZ 23 (0, 0)) := (b6.block _ (by omega)).trans n5
  have m2 : w6.heap[w.heap.size + 1]? = some (.cells #[.int .i64 (i : Int)] 3 (0, 0)) := (b6.block _ (by omega)).trans ((b5.block _ (by omega)).trans ((b4.block _ (by omega)).trans ((b3.block _ (by omega)).trans n2)))
  have m3 : w6.heap[w.heap.size + 1 + 1]? = some (.cells ZZ 23 (0, 0)) := (b6.block _ (by omega)).trans ((b5.block _ (by omega)).trans ((b4.block _ (by omega)).trans n3))
  have m4 : w6.heap[w.heap.size + 1 + 1 + 1]? = some (.cells #[.bool false] 4 (0, 0)) := (b6.block _ (by omega)).trans ((b5.block _ (by omega)).trans n4)
  have B6 : Below w.heap.size w w6 := b1.trans ((b2.mono (by omega)).trans ((b3.mono (by omega)).trans ((b4.mono (by omega)).trans ((b5.mono (by omega)).trans (b6.mono (by omega))))))
  obtain ⟨w7, hw7⟩ : ∃ w7, w6.setRow (w.heap.size + 1 + 1 + 1 + 1) X = w7 := ⟨_, rfl⟩
  have n7 : w7.heap[w.heap.size + 1 + 1 + 1 + 1]? = some (.cells X 23 (0, 0)) := by rw [← hw7]; exact heap_setRow_same m5
  have e7 : ∀ k, k ≠ w.heap.size + 1 + 1 + 1 + 1 → w7.heap[k]? = w6.heap[k]? := fun k hk => by rw [← hw7]; exact heap_setRow_ne hk
  have B7 : Below w.heap.size w w7 := by rw [← hw7]; exact below_setRow B6 (by omega) _
  have hs7 : w7.heap.size = w.heap.size + 1 + 1 + 1 + 1 + 1 + 1 := by rw [← hw7, ← hs6]; simp [World.setRow]
  have x7 : Boxed w7 (w.heap.size + 1 + 1 + 1 + 1 + 1) 22 (.slice none 0 0) := (e7 _ (by omega)).trans n6
  have c7 := x7.cell
  have f7 := x7.frozen
  obtain ⟨w8, hw8⟩ : ∃ w8, w7.setCell ⟨w.heap.size + 1 + 1 + 1 + 1 + 1, 0, none⟩ (.slice a m c) = w8 := ⟨_, rfl⟩
  have x8 : Boxed w8 (w.heap.size + 1 + 1 + 1 + 1 + 1) 22 (.slice a m c) := by rw [← hw8]; exact x7.set _
  have e8 : ∀ k, k ≠ w.heap.size + 1 + 1 + 1 + 1 + 1 → w8.heap[k]? = w7.heap[k]? := fun k hk => by rw [← hw8]; exact Below.heap_setCell _ _ _ k (fun e => by first | exact hk e | exact hk e.symm)
  have hs8 : w8.heap.size = w.heap.size + 1 + 1 + 1 + 1 + 1 + 1 := by rw [← hw8]; simpa [World.setCell] using hs7
  have B8 : Below w.heap.size w w8 := by rw [← hw8]; exact B7.setCell (p := ⟨w.heap.size + 1 + 1 + 1 + 1 + 1, 0, none⟩) (by simp only; omega) _
  have i8 : Boxed w8 (w.heap.size + 1) 3 (.int .i64 (i : Int)) := (e8 _ (by omega)).trans ((e7 _ (by omega)).trans m2)
  have z8 : w8.heap[w.heap.size + 1 + 1]? = some (.cells ZZ 23 (0, 0)) := (e8 _ (by omega)).trans ((e7 _ (by omega)).trans m3)
  have o8 : Boxed w8 (w.heap.size + 1 + 1 + 1) 4 (.bool false) := (e8 _ (by omega)).trans ((e7 _ (by omega)).trans m4)
  have h8 : w8.heap[w.heap.size + 1 + 1 + 1 + 1]? = some (.cells X 23 (0, 0)) := (e8 _ (by omega)).trans n7
  have ci8 := i8.cell
  obtain ⟨w10, hw10⟩ : ∃ w10, (w8.alloc (.cells #[.int .i64 (i : Int)] 3)).alloc (.cells #[.int .i64 (n : Int)] 3) = w10 := ⟨_, rfl⟩
  have b10 : Below w8.heap.size w8 w10 := by rw [← hw10]; exact ((Below.refl _ _).alloc (Nat.le_refl _) _).alloc (by simp) _
  have hs10 : w10.heap.size = w.heap.size + 8 := by rw [← hw10]; simp [hs8]
  have p1 : Boxed w10 (w8.heap.size) 3 (.int .i64 (i : Int)) := by rw [← hw10]; exact (Boxed.new w8 _ _).alloc _
  have p2 : Boxed w10 (w8.heap.size + 1) 3 (.int .i64 (n : Int)) := by
    rw [← hw10]
    have := Boxed.new (w8.alloc (.cells #[.int .i64 (i : Int)] 3)) 3 (.int .i64 (n : Int))
    rwa [World.size_alloc] at this
  have HSTOP := beside_stops (N - 1) w8.heap.size (w8.heap.size + 1) i n w10 hi hn p1 p2
  have HI0 : Hid (LdI w i n x P [] w10) := ⟨Nat.zero_le _, (b10.block _ (by omega)).trans i8, by rw [hZZ]; exact (b10.block _ (by omega)).trans z8, (b10.block _ (by omega)).trans o8, by rw [show ldV i x P (([] : List (Pt n)).map (·.1)) = x from rfl, hXX]; exact (b10.block _ (by omega)).trans h8, ⟨a, c, by rw [hm]; exact (b10.block _ (by omega)).trans x8, by rw [hm]; exact hc, by rw [hm]; exact hP⟩, by omega, B8.trans (b10.mono (by omega))⟩
  have HW10 : Hid _ := hw10
  have HS : Hid (w10.heap.size = w.heap.size + 8 ∧ P.length = m ∧ m ≤ 100000 ∧ i < n) := ⟨hs10, hm, hl, hi⟩
  have HK : Hid (∀ W, Below w.heap.size w W → TabL W) := fun W h => hK.below h hK.lt
  have HPx : Hid (∀ q ∈ P, q.length = 32) := hP.len
  have HX32 : Hid (x.length = 32) := hx
  rw [hs8] at HSTOP
  rw [zero_h32] at hZZ
  subst hZZ
  clear hK hP hc hi hn hx hw10 b10 hs10 p1 p2 i8 z8 o8 h8 e8 x8 x7 e7 n7 B6 B7 B8 m2 m3 m4 k1 n1 n2 n3 n4 n5 n6 b1 b2 b3 b4 b5 b6 hm
  refine callsIn_of_wp_marks Tryd.func25 rfl trivial ?_ rfl
  simp only [Tryd.ntmps25, List.size_toArray, List.length_cons, List.length_nil, Nat.reduceAdd, Nat.reduceSub, Array.replicate_succ, Array.replicate_zero, List.push_toArray, List.append_toArray, List.nil_append, List.cons_append]
  gi_wp2_with (first | (refine wpListIn_load_row rfl 23 _ rfl w.heap.size 0 rfl X.toList _ r4 Tryd.underlying23 rfl ic.out ?_) | (refine wpListIn_store_box rfl 23 _ _ rfl (w.heap.size + 1 + 1 + 1 + 1) X rfl rfl _ _ m5 (by rw [info_h32, hxs]) (by rw [hzs, hxs]) hR1 ?_) | fail)
  refine ⟨trivial, (fun h => nomatch h), ?_⟩
  refine (beside_in _ _ _ _).mono ?_
  rintro e w' ⟨rfl, rfl⟩
  rw [hs8, HW10.out]
  clear hw1 hw2 hw3 hw4 hw5 hw6 hw7 hw8 hs1 hs2 hs3 hs4 hs5 hs6 hs7 hs8 f7 c7 r4 m5 HW10 ci8 hl
  gi_wp2_with fail
  refine wpIn_rangeFunc_ownH rfl (by omega) (gf := 33) (lb := #[.pointer (some ⟨w.heap.size + 1 + 1 + 1 + 1 + 1 + 1, 0, none⟩), .pointer (some ⟨w.heap.size + 1 + 1 + 1 + 1 + 1 + 1 + 1, 0, none⟩)]) rfl trivial (enters_of Tryd.func33 (by kernel_rfl) rfl)
    HSTOP KeepP.t KeepP.b (Below.refl _ _) (fun _ => rfl)
    (LdI w i n x P) (fun c _ W => LdX w i n P c W) (by rw [HS.out.1]; exact LdI.own) (fun c => by rw [HS.out.1]; exact LdX.own) HI0.out
    (fun y => AxP w10.heap.size (ptC y.1.1 y.1.2) (fun q => { tmps := #[.agg X, .int .i64 (i : Int), .int .i64 (n : Int), .slice a m c, .pointer (some ⟨w.heap.size, 0, none⟩), .pointer (some ⟨w.heap.size + 1, 0, none⟩), undef, undef, .pointer (some ⟨w.heap.size + 1 + 1, 0, none⟩), .pointer (some ⟨w.heap.size + 1 + 1 + 1, 0, none⟩), .pointer (some ⟨w.heap.size + 1 + 1 + 1 + 1, 0, none⟩), .pointer (some ⟨w.heap.size + 1 + 1 + 1 + 1 + 1, 0, none⟩), q, .agg X, .slice a m c, .int .i64 (i : Int), .int .i64 (n : Int), .func (.func 33) #[] #[.pointer (some ⟨w.heap.size + 1 + 1 + 1 + 1 + 1 + 1, 0, none⟩), .pointer (some ⟨w.heap.size + 1 + 1 + 1 + 1 + 1 + 1 + 1, 0, none⟩)], .agg (ptC y.1.1 y.1.2), undef, undef, undef, undef, undef, undef, undef, undef, undef, undef, undef, undef, undef, undef, undef, undef, undef, undef, undef, undef, undef, undef, undef, undef, undef], defers := [] }))
    (fun _ _ => axP_own) ?assign ?body ?done ?stop
  case assign =>
    rintro l pre y W K hI hK
    have HI : Hid (LdI w i n x P pre W) := hI
    dsimp only [ptV, ptC] at hK ⊢
    clear hI
    gi_wp2_with fail
    have hb : Below W.heap.size W (W.alloc (.cells #[.int .i64 (y.1.1 : Int), .int .i64 (y.1.2 : Int)] 55)) := (Below.refl _ _).alloc (Nat.le_refl _) _
    have hr : Rn w10.heap.size w.heap.size W _ := .new hb HI.out.b.size
    exact hK _ _ hr.k hr.p (HI.out.next hb) ⟨W.heap.size, ⟨heap_alloc_last W _, by rw [HS.out.1]; exact HI.out.sz⟩, rfl⟩
  case body =>
    rintro l pre y a' W hl hr hI ⟨g, ⟨hg1, hg2⟩, rfl⟩ hlt
    obtain ⟨a', c', hb, hcc, hA⟩ := hI.r
    have hle := hI.le
    obtain ⟨d, hd⟩ : ∃ d, P.length - pre.length = d := ⟨_, rfl⟩
    rw [hd] at hb hcc hA
    have hvc := hb.cell
    have hci := hI.bi.cell
    have HI : Hid _ := hI
    have HB : Hid (Boxed W (w.heap.size + 1 + 1 + 1 + 1 + 1) 22 (.slice a' d c')) := hb
    have hg8 : w.heap.size + 8 ≤ g := by rw [← HS.out.1]; exact hg2
    have hZs := hz_size
    have hZ1 := hv_one (padTo 32 [])
    have hz0 := hI.z
    by_cases hdz : d = 0
    · subst hdz
      have HL : Hid (P.length < (bes i 0 n).length) := by show _ < _; omega
      obtain ⟨W1, W2, hW1, hc1, hf1, hW2, HF⟩ := led_set (R := hv (padTo 32 [])) false hI.b hI.z hI.ok
      rw [zero_h32] at hZ1 hZs hW1 hz0
      generalize pre ++ [y] = z at *
      generalize y.1.2 = e at *
      generalize y.1.1 = s at *
      clear hI hA hcc hlt hle hd hr hl hb hg1 hg2
      gi_wp2_with (first | (refine wpListIn_store_box rfl 23 _ _ rfl (w.heap.size + 1 + 1) #[.int .u8 0, .int .u8 0, .int .u8 0, .int .u8 0, .int .u8 0, .int .u8 0, .int .u8 0, .int .u8 0, .int .u8 0, .int .u8 0, .int .u8 0, .int .u8 0, .int .u8 0, .int .u8 0, .int .u8 0, .int .u8 0, .int .u8 0, .int .u8 0, .int .u8 0, .int .u8 0, .int .u8 0, .int .u8 0, .int .u8 0, .int .u8 0, .int .u8 0, .int .u8 0, .int .u8 0, .int .u8 0, .int .u8 0, .int .u8 0, .int .u8 0, .int .u8 0] rfl rfl _ _ hz0 (by rw [info_h32, hZs]) (by rw [hZs]) hZ1 ?_) | fail)
      exact ⟨⟨Nat.le_of_eq HF.out.2.2.2.2.2.symm, fun k o hk h0 _ => (HF.out.2.2.2.1 k (by have := HS.out.1; omega)).trans h0⟩, rfl, HL.out, HF.out.1, HF.out.2.1, by rw [HF.out.2.2.2.2.2]; exact HI.out.sz, HF.out.2.2.1⟩
    · obtain ⟨q, hq⟩ : ∃ q, P[pre.length]? = some q := ⟨_, List.getElem?_eq_getElem (by omega)⟩
      have hq32 : q.length = 32 := HPx.out q (List.mem_of_getElem? hq)
      have hq0 : (P.drop pre.length)[0]? = some q := by rw [List.getElem?_drop, Nat.add_zero]; exact hq
      obtain ⟨-, b1, o1, rfl, -⟩ := hA.cells.2 0 q hq0
      have HRq : Hid (∀ Z, Below w.heap.size w Z → Z.rangeAt b1 o1 (hv q).toList) := fun Z hZ => by
        obtain ⟨-, b', o', e, hr⟩ := hA.cells.2 0 q hq0
        simp at e
        obtain ⟨rfl, rfl⟩ := e
        have := hr Z hZ
        rwa [Nat.zero_mul, Nat.add_zero] at this
      have HA1 : Hid (HsAt w (.slice (if c' = 1 then some ⟨b1, o1, none⟩ else some ⟨b1, o1 + 1 * 32, none⟩) (P.length - (pre.length + 1)) (c' - 1)) (P.drop (pre.length + 1))) := by
        have h6 := hA.rest 1 (by omega) hcc
        rw [List.drop_drop] at h6
        rwa [show P.length - (pre.length + 1) = d - 1 by omega]
      obtain ⟨Lq, hLq⟩ : ∃ Lq, pre.map (·.1) = Lq := ⟨_, rfl⟩
      have hLl : Lq.length = pre.length := by rw [← hLq, List.length_map]
      have hsn := ldV_snoc (i := i) (x := x) (P := P) (pre := Lq) y.1 (by rw [hLl]; exact hq)
      have hV32 : (ldV i x P Lq).length = 32 := ldV_32 HX32.out
      have hh := hI.h
      rw [hLq] at hh
      have HZm : Hid ((pre ++ [y]).map (·.1) = Lq ++ [y.1] ∧ (pre ++ [y]).length = pre.length + 1 ∧ pre.length + 1 ≤ P.length) := ⟨by rw [List.map_append, hLq]; rfl, by rw [List.length_append, List.length_singleton], by omega⟩
      obtain ⟨Vl, hVl⟩ : ∃ Vl, ldV i x P Lq = Vl := ⟨_, rfl⟩
      rw [hVl] at hV32 hh hsn
      have hVs : (hv Vl).size = 32 := by rw [hv_size, hV32]
      have hqs : (hv q).size = 32 := by rw [hv_size, hq32]
      have icV : Hid ((Tryd.prog.info? 23).map (·.size) = some (hv Vl).toList.length) := by show _ = _; rw [info_h32, Array.length_toList, hVs]
      have icq : Hid ((Tryd.prog.info? 23).map (·.size) = some (hv q).toList.length) := by show _ = _; rw [info_h32, Array.length_toList, hqs]
      have HD1 : Hid (∀ v' : Value, ∀ Z, Below W.heap.size W Z → ∀ U, U = hv (stP i Vl (y.1, q)) → ∀ Z1, Z.setRow (w.heap.size + 1 + 1 + 1 + 1) U = Z1 → ∀ Z2, Z1.setCell ⟨w.heap.size + 1 + 1 + 1 + 1 + 1, 0, none⟩ (.slice (if c' = 1 then some ⟨b1, o1, none⟩ else some ⟨b1, o1 + 1 * 32, none⟩) (d - 1) (c' - 1)) = Z2 → Rn w10.heap.size w.heap.size W Z2 ∧ LdI w i n x P (pre ++ [y]) Z2) := by
        rintro - Z hZ U rfl Z1 hZ1 Z2 hZ2
        have hBZ := hI.b.trans (hZ.mono hI.b.size)
        have hsz := hI.sz
        have e1 : ∀ k, k ≠ w.heap.size + 1 + 1 + 1 + 1 → Z1.heap[k]? = Z.heap[k]? := fun k hk => by rw [← hZ1]; exact heap_setRow_ne hk
        have e2 : ∀ k, k ≠ w.heap.size + 1 + 1 + 1 + 1 + 1 → Z2.heap[k]? = Z1.heap[k]? := fun k hk => by rw [← hZ2]; exact Below.heap_setCell _ _ _ k (fun e => by first | exact hk e | exact hk e.symm)
        have hhZ := (hZ.block _ (show w.heap.size + 1 + 1 + 1 + 1 < W.heap.size by omega)).trans hh
        have hh1 : Z1.heap[w.heap.size + 1 + 1 + 1 + 1]? = some (.cells (hv (stP i Vl (y.1, q))) 23 (0, 0)) := by rw [← hZ1]; exact heap_setRow_same hhZ
        have hb1 : Boxed Z1 (w.heap.size + 1 + 1 + 1 + 1 + 1) 22 (.slice (some ⟨b1, o1, none⟩) d c') := (e1 _ (by omega)).trans ((hZ.block _ (by omega)).trans HB.out)
        have r1 : Rn w10.heap.size w.heap.size W Z := .new hZ hI.b.size
        have s1 : Z1.heap.size = Z.heap.size := by rw [← hZ1]; simp [World.setRow]
        have g1 : Z.grownBy Z1 (some (w.heap.size + 1 + 1 + 1 + 1)) := ⟨by rw [← hZ1]; rfl, by rw [← hZ1]; rfl, by rw [← hZ1]; rfl, by omega, fun k _ hk => e1 k (fun e => hk (by rw [e]))⟩
        have r2 : Rn w10.heap.size w.heap.size Z Z1 := .turn g1 hhZ (by decide) (by omega)
        have r3 : Rn w10.heap.size w.heap.size Z1 Z2 := by rw [← hZ2]; exact .turn (grownBy_setCell' Z1 _ _) hb1 (by decide) (by omega)
        have far : ∀ k, k < w.heap.size + 8 → k ≠ w.heap.size + 1 + 1 + 1 + 1 → k ≠ w.heap.size + 1 + 1 + 1 + 1 + 1 → Z2.heap[k]? = W.heap[k]? := fun k h1 h2 h3 => (e2 k h3).trans ((e1 k h2).trans (hZ.block k (by omega)))
        have hR := r1.t (r2.t r3)
        refine ⟨hR, by rw [HZm.out.2.1]; exact HZm.out.2.2, (far _ (by omega) (by omega) (by omega)).trans hI.bi, (far _ (by omega) (by omega) (by omega)).trans hI.z, (far _ (by omega) (by omega) (by omega)).trans hI.ok, ?_, ?_, Nat.le_trans hsz hR.b.size, hI.b.trans hR.b⟩
        · rw [HZm.out.1, hsn]
          exact (e2 _ (by omega)).trans hh1
        · refine ⟨_, _, ?_, ?_, by rw [HZm.out.2.1]; exact HA1.out⟩
          · rw [HZm.out.2.1, show P.length - (pre.length + 1) = d - 1 by omega, ← hZ2]
            exact hb1.set _
          · rw [HZm.out.2.1]; omega
      have hc0 : W.cell? ⟨g, 0, none⟩ = some (.int .i64 (y.1.1 : Int)) := by rw [cell_of_row _ _ _ _ _ _ hg1]; rfl
      have HVl : Hid (∀ Z, Below W.heap.size W Z → Z.heap[w.heap.size + 1 + 1 + 1 + 1]? = some (.cells (hv Vl) 23 (0, 0)) ∧ Z.cell? ⟨w.heap.size + 1 + 1 + 1 + 1 + 1, 0, none⟩ = some (.slice (some ⟨b1, o1, none⟩) d c') ∧ Z.rangeAt b1 o1 (hv q).toList ∧ TabL Z) := fun Z hZ => by
        have hBZ := hI.b.trans (hZ.mono hI.b.size)
        have hsz := hI.sz
        exact ⟨(hZ.block _ (by omega)).trans hh, (HB.out.kept (grown_new hZ) (by simp)).cell, HRq.out Z hBZ, HK.out Z hBZ⟩
      have HNl : Hid (∀ Z, Below W.heap.size W Z → i < y.1.1 → Calls Tryd.prog 18 #[.agg (hv Vl), .agg (hv q)] Z fun e w' => e = .returned (.agg (hv (stP i Vl (y.1, q)))) ∧ Below Z.heap.size Z w') := fun Z hZ hlt => by
        rw [stP, if_pos hlt]
        exact node_any _ _ Z (HVl.out Z hZ).2.2.2 hV32 hq32
      have HNr : Hid (∀ Z, Below W.heap.size W Z → ¬ i < y.1.1 → Calls Tryd.prog 18 #[.agg (hv q), .agg (hv Vl)] Z fun e w' => e = .returned (.agg (hv (stP i Vl (y.1, q)))) ∧ Below Z.heap.size Z w') := fun Z hZ hlt => by
        rw [stP, if_neg hlt]
        exact node_any _ _ Z (HVl.out Z hZ).2.2.2 hq32 hV32
      have hU32 : (hv (stP i Vl (y.1, q))).size = 32 := by rw [hv_size]; exact st_32
      have hU1 := hv_one (stP i Vl (y.1, q))
      have hBl0 : Hid (Below W.heap.size W W.drew) := (Below.refl _ _).drew
      have HSZ : Hid (w.heap.size + 8 ≤ W.heap.size) := hI.sz
      have hdne : ((d : Int) == 0) = false := by rw [beq_eq_false_iff_ne]; omega
      have hc1 : (1 : Int) ≤ (d : Int) := by omega
      have hc2 : (d : Int) ≤ (c' : Int) := by omega
      have hc3 : (1 : Int) ≤ (c' : Int) := by omega
      have hc4 : (0 : Int) < (d : Int) := by omega
      have HBw : Hid (Below w.heap.size w W) := hI.b
      generalize hv (stP i Vl (y.1, q)) = U at *
      generalize hv Vl = V at *
      generalize hv q = R at *
      by_cases hlt2 : i < y.1.1
      · have hli : (i : Int) < (y.1.1 : Int) := by omega
        have HNx : Hid (∀ Z, Below W.heap.size W Z → Calls Tryd.prog 18 #[.agg V, .agg R] Z fun e w' => e = .returned (.agg U) ∧ Below Z.heap.size Z w') := fun Z hZ => HNl.out Z hZ hlt2
        clear hI hA hcc hlt hle hd hr hl hb hg1 hg2 HNl HNr hlt2 hq hq32 hq0 HA1 hLq hLl hsn hV32 hh HZm hVl hz0 hZ1 hZs hg8
        generalize pre ++ [y] = z at *
        generalize y.1.2 = e at *
        generalize y.1.1 = s at *
        gi_wp2_with fail
        refine wpIn_region_round (S := fun Z => Z.cell? ⟨w.heap.size + 1 + 1 + 1 + 1 + 1, 0, none⟩ = some (.slice (some ⟨b1, o1, none⟩) d c') ∧ Z.rangeAt b1 o1 R.toList) (by kernel_rfl) (by kernel_rfl) (by rintro ⟨a, w, h⟩; exact h) ?_
        change wpAnyH _ _ _ _ _ _ _ _ (World.drew _)
        have hY : Below W.heap.size W W.drew := hBl0.out
        generalize World.drew _ = y0 at *
        have HX := And.intro (HVl.out _ hY).2.1 (HVl.out _ hY).2.2.1
        refine wpAnyH_take (i := 1) (v := .slice (some ⟨b1, o1, none⟩) d c') rfl (by kernel_rfl) (by kernel_rfl) (by kernel_rfl) (fun _ _ _ h => h) (Or.inl ⟨by rfl, by intro w9 h9; have c9 := h9.1; go_simp⟩) HX ?_
        simp only [List.getElem_toArray, List.getElem_cons_succ, List.getElem_cons_zero, Act.put, List.setIfInBounds_toArray, List.set_cons_zero, List.set_cons_succ]
        refine wpAnyH_take (i := 2) (v := .pointer (some ⟨b1, o1, none⟩)) rfl (by kernel_rfl) (by kernel_rfl) (by kernel_rfl) (fun _ _ _ h => h) (Or.inl ⟨by rfl, by intro w9 _; go_simp⟩) HX ?_
        simp only [List.getElem_toArray, List.getElem_cons_succ, List.getElem_cons_zero, Act.put, List.setIfInBounds_toArray, List.set_cons_zero, List.set_cons_succ]
        refine wpAnyH_take (i := 3) (v := .agg R) rfl (by kernel_rfl) (by kernel_rfl) (by kernel_rfl) (fun _ _ _ h => h) (yieldsIf_load_mid (by rfl) 23 _ rfl b1 o1 rfl R.toList _ (fun w' h => h.2) Tryd.underlying23 rfl icq.out) HX ?_
        simp only [List.getElem_toArray, List.getElem_cons_succ, List.getElem_cons_zero, Act.put, List.setIfInBounds_toArray, List.set_cons_zero, List.set_cons_succ]
        refine wpAnyH_ready (rs := [0]) (by kernel_rfl) (by simp) (AllReadyH.cons (by simp only [List.getElem?_toArray, List.getElem?_cons_succ, List.getElem?_cons_zero]; rfl) (fun K hK => ?_) AllReadyH.nil)
        refine step_want (by rfl) ?_
        refine wp_load_mid 23 _ rfl (w.heap.size + 1 + 1 + 1 + 1) 0 rfl V.toList _ (range_row (HVl.out _ hY).1) Tryd.underlying23 rfl icV.out ?_
        refine hK.out _ _ HX (fun _ => ?_)
        clear hK K
        try simp only [List.getElem_toArray, List.getElem_cons_succ, List.getElem_cons_zero, Act.put, List.setIfInBounds_toArray, List.set_cons_zero, List.set_cons_succ]
        refine wpAnyH_ready (rs := [4]) (by kernel_rfl) (by simp) (AllReadyH.cons (by simp only [List.getElem?_toArray, List.getElem?_cons_succ, List.getElem?_cons_zero]; rfl) (fun K hK => ?_) AllReadyH.nil)
        refine step_want (by rfl) ?_
        go_simp
        refine (HNx.out _ hY).mono ?_
        rintro e' y1 ⟨rfl, bc⟩
        have hY : Below W.heap.size W y1 := hY.trans (bc.mono hY.size)
        have HX := And.intro (HVl.out _ hY).2.1 (HVl.out _ hY).2.2.1
        clear bc
        refine hK.out _ _ HX (fun _ => ?_)
        clear hK K
        try simp only [List.getElem_toArray, List.getElem_cons_succ, List.getElem_cons_zero, Act.put, List.setIfInBounds_toArray, List.set_cons_zero, List.set_cons_succ]
        refine wpAnyH_ready (rs := [5]) (by kernel_rfl) (by simp) (AllReadyH.cons (by simp only [List.getElem?_toArray, List.getElem?_cons_succ, List.getElem?_cons_zero]; rfl) (fun K hK => ?_) AllReadyH.nil)
        refine step_want (by rfl) ?_
        refine wp_store_row 23 _ _ rfl (w.heap.size + 1 + 1 + 1 + 1) U rfl rfl _ _ (HVl.out _ hY).1 (by rw [info_h32, hU32]) (by rw [hVs, hU32]) hU1 ?_
        obtain ⟨y2, hy2⟩ : ∃ y2, y1.setRow (w.heap.size + 1 + 1 + 1 + 1) U = y2 := ⟨_, rfl⟩
        have hB2 : Boxed y2 (w.heap.size + 1 + 1 + 1 + 1 + 1) 22 (.slice (some ⟨b1, o1, none⟩) d c') := by
          have hb5 : Boxed y1 (w.heap.size + 1 + 1 + 1 + 1 + 1) 22 (.slice (some ⟨b1, o1, none⟩) d c') := (hY.block _ (by have := HSZ.out; omega)).trans HB.out
          rw [← hy2]
          exact (heap_setRow_ne (by omega)).trans hb5
        have HY2 : Hid (y1.setRow (w.heap.size + 1 + 1 + 1 + 1) U = y2 ∧ Below W.heap.size W y1) := ⟨hy2, hY⟩
        have hr2 : y2.rangeAt b1 o1 R.toList := HRq.out _ (by rw [← hy2]; exact below_setRow (HBw.out.trans (hY.mono HBw.out.size)) (by omega) _)
        have HX := And.intro hB2.cell hr2
        have hf2 := hB2.frozen
        rw [hy2]
        clear hy2 hB2 hr2
        refine hK.out _ _ HX (fun _ => ?_)
        clear hK K
        try simp only [List.getElem_toArray, List.getElem_cons_succ, List.getElem_cons_zero, Act.put, List.setIfInBounds_toArray, List.set_cons_zero, List.set_cons_succ]
        refine wpAnyH_done (by kernel_rfl) ?_ _
        have hc5 := HX.1
        clear HX hY
        gi_wp2_with fail
        all_goals first
          | (have hc7 : c' = 1 := by assumption
             have hF := HD1.out (.bool true) y1 HY2.out.2 U rfl y2 HY2.out.1 _ rfl
             rw [if_pos hc7, hc7] at hF
             exact ⟨hF.1.k, hF.1.p, hF.2⟩)
          | (have hc7 : ¬ c' = 1 := by first | assumption | omega
             have hF := HD1.out (.bool true) y1 HY2.out.2 U rfl y2 HY2.out.1 _ rfl
             rw [if_neg hc7] at hF
             exact ⟨hF.1.k, hF.1.p, hF.2⟩)
      · have hli : ¬ (i : Int) < (y.1.1 : Int) := by omega
        have HNx : Hid (∀ Z, Below W.heap.size W Z → Calls Tryd.prog 18 #[.agg R, .agg V] Z fun e w' => e = .returned (.agg U) ∧ Below Z.heap.size Z w') := fun Z hZ => HNr.out Z hZ hlt2
        clear hI hA hcc hlt hle hd hr hl hb hg1 hg2 HNl HNr hlt2 hq hq32 hq0 HA1 hLq hLl hsn hV32 hh HZm hVl hz0 hZ1 hZs hg8
        generalize pre ++ [y] = z at *
        generalize y.1.2 = e at *
        generalize y.1.1 = s at *
        gi_wp2_with fail
        refine wpIn_region_round (S := fun Z => Z.cell? ⟨w.heap.size + 1 + 1 + 1 + 1 + 1, 0, none⟩ = some (.slice (some ⟨b1, o1, none⟩) d c') ∧ Z.rangeAt b1 o1 R.toList) (by kernel_rfl) (by kernel_rfl) (by rintro ⟨a, w, h⟩; exact h) ?_
        change wpAnyH _ _ _ _ _ _ _ _ (World.drew _)
        have hY : Below W.heap.size W W.drew := hBl0.out
        generalize World.drew _ = y0 at *
        have HX := And.intro (HVl.out _ hY).2.1 (HVl.out _ hY).2.2.1
        refine wpAnyH_take (i := 0) (v := .slice (some ⟨b1, o1, none⟩) d c') rfl (by kernel_rfl) (by kernel_rfl) (by kernel_rfl) (fun _ _ _ h => h) (Or.inl ⟨by rfl, by intro w9 h9; have c9 := h9.1; go_simp⟩) HX ?_
        simp only [List.getElem_toArray, List.getElem_cons_succ, List.getElem_cons_zero, Act.put, List.setIfInBounds_toArray, List.set_cons_zero, List.set_cons_succ]
        refine wpAnyH_take (i := 1) (v := .pointer (some ⟨b1, o1, none⟩)) rfl (by kernel_rfl) (by kernel_rfl) (by kernel_rfl) (fun _ _ _ h => h) (Or.inl ⟨by rfl, by intro w9 _; go_simp⟩) HX ?_
        simp only [List.getElem_toArray, List.getElem_cons_succ, List.getElem_cons_zero, Act.put, List.setIfInBounds_toArray, List.set_cons_zero, List.set_cons_succ]
        refine wpAnyH_take (i := 2) (v := .agg R) rfl (by kernel_rfl) (by kernel_rfl) (by kernel_rfl) (fun _ _ _ h => h) (yieldsIf_load_mid (by rfl) 23 _ rfl b1 o1 rfl R.toList _ (fun w' h => h.2) Tryd.underlying23 rfl icq.out) HX ?_
        simp only [List.getElem_toArray, List.getElem_cons_succ, List.getElem_cons_zero, Act.put, List.setIfInBounds_toArray, List.set_cons_zero, List.set_cons_succ]
        refine wpAnyH_ready (rs := [3]) (by kernel_rfl) (by simp) (AllReadyH.cons (by simp only [List.getElem?_toArray, List.getElem?_cons_succ, List.getElem?_cons_zero]; rfl) (fun K hK => ?_) AllReadyH.nil)
        refine step_want (by rfl) ?_
        refine wp_load_mid 23 _ rfl (w.heap.size + 1 + 1 + 1 + 1) 0 rfl V.toList _ (range_row (HVl.out _ hY).1) Tryd.underlying23 rfl icV.out ?_
        refine hK.out _ _ HX (fun _ => ?_)
        clear hK K
        try simp only [List.getElem_toArray, List.getElem_cons_succ, List.getElem_cons_zero, Act.put, List.setIfInBounds_toArray, List.set_cons_zero, List.set_cons_succ]
        refine wpAnyH_ready (rs := [4]) (by kernel_rfl) (by simp) (AllReadyH.cons (by simp only [List.getElem?_toArray, List.getElem?_cons_succ, List.getElem?_cons_zero]; rfl) (fun K hK => ?_) AllReadyH.nil)
        refine step_want (by rfl) ?_
        go_simp
        refine (HNx.out _ hY).mono ?_
        rintro e' y1 ⟨rfl, bc⟩
        have hY : Below W.heap.size W y1 := hY.trans (bc.mono hY.size)
        have HX := And.intro (HVl.out _ hY).2.1 (HVl.out _ hY).2.2.1
        clear bc
        refine hK.out _ _ HX (fun _ => ?_)
        clear hK K
        try simp only [List.getElem_toArray, List.getElem_cons_succ, List.getElem_cons_zero, Act.put, List.setIfInBounds_toArray, List.set_cons_zero, List.set_cons_succ]
        refine wpAnyH_ready (rs := [5]) (by kernel_rfl) (by simp) (AllReadyH.cons (by simp only [List.getElem?_toArray, List.getElem?_cons_succ, List.getElem?_cons_zero]; rfl) (fun K hK => ?_) AllReadyH.nil)
        refine step_want (by rfl) ?_
        refine wp_store_row 23 _ _ rfl (w.heap.size + 1 + 1 + 1 + 1) U rfl rfl _ _ (HVl.out _ hY).1 (by rw [info_h32, hU32]) (by rw [hVs, hU32]) hU1 ?_
        obtain ⟨y2, hy2⟩ : ∃ y2, y1.setRow (w.heap.size + 1 + 1 + 1 + 1) U = y2 := ⟨_, rfl⟩
        have hB2 : Boxed y2 (w.heap.size + 1 + 1 + 1 + 1 + 1) 22 (.slice (some ⟨b1, o1, none⟩) d c') := by
          have hb5 : Boxed y1 (w.heap.size + 1 + 1 + 1 + 1 + 1) 22 (.slice (some ⟨b1, o1, none⟩) d c') := (hY.block _ (by have := HSZ.out; omega)).trans HB.out
          rw [← hy2]
          exact (heap_setRow_ne (by omega)).trans hb5
        have HY2 : Hid (y1.setRow (w.heap.size + 1 + 1 + 1 + 1) U = y2 ∧ Below W.heap.size W y1) := ⟨hy2, hY⟩
        have hr2 : y2.rangeAt b1 o1 R.toList := HRq.out _ (by rw [← hy2]; exact below_setRow (HBw.out.trans (hY.mono HBw.out.size)) (by omega) _)
        have HX := And.intro hB2.cell hr2
        have hf2 := hB2.frozen
        rw [hy2]
        clear hy2 hB2 hr2
        refine hK.out _ _ HX (fun _ => ?_)
        clear hK K
        try simp only [List.getElem_toArray, List.getElem_cons_succ, List.getElem_cons_zero, Act.put, List.setIfInBounds_toArray, List.set_cons_zero, List.set_cons_succ]
        refine wpAnyH_done (by kernel_rfl) ?_ _
        have hc5 := HX.1
        clear HX hY
        gi_wp2_with fail
        all_goals first
          | (have hc7 : c' = 1 := by assumption
             have hF := HD1.out (.bool true) y1 HY2.out.2 U rfl y2 HY2.out.1 _ rfl
             rw [if_pos hc7, hc7] at hF
             exact ⟨hF.1.k, hF.1.p, hF.2⟩)
          | (have hc7 : ¬ c' = 1 := by first | assumption | omega
             have hF := HD1.out (.bool true) y1 HY2.out.2 U rfl y2 HY2.out.1 _ rfl
             rw [if_neg hc7] at hF
             exact ⟨hF.1.k, hF.1.p, hF.2⟩)
  case done =>
    rintro D ys W hD hys hI hKd
    have hlen : ys.length = (bes i 0 n).length := by rw [← hys, List.length_map]
    obtain ⟨a', c', hb, hcc, hA⟩ := hI.r
    obtain ⟨d, hd⟩ : ∃ d, P.length - ys.length = d := ⟨_, rfl⟩
    rw [hd] at hb
    have hvc := hb.cell
    have hle := hI.le
    have hD8 : w.heap.size + 8 ≤ D := by have := HS.out.1; omega
    have HKd : Hid _ := hKd
    have HI : Hid _ := hI
    have hz0 := hI.z
    have hho := hI.h
    rw [hys] at hho
    have hVs : (hv (ldV i x P (bes i 0 n))).size = 32 := by rw [hv_size]; exact ldV_32 HX32.out
    have icV : Hid ((Tryd.prog.info? 23).map (·.size) = some (hv (ldV i x P (bes i 0 n))).toList.length) := by show _ = _; rw [info_h32, Array.length_toList, hVs]
    have hV1 := hv_one (ldV i x P (bes i 0 n))
    have rV := range_row hho
    have hZ1 := hv_one (padTo 32 [])
    have hZs := hz_size
    by_cases hdz : 0 < d
    · have hdi : (d : Int) > 0 := by omega
      have HN : Hid (ldH x i n P = none) := if_neg (by omega)
      obtain ⟨W1, W2, hW1, hc1, hf1, hW2, HF⟩ := led_set (R := hv (padTo 32 [])) false hI.b hI.z hI.ok
      clear hA hI hb hho rV hV1 icV hVs hKd hys hcc
      rw [zero_h32] at hZ1 hZs hW1 hz0
      gi_wp2_with (first | (refine wpListIn_store_box rfl 23 _ _ rfl (w.heap.size + 1 + 1) #[.int .u8 0, .int .u8 0, .int .u8 0, .int .u8 0, .int .u8 0, .int .u8 0, .int .u8 0, .int .u8 0, .int .u8 0, .int .u8 0, .int .u8 0, .int .u8 0, .int .u8 0, .int .u8 0, .int .u8 0, .int .u8 0, .int .u8 0, .int .u8 0, .int .u8 0, .int .u8 0, .int .u8 0, .int .u8 0, .int .u8 0, .int .u8 0, .int .u8 0, .int .u8 0, .int .u8 0, .int .u8 0, .int .u8 0, .int .u8 0, .int .u8 0, .int .u8 0] rfl rfl _ _ hz0 (by rw [info_h32, hZs]) (by rw [hZs]) hZ1 ?_) | fail)
      refine ⟨by simp, .inl ⟨_, _, rfl, run_takeDeferred ((HF.out.2.2.2.1 _ hD8).trans HKd.out), ?_⟩⟩
      exact ⟨_, led_end hz_size HF.out.1 HF.out.2.1 hD8 rfl rfl, by rw [HN.out]; rfl, led_endB HF.out.2.2.1 hD8 ((HF.out.2.2.2.1 _ hD8).trans HKd.out)⟩
    · obtain rfl : d = 0 := by omega
      have hdi : ¬ ((0 : Nat) : Int) > 0 := by omega
      have HN : Hid (ldH x i n P = some (ldV i x P (bes i 0 n))) := if_pos (by omega)
      obtain ⟨W1, W2, hW1, hc1, hf1, hW2, HF⟩ := led_set (R := hv (ldV i x P (bes i 0 n))) true hI.b hI.z hI.ok
      clear hA hI hb hKd hys hcc
      generalize hVe : hv (ldV i x P (bes i 0 n)) = V at *
      have HVe : Hid _ := hVe
      clear hVe hho
      gi_wp2_with (first | (refine wpListIn_load_row rfl 23 _ rfl (w.heap.size + 1 + 1 + 1 + 1) 0 rfl V.toList _ rV Tryd.underlying23 rfl icV.out ?_) | (refine wpListIn_store_box rfl 23 _ _ rfl (w.heap.size + 1 + 1) V rfl rfl _ _ hz0 (by rw [info_h32, hVs]) (by rw [hZs, hVs]) hV1 ?_) | fail)
      refine ⟨by simp, .inl ⟨_, _, rfl, run_takeDeferred ((HF.out.2.2.2.1 _ hD8).trans HKd.out), ?_⟩⟩
      exact ⟨_, led_end hVs HF.out.1 HF.out.2.1 hD8 rfl rfl, by rw [HN.out, ← HVe.out]; rfl, led_endB HF.out.2.2.1 hD8 ((HF.out.2.2.2.1 _ hD8).trans HKd.out)⟩
  case stop =>
    rintro D cc pre W hD hpre hX hKd
    obtain rfl := hX.c
    have hz0 := hX.z
    have hb0 := hX.ok
    have HX : Hid _ := hX
    have HKd : Hid _ := hKd
    clear hX hKd
    gi_wp2_with fail
    refine ⟨by simp, .inl ⟨_, _, rfl, run_takeDeferred HKd.out, ?_⟩⟩
    have hn : ldH x i n P = none := if_neg (by have := HX.out.lt; omega)
    have hD8 : w.heap.size + 8 ≤ D := by have := HS.out.1; omega
    exact ⟨_, led_end hz_size HX.out.z HX.out.ok hD8 rfl rfl, by rw [hn]; rfl, led_endB HX.out.b hD8 HKd.out⟩

theorem led_any {w : World} {a : Option Addr} {c : Nat} {x : List UInt8} {P : List (List UInt8)} (i n : Nat) (hi : i < n) (hn : n < 9223372036854775808) (hx : x.length = 32) (hK : TabL w) (hP : HsAt w (.slice a P.length c) P) (hc : P.length ≤ c) (hl : P.length ≤ 100000) :
    Calls Tryd.prog 25 #[.agg (hv x), .int .i64 (i : Int), .int .i64 (n : Int), .slice a P.length c] w fun e w' => e = .returned (.tuple #[.agg (hv ((ldH x i n P).getD (padTo 32 []))), .bool (ldH x i n P).isSome]) ∧ Below w.heap.size w w' :=
  (callsIn_wide (n := 5)).1 (led_wide 5 (by omega) i n hi hn hx hK hP hc hl)
end Go.Proofs.YtficmbaffkkfhaaDoor
