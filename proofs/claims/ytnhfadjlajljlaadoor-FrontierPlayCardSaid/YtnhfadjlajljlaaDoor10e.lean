/- The roots above trees, from the last one on: a range over slices.Backward (layer 10). -/
import Derived.Test.YtnhfadjlajljlaaDoorUe
import Derived.Test.YtnhfadjlajljlaaDoorW7
import Derived.Test.YtnhfadjlajljlaaDoorW2
import Derived.RangeFuncNested
import Derived.RangeFuncBound
import Derived.RangeFuncCalls
import Derived.RangeFuncLeaves
import Derived.RangeFuncBox
import Derived.Shelf.Abstract
import Derived.Shelf.RegionOpen
import Derived.WalkKit
import Derived.OwnWalkIn
import Derived.TacticsInMore
import Derived.LoopNIn
import Derived.LoopIn
namespace Go.Proofs.YtnhfadjlajljlaaDoor
open Go.RowKit Go.Shelf
attribute [local go_sem] Oper.semAt_some

section
variable {F : Fence} {n : Nat}
theorem wpListIn_load_mid {ops : Array Oper} {rest : List Oper} {o : Oper} {a : Act} {w : World} {Q : Exit → Act → World → Prop} (hgd : o.guard = none) (ty : TypeId) (x : Operand) (ho : o.op = .load ty x)
    (b k : Nat) (hx : a.eval x = .pointer (some ⟨b, k, none⟩)) (cs : List Value) (d : TypeDesc) (hc : w.rangeAt b k cs)
    (hu : Tryd.prog.underlying ty = some d) (hd : d.isRow = true) (hi : (Tryd.prog.info? ty).map (·.size) = some cs.length)
    (h : wpListIn F n Tryd.prog ops Q rest (a.put o.dst (.agg cs.toArray)) w) : wpListIn F n Tryd.prog ops Q (o :: rest) a w := by
  refine wpListIn_plain hgd fun K hK' => ?_
  unfold Oper.wpIn
  refine ⟨by simp [Oper.about, ho], ?_⟩
  rw [Oper.semAt_plain F _ _ (by rw [ho]; intro c hc'; cases hc')]
  unfold execOp
  simp only [ho, hx, Instr.loadAt, Instr.sureAddr, Sem.run_bind, Sem.run_pure, Result.andThen_ok, run_loadVar_mid w b k ty cs d hc hu hd hi]
  exact hK' _ _ h
theorem wpListIn_store_row {ops : Array Oper} {rest : List Oper} {o : Oper} {a : Act} {w : World} {Q : Exit → Act → World → Prop} (hgd : o.guard = none) (ty : TypeId) (x y : Operand) (ho : o.op = .store ty x y)
    (g : Nat) (cells : Array Value) (hx : a.eval x = .pointer (some ⟨g, 0, none⟩)) (hy : a.eval y = .agg cells)
    (t : TypeId) (old : Array Value) (hg : w.heap[g]? = some (.cells old t (0, 0))) (hi : (Tryd.prog.info? ty).map (·.size) = some cells.size)
    (hold : old.size = cells.size) (h1 : cells.all (·.oneCell') = true)
    (h : wpListIn F n Tryd.prog ops Q rest (a.put o.dst undef) (w.setRow g cells)) : wpListIn F n Tryd.prog ops Q (o :: rest) a w := by
  refine wpListIn_plain hgd fun K hK' => ?_
  unfold Oper.wpIn
  refine ⟨by simp [Oper.about, ho], ?_⟩
  rw [Oper.semAt_plain F _ _ (by rw [ho]; intro c hc'; cases hc')]
  unfold execOp
  simp only [ho, hx, hy, Instr.storeAt, Instr.sureAddr, Sem.run_bind, Sem.run_pure, Result.andThen_ok, run_storeVar_row w g t ty old cells hg hi hold h1]
  exact hK' _ _ h
end
/-- So many of the places, the last one first. -/
def downF (n : Nat) : Nat → List (Fin n)
  | 0 => []
  | k + 1 => if h : k < n then downF n k ++ [⟨n - 1 - k, by omega⟩] else downF n k
theorem downF_succ {n k : Nat} (h : k < n) : downF n (k + 1) = downF n k ++ [⟨n - 1 - k, by omega⟩] := by rw [downF, dif_pos h]
theorem downF_length {n : Nat} : ∀ k, k ≤ n → (downF n k).length = k
  | 0, _ => rfl
  | k + 1, h => by rw [downF_succ (by omega), List.length_append, downF_length k (by omega)]; rfl
/-- What came of the trees at these places. -/
def upTo (L : List (List UInt8)) (h : List UInt8) (ys : List (Fin L.length)) : List UInt8 := ys.foldl (fun acc x => nodeL L[x] acc) h
theorem upTo_snoc (L : List (List UInt8)) (h : List UInt8) (ys : List (Fin L.length)) (x : Fin L.length) : upTo L h (ys ++ [x]) = nodeL L[x] (upTo L h ys) := by
  unfold upTo
  rw [List.foldl_append]
  rfl
theorem upTo_down (L : List (List UInt8)) (h : List UInt8) : ∀ k, k ≤ L.length → upTo L h (downF L.length k) = abL nodeL (L.drop (L.length - k)) h
  | 0, _ => by rw [Nat.sub_zero, List.drop_length]; rfl
  | k + 1, hk => by
    rw [downF_succ (by omega), upTo_snoc, upTo_down L h k (by omega)]
    have e : L.drop (L.length - (k + 1)) = L[L.length - 1 - k]'(by omega) :: L.drop (L.length - k) := by
      rw [List.drop_eq_getElem_cons (by omega)]
      congr 2 <;> omega
    rw [e]
    rfl
theorem upTo_all (L : List (List UInt8)) (h : List UInt8) : upTo L h (downF L.length L.length) = abL nodeL L h := by
  rw [upTo_down L h _ (Nat.le_refl _), Nat.sub_self, List.drop_zero]
theorem upTo_32 (L : List (List UInt8)) (h : List UInt8) (hh : h.length = 32) (ys : List (Fin L.length)) : (upTo L h ys).length = 32 := by
  rcases List.eq_nil_or_concat ys with rfl | ⟨pre, x, rfl⟩
  · exact hh
  · rw [List.concat_eq_append, upTo_snoc]; exact shaL_length _
set_option maxHeartbeats 1000000 in
/-- Backward: the list is boxed; the function captures the box. -/
theorem bw_in (F : Fence) (n : Nat) (h : F.fn 44) (hro : F.round = none) (a : Option Addr) (m c : Nat) (w : World) :
    CallsIn F n Tryd.prog 44 #[.slice a m c] w fun e w' => e = .returned (.func (.func 55) #[] #[.pointer (some ⟨w.heap.size, 0, none⟩)]) ∧ w' = w.alloc (.cells #[.slice a m c] 22) := by
  refine callsIn_of_wp Tryd.func44 rfl h ?_ hro
  simp only [Tryd.ntmps44, List.size_toArray, List.length_cons, List.length_nil, Nat.reduceAdd, Nat.reduceSub, Array.replicate_succ, Array.replicate_zero, List.push_toArray, List.append_toArray, List.nil_append, List.cons_append]
  gi_wp2
  go_ret
  exact ⟨rfl, rfl⟩
/-- A tree with its place, as it is handed on. -/
def treeV (L : List (List UInt8)) (x : Fin L.length) : Array Value := #[.int .i64 (x.val : Int), .agg (hv L[x])]
/-- What lay below stays, and the box of the list. -/
def KeepA (B b : Nat) (W W' : World) : Prop := Below B W W' ∧ W'.heap[b]? = W.heap[b]?
theorem KeepA.t {B b : Nat} {X Y Z : World} (h : KeepA B b X Y) (k : KeepA B b Y Z) : KeepA B b X Z := ⟨h.1.trans k.1, k.2.trans h.2⟩
theorem KeepA.b {B b : Nat} {w : World} (hB : B ≤ w.heap.size) (hb : b < w.heap.size) (W : World) (l : Nat) (o o' : Obj) (hl : w.heap.size ≤ l) (h : W.heap[l]? = some o) (h1 : o.isCells = false) (h2 : o.isWalk = false) : KeepA B b W (W.putObj l o') :=
  ⟨belowK_b hB W l o o' hl h h1 h2, World.putObj_heap_other (by omega)⟩
set_option maxRecDepth 100000 in
set_option maxHeartbeats 4000000 in
theorem bw1_in (F : Fence) (n : Nat) (h6 : F.fn 55) (hro : F.round = none) (hn : 1 ≤ n) (l b : Nat) (L : List (List UInt8)) (a : Option Addr) (c : Nat) (w0 : World) (hL : HsAt w0 (.slice a L.length c) L) (hlen : L.length ≤ 100000) (J Jx : List (Fin L.length) → World → Prop)
    (hY : ∀ pre x W1, J pre W1 → pre.length < L.length → YieldAt F (n - 1) Tryd.prog l (treeV L x) W1 fun e W' =>
      (e = .returned (.bool true) ∧ J (pre ++ [x]) W' ∧ KeepA w0.heap.size b W1 W') ∨ (e = .returned (.bool false) ∧ Jx (pre ++ [x]) W'))
    (W : World) (hb0 : Below w0.heap.size w0 W) (hb : W.heap[b]? = some (.cells #[.slice a L.length c] 22 (0, 0))) (h0 : J [] W) :
    CallsIn F n Tryd.prog 55 #[.func (.yield l) #[] #[], .pointer (some ⟨b, 0, none⟩)] W fun e W' => (∃ v, e = .returned v) ∧
      ((∃ ys, ys = downF L.length L.length ∧ J ys W') ∨ (∃ pre, True ∧ Jx pre W')) := by
  have hc0 : W.cell? ⟨b, 0, none⟩ = some (.slice a L.length c) := by rw [cell_of_row _ _ _ _ _ _ hb]; rfl
  have hwr : wrap64 ((L.length : Int) - 1) = (L.length : Int) - 1 := by unfold wrap64; omega
  refine callsIn_of_wp Tryd.func55 rfl h6 ?_ hro
  simp only [Tryd.ntmps55, List.size_toArray, List.length_cons, List.length_nil, Nat.reduceAdd, Nat.reduceSub, Array.replicate_succ, Array.replicate_zero, List.push_toArray, List.append_toArray, List.nil_append, List.cons_append]
  gi_wp2
  gi_loopw [3] (fun i wr => ∃ j : Nat, j ≤ L.length ∧ i = .int .i64 ((j : Int) - 1) ∧ J (downF L.length (L.length - j)) wr ∧ KeepA w0.heap.size b W wr) (fun i _ => (intOf i + 1).toNat)
  case atStart => exact ⟨L.length, Nat.le_refl _, rfl, by rw [Nat.sub_self]; exact h0, Below.refl _ _, rfl⟩
  case round =>
    obtain ⟨j, hj, rfl, hJs, hkb⟩ := hrel
    have hcb : wr.cell? ⟨b, 0, none⟩ = some (.slice a L.length c) := (World.cell?_of_block (a := ⟨b, 0, none⟩) (show wr.heap[b]? = W.heap[b]? from hkb.2)).trans hc0
    cases j with
    | succ j =>
      have e1 : (((j + 1 : Nat) : Int) - 1) = (j : Int) := by omega
      rw [e1]
      have hge : (j : Int) ≥ 0 := by omega
      obtain ⟨fn, tmps, assign, body, hy, hR⟩ := hY _ ⟨j, by omega⟩ wr hJs (by rw [downF_length _ (by omega)]; omega)
      have hds : downF L.length (L.length - (j + 1)) ++ [⟨j, by omega⟩] = downF L.length (L.length - j) := by
        rw [show L.length - j = L.length - (j + 1) + 1 by omega, downF_succ (by omega)]
        congr 2
        apply Fin.ext
        simp only
        omega
      rw [hds] at hR
      have hi : L[j]? = some (L[j]'(by omega)) := List.getElem?_eq_getElem (by omega)
      obtain ⟨h32, b1, o1, rfl, hrg⟩ := hL.cells.2 _ _ hi
      have hrg := hrg wr (hb0.trans hkb.1)
      have hy' : (Instr.yield l #[.int .i64 (j : Int), .agg (hv (L[j]'(by omega)))]).run Tryd.prog wr = .ok (.round l fn tmps assign body) wr := hy
      have hsz : (hv (L[j]'(by omega))).size = 32 := by rw [hv_size, h32]
      have hlt1 : (j : Int) < L.length := by omega
      have hw1 : wrap64 ((j : Int) - 1) = (j : Int) - 1 := by unfold wrap64; omega
      have hjl : j ≤ L.length := by omega
      clear hy hi hL hY hds e1
      generalize hC : hv (L[j]'(by omega)) = C at *
      gi_wp2_with (refine wpListIn_load_mid rfl 30 _ rfl b1 (o1 + j * 32) rfl C.toList _ hrg Tryd.underlying30 rfl (by rw [info_h32, Array.length_toList, hsz]) ?_)
      refine hR.mono ?_
      rintro e W3 (⟨rfl, hJ3, hk3⟩ | ⟨rfl, hJx3⟩)
      · gi_wp2
        go_roundw
        case rel => exact ⟨j, hjl, by first | rfl | go_num, hJ3, KeepA.t hkb hk3⟩
        case measure => simp [intOf]
      · gi_wp2
        refine bodyPost_ret (results_none rfl _ _ _) rfl ?_
        exact ⟨⟨_, rfl⟩, .inr ⟨_, trivial, hJx3⟩⟩
    | zero =>
      have hng : ¬ ((((0 : Nat) : Int) - 1) ≥ 0) := by omega
      rw [Nat.sub_zero] at hJs
      gi_wp2
      go_end0
      exact ⟨⟨_, rfl⟩, .inl hJs⟩
theorem bw_stops (F : Fence) (n : Nat) (h6 : F.fn 55) (hro : F.round = none) (hn : 1 ≤ n) (b : Nat) (L : List (List UInt8)) (a : Option Addr) (c : Nat) (w0 w : World) (hL : HsAt w0 (.slice a L.length c) L) (hlen : L.length ≤ 100000)
    (hb0 : Below w0.heap.size w0 w) (hbw : w.heap[b]? = some (.cells #[.slice a L.length c] 22 (0, 0))) :
    SeqStopsK F n Tryd.prog 55 #[.pointer (some ⟨b, 0, none⟩)] (treeV L) (KeepA w0.heap.size b) (fun ys => ys = downF L.length L.length) (fun _ => True) L.length w := fun l J Jx W hW _ _ hY h0 =>
  bw1_in F n h6 hro hn l b L a c w0 hL hlen J Jx hY W (hb0.trans (hW.mono hb0.size)) ((hW.block b (Array.getElem?_eq_some_iff.1 hbw).1).trans hbw) h0
/-- A round's own box. -/
def AxT (B : Nat) (R : Array Value) (mk : Value → Act) (a' : Act) (W : World) : Prop := ∃ g, (W.heap[g]? = some (.cells R 30 (0, 0)) ∧ B ≤ g) ∧ a' = mk (.pointer (some ⟨g, 0, none⟩))
theorem axT_own {B B' : Nat} {R : Array Value} {mk : Value → Act} {a' : Act} : OwnFrom B' (fun (_ : Unit) W => AxT B R mk a' W) := fun _ X Y row hs hg hr => by
  obtain ⟨g, ⟨h1, h2⟩, h3⟩ := hs
  refine ⟨g, ⟨(hg.block _ (Array.getElem?_eq_some_iff.1 h1).1 (fun e => ?_)).trans h1, h2⟩, h3⟩
  obtain ⟨o, ho, hc⟩ := (hr _ e.symm).2
  rw [h1] at ho
  cases ho
  cases hc
set_option maxRecDepth 100000 in
set_option maxHeartbeats 2000000 in
theorem above_wide (n : Nat) (hn : 3 ≤ n) (L : List (List UInt8)) (h : List UInt8) (a : Option Addr) (c : Nat) (w : World) (hK : TabL w) (hL : HsAt w (.slice a L.length c) L) (hlen : L.length ≤ 100000) (hh : h.length = 32) :
    CallsIn Fence.wide n Tryd.prog 31 #[.slice a L.length c, .agg (hv h)] w fun e W' => e = .returned (.agg (hv (abL nodeL L h))) ∧ Below w.heap.size w W' := by
  have h1 : 1 ≤ n := by omega
  have hro : Fence.wide.round = none := rfl
  have h6 : Fence.wide.fn 55 := trivial
  have hsz : (hv h).size = 32 := by rw [hv_size, hh]
  refine callsIn_of_wp_marks Tryd.func31 rfl trivial ?_ hro
  simp only [Tryd.ntmps31, List.size_toArray, List.length_cons, List.length_nil, Nat.reduceAdd, Nat.reduceSub, Array.replicate_succ, Array.replicate_zero, List.push_toArray, List.append_toArray, List.nil_append, List.cons_append]
  obtain ⟨w1, hw1⟩ : ∃ w1, w.alloc (.cells (hv h) 30) = w1 := ⟨_, rfl⟩
  obtain ⟨w2, hw2, b2, hz2⟩ := hash_box w1
  have hs1 : w1.heap.size = w.heap.size + 1 := by rw [← hw1]; simp
  have b1 : Below w.heap.size w w1 := by rw [← hw1]; exact (Below.refl _ _).alloc (Nat.le_refl _) _
  have g1 : w1.heap[w.heap.size]? = some (.cells (hv h) 30 (0, 0)) := by rw [← hw1]; exact heap_alloc_last w _
  have hs2 : w2.heap.size = w.heap.size + 2 := by rw [← hw2]; simp [hs1]
  have g2 : w2.heap[w.heap.size]? = some (.cells (hv h) 30 (0, 0)) := (b2.block _ (by omega)).trans g1
  have b12 : Below w.heap.size w w2 := b1.trans (b2.mono (by omega))
  rw [hs1] at hz2
  have hzs := hz_size
  rw [zero_h32] at hw2
  have hb3 := heap_alloc_last w2 (.cells #[.slice a L.length c] 22)
  obtain ⟨w3, hw3⟩ : ∃ w3, w2.alloc (.cells #[.slice a L.length c] 22) = w3 := ⟨_, rfl⟩
  have hs3 : w3.heap.size = w.heap.size + 3 := by rw [← hw3]; simp [hs2]
  have b3 : Below w.heap.size w w3 := by rw [← hw3]; exact b12.alloc (by omega) _
  have b23 : Below w2.heap.size w2 w3 := by rw [← hw3]; exact (Below.refl _ _).alloc (Nat.le_refl _) _
  have g3 : w3.heap[w.heap.size]? = some (.cells (hv h) 30 (0, 0)) := (b23.block _ (by omega)).trans g2
  have z3 : w3.heap[w.heap.size + 1]? = some (.cells (hv (padTo 32 [])) 30 (0, 0)) := (b23.block _ (by omega)).trans hz2
  rw [hw3] at hb3
  have HBW : Hid (CallsIn Fence.wide (n - 1) Tryd.prog 44 #[.slice a L.length c] w2 fun e w' => e = .returned (.func (.func 55) #[] #[.pointer (some ⟨w.heap.size + 2, 0, none⟩)]) ∧ w' = w3) := by
    have := bw_in Fence.wide (n - 1) trivial hro a L.length c w2
    rwa [hw3, hs2] at this
  rw [hs2] at hb3
  have HSTOP := bw_stops Fence.wide (n - 1) h6 hro (by omega) (w.heap.size + 2) L a c w w3 hL hlen b3 hb3
  gi_wp2_with fail
  refine ⟨trivial, HBW.out.mono ?_⟩
  rintro e w4 ⟨rfl, rfl⟩
  clear HBW hw1 hw2 hw3 b1 b2 b12 b23 g1 g2 hz2
  gi_wp2_with fail
  refine wpIn_rangeFunc_ownH hro h1 (gf := 55) (lb := #[.pointer (some ⟨w.heap.size + 2, 0, none⟩)]) rfl h6 (enters_of Tryd.func55 (by kernel_rfl) rfl)
    HSTOP KeepA.t (KeepA.b (by omega) (by omega)) (Below.refl _ _) (fun _ => rfl)
    (fun pre W => (W.heap[w.heap.size]? = some (.cells (hv (upTo L h pre)) 30 (0, 0)) ∧ W.heap[w.heap.size + 1]? = some (.cells (hv (padTo 32 [])) 30 (0, 0)) ∧ w4.heap.size ≤ W.heap.size) ∧ Below w.heap.size w W)
    (fun _ _ _ => False)
    (OwnFrom.and (fun s A B row hs hg hr => ⟨(hg.block _ (Array.getElem?_eq_some_iff.1 hs.1).1 (fun e => by have := (hr _ e.symm).1; omega)).trans hs.1, (hg.block _ (Array.getElem?_eq_some_iff.1 hs.2.1).1 (fun e => by have := (hr _ e.symm).1; omega)).trans hs.2.1, Nat.le_trans hs.2.2 hg.size⟩) (ownFrom_below (Nat.le_refl _) (by omega)))
    (fun _ _ _ _ _ hs _ _ => hs)
    ⟨⟨g3, z3, Nat.le_refl _⟩, b3⟩
    (fun x => AxT w4.heap.size (hv L[x]) (fun q => { tmps := #[.slice a L.length c, .agg (hv h), undef, .pointer (some ⟨w.heap.size, 0, none⟩), .pointer (some ⟨w.heap.size + 1, 0, none⟩), undef, q, .slice a L.length c, .func (.func 55) #[] #[.pointer (some ⟨w.heap.size + 2, 0, none⟩)], .int .i64 (x.val : Int), .agg (hv L[x]), undef, undef, undef, undef], defers := [] }))
    (fun _ _ => axT_own) ?assign ?body ?done ?stop
  case assign =>
    rintro l pre x W K ⟨⟨hi1, hi2, hi3⟩, hB⟩ hK
    dsimp only [treeV]
    have hx32 : (hv L[x]).size = 32 := by rw [hv_size]; exact hL.len L[x] (List.getElem_mem x.isLt)
    have hx1 := hv_one L[x]
    generalize hv L[x] = R at *
    obtain ⟨W1, hW1, bW, gW⟩ := hash_box W
    have hWs := hB.size
    have hzs2 : (hv (padTo 32 [])).size = R.size := by rw [hzs, hx32]
    have hKK : Hid (KeepsFrom w4.heap.size W (W1.setRow W.heap.size R) ∧ KeepA w.heap.size (w.heap.size + 2) W (W1.setRow W.heap.size R) ∧ ((W1.setRow W.heap.size R).heap[w.heap.size]? = some (.cells (hv (upTo L h pre)) 30 (0, 0)) ∧ (W1.setRow W.heap.size R).heap[w.heap.size + 1]? = some (.cells (hv (padTo 32 [])) 30 (0, 0)) ∧ w4.heap.size ≤ (W1.setRow W.heap.size R).heap.size) ∧ Below w.heap.size w (W1.setRow W.heap.size R) ∧ (W1.setRow W.heap.size R).heap[W.heap.size]? = some (.cells R 30 (0, 0))) := by
      have hbw : Below W.heap.size W (W1.setRow W.heap.size R) := below_setRow bW (Nat.le_refl _) _
      have hlt1 := (Array.getElem?_eq_some_iff.1 hi2).1
      refine ⟨⟨hbw.size, fun k o _ hk _ => (hbw.block k (Array.getElem?_eq_some_iff.1 hk).1).trans hk⟩, ⟨hbw.mono (by omega), hbw.block _ (by omega)⟩, ⟨(hbw.block _ (by omega)).trans hi1, (hbw.block _ (by omega)).trans hi2, Nat.le_trans hi3 hbw.size⟩, hB.trans (hbw.mono (by omega)), heap_setRow_same gW⟩
    rw [zero_h32] at hW1
    gi_wp2_with (refine wpListIn_store_row rfl 30 _ _ rfl W.heap.size R rfl rfl _ _ gW (by rw [info_h32, hx32]) hzs2 hx1 ?_)
    exact hK _ _ hKK.out.1 hKK.out.2.1 ⟨hKK.out.2.2.1, hKK.out.2.2.2.1⟩ ⟨W.heap.size, ⟨hKK.out.2.2.2.2, hi3⟩, rfl⟩
  case body =>
    rintro l pre x a' W hl hr ⟨⟨hi1, hi2, hi3⟩, hB⟩ ⟨g, ⟨hg1, hg2⟩, rfl⟩ hlt
    have hxm : L[x] ∈ L := List.getElem_mem x.isLt
    have hx32 := hL.len L[x] hxm
    have hu32 := upTo_32 L h hh pre
    have hN : Hid (Calls Tryd.prog 33 #[.agg (hv L[x]), .agg (hv (upTo L h pre))] W fun e w' => e = .returned (.agg (hv (nodeL L[x] (upTo L h pre)))) ∧ Below W.heap.size W w') := node_any _ _ W (hK.below hB hK.lt) hx32 hu32
    have hR : Hid (hv (nodeL L[x] (upTo L h pre)) = hv (upTo L h (pre ++ [x]))) := by show _ = _; rw [upTo_snoc]
    have hRs : (hv (nodeL L[x] (upTo L h pre))).size = 32 := by rw [hv_size]; exact shaL_length _
    have hR1 := hv_one (nodeL L[x] (upTo L h pre))
    have hus : (hv (upTo L h pre)).size = 32 := by rw [hv_size, hu32]
    have hxs : (hv L[x]).size = 32 := by rw [hv_size, hx32]
    have r1 := range_row hg1
    have r2 := range_row hi1
    generalize hv (nodeL L[x] (upTo L h pre)) = R at *
    generalize hv (upTo L h pre) = U at *
    generalize hv L[x] = X at *
    gi_wp2_with (first | (refine wpListIn_load_mid rfl 30 _ rfl g 0 rfl X.toList _ r1 Tryd.underlying30 rfl (by rw [info_h32, Array.length_toList, hxs]) ?_) | (refine wpListIn_load_mid rfl 30 _ rfl w.heap.size 0 rfl U.toList _ r2 Tryd.underlying30 rfl (by rw [info_h32, Array.length_toList, hus]) ?_))
    refine ⟨trivial, fun _ => by omega, ?_⟩
    refine (CallsIn.inRound l (callsIn_wide.2 hN.out)).mono ?_
    rintro e W3 ⟨rfl, b3'⟩
    have hWs := hB.size
    have gi3 := (b3'.block _ (by omega)).trans hi1
    have hUR : U.size = R.size := by rw [hus, hRs]
    have hKK : Hid (KeepsFrom w4.heap.size W (W3.setRow w.heap.size R) ∧ KeepA w.heap.size (w.heap.size + 2) W (W3.setRow w.heap.size R) ∧ ((W3.setRow w.heap.size R).heap[w.heap.size]? = some (.cells (hv (upTo L h (pre ++ [x]))) 30 (0, 0)) ∧ (W3.setRow w.heap.size R).heap[w.heap.size + 1]? = some (.cells (hv (padTo 32 [])) 30 (0, 0)) ∧ w4.heap.size ≤ (W3.setRow w.heap.size R).heap.size) ∧ Below w.heap.size w (W3.setRow w.heap.size R)) := by
      have hbw : Below w.heap.size W (W3.setRow w.heap.size R) := below_setRow (b3'.mono (by omega)) (Nat.le_refl _) _
      refine ⟨⟨hbw.size, fun k o hk h0 _ => ?_⟩, ⟨hbw, ?_⟩, ⟨?_, ?_, Nat.le_trans hi3 hbw.size⟩, hB.trans hbw⟩
      · rw [heap_setRow_ne (by omega)]
        exact (b3'.block k (Array.getElem?_eq_some_iff.1 h0).1).trans h0
      · rw [heap_setRow_ne (by omega)]
        exact b3'.block _ (by omega)
      · rw [← hR.out]
        exact heap_setRow_same gi3
      · rw [heap_setRow_ne (by omega)]
        exact (b3'.block _ (by omega)).trans hi2
    clear hi1 hi2 b3' hB r1 r2 hg1
    gi_wp2_with (refine wpListIn_store_row rfl 30 _ _ rfl w.heap.size R rfl rfl _ _ gi3 (by rw [info_h32, hRs]) hUR hR1 ?_)
    exact hKK.out
  case done =>
    rintro D ys W hD rfl ⟨⟨hi1, hi2, hi3⟩, hB⟩ hKd
    have hu32 := upTo_32 L h hh (downF L.length L.length)
    rw [upTo_all] at hi1 hu32
    have hus : (hv (abL nodeL L h)).size = 32 := by rw [hv_size, hu32]
    have hR1 := hv_one (abL nodeL L h)
    have r2 := range_row hi1
    generalize hRe : hv (abL nodeL L h) = R at *
    have hUR : (hv (padTo 32 [])).size = R.size := by rw [hzs, hus]
    gi_wp2_with (first | (refine wpListIn_load_mid rfl 30 _ rfl w.heap.size 0 rfl R.toList _ r2 Tryd.underlying30 rfl (by rw [info_h32, Array.length_toList, hus]) ?_) | (refine wpListIn_store_row rfl 30 _ _ rfl (w.heap.size + 1) R rfl rfl _ _ hi2 (by rw [info_h32, hus]) hUR hR1 ?_))
    have hDl := (Array.getElem?_eq_some_iff.1 hKd).1
    have hK' : (W.setRow (w.heap.size + 1) R).heap[D]? = some (.deferred (some [])) := by rw [heap_setRow_ne (by omega)]; exact hKd
    refine ⟨by simp, .inl ⟨_, _, rfl, run_takeDeferred hK', ?_⟩⟩
    have hc5 : ((W.setRow (w.heap.size + 1) R).putObj D (.deferred none)).heap[w.heap.size + 1]? = some (.cells R 30 (0, 0)) := by
      rw [World.putObj_heap_other (by omega)]
      exact heap_setRow_same hi2
    refine ⟨.agg R, results_cell1 (p := 4) Tryd.results31 _ _ (w.heap.size + 1) 32 30 5 R (0, 0) rfl hc5 Tryd.underlying30 info_h32 hus, by rw [hRe], ?_⟩
    exact (below_setRow hB (by omega) _).trans (belowK_b (w := w) (Nat.le_refl _) _ D _ _ (by omega) hK' rfl rfl)
  case stop =>
    rintro D c pre W hD hpre hf hK
    exact hf.elim
/-- The root over trees in their order, and one more behind them. -/
theorem above_any {w : World} {v : Value} {L : List (List UInt8)} (h : List UInt8) (hK : TabL w) (hL : HsAt w v L) (hlen : L.length ≤ 100000) (hh : h.length = 32) :
    Calls Tryd.prog 31 #[v, .agg (hv h)] w fun e W' => e = .returned (.agg (hv (abL nodeL L h))) ∧ Below w.heap.size w W' := by
  obtain ⟨a, c, rfl, -⟩ := id hL
  exact (callsIn_wide (n := 3)).1 (above_wide 3 (by omega) L h a c w hK hL hlen hh)
end Go.Proofs.YtnhfadjlajljlaaDoor
