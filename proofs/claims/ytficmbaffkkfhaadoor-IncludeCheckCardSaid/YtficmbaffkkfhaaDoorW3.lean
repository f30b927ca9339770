/- append of hashes to an empty list that has no room: a list of one's own, made new (layer 9). -/
import Derived.WalkKit
import Derived.Deep.WholeRow
import Derived.Test.YtficmbaffkkfhaaDoorChecked
import Derived.Test.YtficmbaffkkfhaaDoorW1
import Derived.WalkSpells
import Derived.Deep.OwnRows
import Derived.Deep.MidRow
import Derived.WalkLawsBesides
import Derived.Deep.RegionHeld3
import Derived.Laws.MakeOwn
/- Laws of the walk on whole arrays in the block that was made last; results that lie in a cell. -/
namespace Go.Proofs.YtficmbaffkkfhaaDoor
open Go.RowKit
variable {P : Program}

theorem load_last {ops : Array Oper} {rest : List Oper} {o : Oper} {a : Act} {w : World} {Q : Exit → Act → World → Prop} (hgd : o.guard = none) (ty : TypeId) (x : Operand) (ho : o.op = .load ty x)
    (n : Nat) (e : TypeId) (t : TypeId) (cs : Array Value) (hx : a.eval x = .pointer (some ⟨w.heap.size, 0, none⟩))
    (hu : P.underlying ty = some (.array n e)) (hi : (P.info? ty).map (·.size) = some n) (hn : cs.size = n)
    (h : wpList P ops Q rest (a.put o.dst (.agg cs)) (w.alloc (.cells cs t))) : wpList P ops Q (o :: rest) a (w.alloc (.cells cs t)) :=
  wpList_load_row hgd ty x ho w.heap.size hx t cs (0, 0) _ (heap_alloc_last w _) hu rfl (by rw [hi, hn]) h
theorem store_last {ops : Array Oper} {rest : List Oper} {o : Oper} {a : Act} {w : World} {Q : Exit → Act → World → Prop} (hgd : o.guard = none) (ty : TypeId) (x y : Operand) (ho : o.op = .store ty x y)
    (n : Nat) (t : TypeId) (old cs : Array Value) (hx : a.eval x = .pointer (some ⟨w.heap.size, 0, none⟩)) (hy : a.eval y = .agg cs)
    (hi : (P.info? ty).map (·.size) = some n) (hold : old.size = n) (hn : cs.size = n) (h1 : cs.all (·.oneCell') = true)
    (h : wpList P ops Q rest (a.put o.dst undef) (w.alloc (.cells cs t))) : wpList P ops Q (o :: rest) a (w.alloc (.cells old t)) :=
  wpList_store_row hgd ty x y ho w.heap.size cs hx hy t old (heap_alloc_last w _) (by rw [hi, hn]) (by omega) h1 (by rw [World.setRow_alloc_new]; exact h)
theorem wpList_want {ops : Array Oper} {rest : List Oper} {o : Oper} {a : Act} {w : World} {Q : Exit → Act → World → Prop} (hw : Region.wanted o (yielded ops a.tmps) = true)
    (h : ∀ K : Act → World → Prop, (∀ a w, wpList P ops Q rest a w → K a w) → o.wp P a w K Q) : wpList P ops Q (o :: rest) a w :=
  wpList_step fun K hK => by rw [if_pos hw]; exact h K hK
/-- A guarded load of a whole array, out of whatever block. -/
theorem load_row_g {ops : Array Oper} {rest : List Oper} {o : Oper} {a : Act} {w : World} {Q : Exit → Act → World → Prop} (hw : Region.wanted o (yielded ops a.tmps) = true) (ty : TypeId) (x : Operand) (ho : o.op = .load ty x)
    (g n : Nat) (e : TypeId) (t : TypeId) (cs : Array Value) (fr : Nat × Nat) (hx : a.eval x = .pointer (some ⟨g, 0, none⟩)) (hg : w.heap[g]? = some (.cells cs t fr))
    (hu : P.underlying ty = some (.array n e)) (hi : (P.info? ty).map (·.size) = some n) (hn : cs.size = n)
    (h : wpList P ops Q rest (a.put o.dst (.agg cs)) w) : wpList P ops Q (o :: rest) a w :=
  wpList_want hw fun _ hK => wp_load_row ty x ho g hx t cs fr _ hg hu rfl (by rw [hi, hn]) (hK _ _ h)
theorem results_cell2 {fn : Func} {p u v : Tmp} {ty : TypeId} (h : fn.results = #[.cell p ty, .tmp u, .tmp v]) (tmps : Array Value) (W : World) (g n : Nat) (t e : TypeId) (cs : Array Value) (fr : Nat × Nat)
    (hp : tmps.getD p undef = .pointer (some ⟨g, 0, none⟩)) (hg : W.heap[g]? = some (.cells cs t fr)) (hu : P.underlying ty = some (.array n e)) (hi : (P.info? ty).map (·.size) = some n) (hn : cs.size = n) :
    (results fn tmps).run P W = .ok (.tuple #[.agg cs, tmps.getD u undef, tmps.getD v undef]) W := by
  have hl := run_loadVar_row (P := P) W g t ty cs fr _ hg hu rfl (by rw [hi, hn])
  have hp' : tmps[p]?.getD undef = .pointer (some ⟨g, 0, none⟩) := by simpa using hp
  simp only [results, h]
  simp [Result.andThen, hp', asAddr, hl]
theorem results_cell1 {fn : Func} {p : Tmp} {ty : TypeId} (h : fn.results = #[.cell p ty]) (tmps : Array Value) (W : World) (g n : Nat) (t e : TypeId) (cs : Array Value) (fr : Nat × Nat)
    (hp : tmps.getD p undef = .pointer (some ⟨g, 0, none⟩)) (hg : W.heap[g]? = some (.cells cs t fr)) (hu : P.underlying ty = some (.array n e)) (hi : (P.info? ty).map (·.size) = some n) (hn : cs.size = n) :
    (results fn tmps).run P W = .ok (.agg cs) W :=
  results_cell_row h tmps W g t cs fr _ hp hg hu rfl (by rw [hi, hn])
end Go.Proofs.YtficmbaffkkfhaaDoor

/- Laws on bytes in memory, over the seat's types: what more than one layer needs. -/
namespace Go.Proofs.YtficmbaffkkfhaaDoor
open Go.RowKit

theorem ret_bool {a b : Bool} (h : a = b) : Ending.returned (.bool a) = .returned (.bool b) := by rw [h]
theorem ret_str {a b : ByteArray} (h : a = b) : Ending.returned (.string a) = .returned (.string b) := by rw [h]
theorem foldl_push (ns : List Int) : ∀ (r : ByteArray), ns.foldl (fun r n => r.push (UInt8.ofNat n.toNat)) r = ⟨r.data ++ (ns.map fun n => UInt8.ofNat n.toNat).toArray⟩ := by
  induction ns with
  | nil => intro r; simp
  | cons n ns ih =>
    intro r
    rw [List.foldl_cons, ih]
    simp [ByteArray.push]
theorem info_u8 : (Tryd.prog.info? 5).map (fun i => (i.zero, i.size, i.bytes)) = some (some (.int .u8 0), 1, 1) := by kernel_rfl
theorem cells_u8 : Tryd.prog.cellsOf 5 = 1 := by kernel_rfl
theorem mkN (n : Nat) (hn : n ≤ 140737488351232) (w : World) : (Instr.makeSlice 60 (.int .i64 (n : Int)) (.int .i64 (n : Int))).run Tryd.prog w = .ok (.slice (some ⟨w.heap.size, 0, none⟩) n n) (w.alloc (.cells (madeCells #[.int .u8 0] n) 5)) :=
  run_make_row' 60 5 (.int .u8 0) 1 Tryd.underlying60 info_u8 rfl .i64 .i64 n (by omega) (by omega) w
theorem S_append (a b : List UInt8) : S a ++ S b = S (a ++ b) := by
  apply ByteArray.ext; simp [S]
theorem S_app (a : List UInt8) (s : ByteArray) : S a ++ s = S (a ++ s.data.toList) := by
  rw [← S_append, S_data]
theorem info_h32 : (Tryd.prog.info? 23).map (·.size) = some 32 := by kernel_rfl
theorem zero_h32 : hv (padTo 32 []) = #[.int .u8 0, .int .u8 0, .int .u8 0, .int .u8 0, .int .u8 0, .int .u8 0, .int .u8 0, .int .u8 0, .int .u8 0, .int .u8 0, .int .u8 0, .int .u8 0, .int .u8 0, .int .u8 0, .int .u8 0, .int .u8 0, .int .u8 0, .int .u8 0, .int .u8 0, .int .u8 0, .int .u8 0, .int .u8 0, .int .u8 0, .int .u8 0, .int .u8 0, .int .u8 0, .int .u8 0, .int .u8 0, .int .u8 0, .int .u8 0, .int .u8 0, .int .u8 0] := by rfl
/-- Bytes that lie in a block, made into a string. -/
theorem conv_row (l : List UInt8) (w : World) (b c : Nat) (t : TypeId) (fr : Nat × Nat) (hg : w.heap[b]? = some (.cells (hv l) t fr)) : (convert 60 9 (.slice (some ⟨b, 0, none⟩) l.length c)).run Tryd.prog w = .ok (.string (S l)) w := by
  rw [run_convert_bytes_string _ _ _ 5 _ _ _ Tryd.underlying60 Tryd.underlying5 Tryd.underlying9]
  have hl := run_loadCells_list (P := Tryd.prog) w ⟨b, 0, none⟩ ((l.map fun b => (b.toNat : Int)).map (Value.int .u8)) (fun j v hj => by
    have e : (⟨b, 0, none⟩ : Addr).add j = ⟨b, j, none⟩ := by simp [Addr.add]; omega
    rw [e, cell_of_row _ _ _ _ _ _ hg]
    simpa [hv] using hj)
  rw [List.length_map, List.length_map] at hl
  rw [run_bytesToString _ _ _ _ _ hl, foldl_push, List.map_map]
  have e : (l.map ((fun n : Int => UInt8.ofNat n.toNat) ∘ fun b : UInt8 => (b.toNat : Int))) = l := by
    conv => rhs; rw [← List.map_id l]
    apply List.map_congr_left
    intro x _
    simp
  rw [e]
  simp [S]
/-- A stretch of bytes that lie in a block, made into a string. -/
theorem conv_seg (l : List UInt8) (w : World) (b o m c : Nat) (t : TypeId) (fr : Nat × Nat) (hg : w.heap[b]? = some (.cells (hv l) t fr)) (hm : o + m ≤ l.length) : (convert 60 9 (.slice (some ⟨b, o, none⟩) m c)).run Tryd.prog w = .ok (.string (S ((l.drop o).take m))) w := by
  rw [run_convert_bytes_string _ _ _ 5 _ _ _ Tryd.underlying60 Tryd.underlying5 Tryd.underlying9]
  have hl := run_loadCells_list (P := Tryd.prog) w ⟨b, o, none⟩ ((((l.drop o).take m).map fun b => (b.toNat : Int)).map (Value.int .u8)) (fun j v hj => by
    rw [Addr.add_mid, cell_of_row _ _ _ _ _ _ hg]
    have hj' : j < m := by
      have := (List.getElem?_eq_some_iff.1 hj).1
      simp at this; omega
    rw [List.map_map, List.getElem?_map, List.getElem?_take, if_pos hj', List.getElem?_drop] at hj
    simpa [hv] using hj)
  rw [List.length_map, List.length_map, List.length_take, List.length_drop, Nat.min_eq_left (by omega)] at hl
  rw [run_bytesToString _ _ _ _ _ hl, foldl_push, List.map_map]
  have e : (((l.drop o).take m).map ((fun n : Int => UInt8.ofNat n.toNat) ∘ fun b : UInt8 => (b.toNat : Int))) = (l.drop o).take m := by
    conv => rhs; rw [← List.map_id ((l.drop o).take m)]
    apply List.map_congr_left
    intro x _
    simp
  rw [e]
  simp [S]
end Go.Proofs.YtficmbaffkkfhaaDoor

/- Lists of hashes in memory (layer 9). -/
namespace Go.Proofs.YtficmbaffkkfhaaDoor
open Go.RowKit

/-- Hashes that a slice holds. -/
def HsAt (w : World) (v : Value) (L : List (List UInt8)) : Prop := ∃ a c, v = .slice a L.length c ∧ ∀ i x, L[i]? = some x → x.length = 32 ∧ ∃ b o, a = some ⟨b, o, none⟩ ∧ w.rangeAt b (o + i * 32) (hv x).toList
theorem range_stays {w w' : World} {b o : Nat} {cs : List Value} (h : w.rangeAt b o cs) (hb : Below w.heap.size w w') : w'.rangeAt b o cs := fun j v hj => by
  have h1 := h j v hj
  rw [World.cell?_of_block (hb.block b (World.block_lt_of_cell? w _ h1))]; exact h1
theorem HsAt.below {w w' : World} {v : Value} {L : List (List UInt8)} (h : HsAt w v L) (hb : Below w.heap.size w w') : HsAt w' v L := by
  obtain ⟨a, c, e, hh⟩ := h
  refine ⟨a, c, e, fun i x hi => ?_⟩
  obtain ⟨h1, b, o, ea, h2⟩ := hh i x hi
  exact ⟨h1, b, o, ea, range_stays h2 hb⟩
theorem HsAt.cells {w : World} {a : Option Addr} {n c : Nat} {L : List (List UInt8)} (h : HsAt w (.slice a n c) L) : n = L.length ∧ ∀ i x, L[i]? = some x → x.length = 32 ∧ ∃ b o, a = some ⟨b, o, none⟩ ∧ ∀ w', Below w.heap.size w w' → w'.rangeAt b (o + i * 32) (hv x).toList := by
  obtain ⟨a', c', e, hh⟩ := h
  obtain ⟨rfl, rfl, rfl⟩ := Value.slice.inj e
  refine ⟨rfl, fun i x hi => ?_⟩
  obtain ⟨h1, b, o, ea, h2⟩ := hh i x hi
  exact ⟨h1, b, o, ea, fun w' hb => range_stays h2 hb⟩
theorem HsAt.len {w : World} {v : Value} {L : List (List UInt8)} (h : HsAt w v L) : ∀ x ∈ L, x.length = 32 := fun x hx => by
  obtain ⟨a, c, _, hh⟩ := h
  obtain ⟨i, hi⟩ := List.getElem?_of_mem hx
  exact (hh i x hi).1
theorem HsAt.take {w : World} {a : Option Addr} {n c : Nat} {L : List (List UInt8)} (h : HsAt w (.slice a n c) L) (i : Nat) (hi : i ≤ n) : HsAt w (.slice a i c) (L.take i) := by
  obtain ⟨a', c', e, h⟩ := h
  obtain ⟨rfl, rfl, rfl⟩ := Value.slice.inj e
  refine ⟨a, c, by rw [List.length_take, Nat.min_eq_left hi], fun j s hj => ?_⟩
  rw [List.getElem?_take] at hj
  split at hj
  · exact h j s hj
  · cases hj
theorem HsAt.rest {w : World} {b o n c : Nat} {L : List (List UInt8)} (h : HsAt w (.slice (some ⟨b, o, none⟩) n c) L) (i : Nat) (hi : i ≤ n) (hc : n ≤ c) : HsAt w (.slice (if c = i then some ⟨b, o, none⟩ else some ⟨b, o + i * 32, none⟩) (n - i) (c - i)) (L.drop i) := by
  obtain ⟨a', c', e, h⟩ := h
  obtain ⟨rfl, rfl, rfl⟩ := Value.slice.inj e
  refine ⟨_, _, by rw [List.length_drop], fun j s hj => ?_⟩
  have hl := (List.getElem?_eq_some_iff.1 hj).1
  rw [List.length_drop] at hl
  rw [List.getElem?_drop] at hj
  obtain ⟨h1, b', o', e', h2⟩ := h (i + j) s hj
  obtain ⟨rfl, rfl⟩ : b = b' ∧ o = o' := by simpa using e'
  refine ⟨h1, _, o + i * 32, by rw [if_neg (by omega)], ?_⟩
  rw [show o + i * 32 + j * 32 = o + (i + j) * 32 by omega]; exact h2
end Go.Proofs.YtficmbaffkkfhaaDoor

/- A list of hashes of one's own; append to it (layer 9). -/
namespace Go.Proofs.YtficmbaffkkfhaaDoor
open Go.RowKit

/-- Hashes as cells. -/
def hsv : List (List UInt8) → List Value
  | [] => []
  | x :: L => (hv x).toList ++ hsv L
theorem hsv_append : ∀ L M : List (List UInt8), hsv (L ++ M) = hsv L ++ hsv M
  | [], M => rfl
  | x :: L, M => by simp [hsv, hsv_append L M]
theorem hsv_length : ∀ {L : List (List UInt8)}, (∀ x ∈ L, x.length = 32) → (hsv L).length = L.length * 32
  | [], _ => rfl
  | x :: L, h => by
    have h1 := h x (by simp)
    have h2 := hsv_length (L := L) (fun y hy => h y (by simp [hy]))
    rw [hsv, List.length_append, Array.length_toList, hv_size, h1, h2, List.length_cons]
    omega
theorem hsv_get : ∀ {L : List (List UInt8)} {i : Nat} {x : List UInt8}, (∀ x ∈ L, x.length = 32) → L[i]? = some x → ∀ j v, (hv x).toList[j]? = some v → (hsv L)[i * 32 + j]? = some v
  | [], i, x, _, h, _, _, _ => by simp at h
  | y :: L, 0, x, h, hx, j, v, hj => by
    obtain rfl : y = x := by simpa using hx
    rw [hsv, Nat.zero_mul, Nat.zero_add, List.getElem?_append_left (List.getElem?_eq_some_iff.1 hj).1]
    exact hj
  | y :: L, i + 1, x, h, hx, j, v, hj => by
    have h1 := h y (by simp)
    have ih := hsv_get (L := L) (i := i) (fun z hz => h z (by simp [hz])) (by simpa using hx) j v hj
    rw [hsv, List.getElem?_append_right (by rw [Array.length_toList, hv_size, h1]; omega), Array.length_toList, hv_size, h1, show (i + 1) * 32 + j - 32 = i * 32 + j by omega]
    exact ih
theorem hsv_one (L : List (List UInt8)) : ∀ u ∈ hsv L, u.oneCell' = true := by
  induction L with
  | nil => intro u hu; cases hu
  | cons x L ih =>
    intro u hu
    rw [hsv] at hu
    rcases List.mem_append.1 hu with hu | hu
    · exact Array.all_eq_true_iff_forall_mem.1 (hv_one x) u (by simpa using hu)
    · exact ih u hu
/-- A list of hashes of one's own. -/
structure Mh (w0 : World) (B : Nat) (v : Value) (L : List (List UInt8)) (w : World) : Prop where
  below : Below B w0 w
  le : B ≤ w0.heap.size
  h32 : ∀ x ∈ L, x.length = 32
  owns : w.ownsRow B 23 32 v L.length (hsv L)
section
variable {w0 w w' : World} {B : Nat} {v v' : Value} {L M : List (List UInt8)}
theorem Mh.size (h : Mh w0 B v L w) : B ≤ w.heap.size := Nat.le_trans h.le h.below.size
theorem Mh.start (w : World) : Mh w w.heap.size (.slice none 0 0) [] w := ⟨Below.refl _ _, Nat.le_refl _, fun x hx => (by cases hx), World.ownsRow_nil _ _ _ _⟩
theorem Mh.next (h : Mh w0 B v L w) (hb : Below w.heap.size w w') : Mh w0 B v L w' := by
  refine ⟨h.below.trans (hb.mono h.size), h.le, h.h32, h.owns.1, ?_⟩
  rcases h.owns.2 with q | ⟨g, cap, cur, q1, q2, q3, q4⟩
  · exact .inl q
  · exact .inr ⟨g, cap, cur, q1, q2, (hb.block _ (Array.getElem?_eq_some_iff.1 q3).1).trans q3, q4⟩
theorem Mh.alloc (h : Mh w0 B v L w) (o : Obj) : Mh w0 B v L (w.alloc o) := h.next ((Below.refl _ _).alloc (Nat.le_refl _) _)
theorem Mh.slice (h : Mh w0 B v L w) : ∃ a c, v = .slice a L.length c ∧ L.length ≤ c := by
  rcases h.owns.2 with ⟨q1, q2⟩ | ⟨g, cap, cur, q1, _, _, q4, _⟩
  · exact ⟨none, 0, by rw [q1, q2], by omega⟩
  · exact ⟨_, _, q1, q4⟩
theorem Mh.at_ (h : Mh w0 B v L w) : HsAt w v L := by
  rcases h.owns.2 with ⟨q1, q2⟩ | ⟨g, cap, cur, q1, _, hg, _, _, _, htk⟩
  · refine ⟨none, 0, by rw [q1, q2], fun i x hi => ?_⟩
    have := (List.getElem?_eq_some_iff.1 hi).1
    omega
  · refine ⟨_, _, q1, fun i x hi => ⟨h.h32 x (List.mem_of_getElem? hi), g, 0, rfl, fun j u hj => ?_⟩⟩
    have hl := (List.getElem?_eq_some_iff.1 hi).1
    have h1 := hsv_get h.h32 hi j u hj
    have hj32 : j < 32 := by
      have := (List.getElem?_eq_some_iff.1 hj).1
      rwa [Array.length_toList, hv_size, h.h32 x (List.mem_of_getElem? hi)] at this
    rw [← htk, List.getElem?_take, if_pos (by omega)] at h1
    rw [cell_of_row _ _ _ _ _ _ hg, Nat.zero_add, ← Array.getElem?_toList]
    exact h1
theorem info_hash : ∃ i z, Tryd.prog.info? 23 = some i ∧ i.zero = some z ∧ z.cells.size = 32 ∧ i.size = 32 ∧ i.bytes = 32 := by
  have h : (Tryd.prog.info? 23).map (fun i => (i.zero.map (fun z => z.cells.size), i.size, i.bytes)) = some (some 32, 32, 32) := by kernel_rfl
  cases hq : Tryd.prog.info? 23 with
  | none => rw [hq] at h; cases h
  | some i =>
    rw [hq] at h
    simp at h
    obtain ⟨h1, h2, h3⟩ := h
    obtain ⟨z, hz, hs⟩ := h1
    exact ⟨i, z, rfl, hz, hs, h2, h3⟩
/-- append of hashes (some, in memory) to a list of one's own. -/
theorem wp_append_mh {o : Oper} {a : Act} {K : Act → World → Prop} {Q : Exit → Act → World → Prop} (s y : Operand) (ho : o.op = .call { callee := .builtin .append, args := #[s, y], argTypes := #[22, 22] })
    (hM : Mh w0 B v L w) (ad : Addr) (c : Nat) (hs : a.eval s = v) (hy : a.eval y = .slice (some ad) M.length c) (hN : HsAt w (.slice (some ad) M.length c) M) (R : List (List UInt8)) (n : Nat) (hR : L ++ M = R) (hn : R.length = n) (hl : n ≤ 100000)
    (h : ∀ xa xc w', n ≤ xc → Mh w0 B (.slice xa n xc) R w' → K (a.put o.dst (.slice xa n xc)) w') : o.wp Tryd.prog a w K Q := by
  subst hR hn
  obtain ⟨ia, z, i1, i2, i3, i4, i5⟩ := info_hash
  have h32 := hN.len
  rw [List.length_append] at *
  refine wp_append_own w s y 22 ho B 23 ia z 32 32 Tryd.underlying22 i1 i2 i4 i5 i3 (by omega) v L.length (hsv L) hs hM.owns ad M.length c (hsv M) hy (hsv_length h32) (fun j u hj => ?_) (hsv_one M) (by simp only [maxLen]; omega) (by omega) hM.size (fun v' w' r1 r2 _ => ?_)
  · have hjl := (List.getElem?_eq_some_iff.1 hj).1
    rw [hsv_length h32] at hjl
    obtain ⟨x, hx⟩ : ∃ x, M[j / 32]? = some x := ⟨_, List.getElem?_eq_getElem (by omega)⟩
    obtain ⟨hx32, b, off, e2, hr⟩ := hN.cells.2 (j / 32) x hx
    obtain rfl : ad = ⟨b, off, none⟩ := by simpa using e2
    obtain ⟨u', hu'⟩ : ∃ u', (hv x).toList[j % 32]? = some u' := ⟨_, List.getElem?_eq_getElem (by rw [Array.length_toList, hv_size, hx32]; omega)⟩
    have h1 := hsv_get h32 hx _ _ hu'
    rw [show j / 32 * 32 + j % 32 = j by omega, hj] at h1
    have h2 := hr w (Below.refl _ _) _ _ hu'
    rw [Addr.add_mid, show off + j = off + j / 32 * 32 + j % 32 by omega, h2, Option.some.inj h1]
  · rcases id r1.2 with ⟨q1, q2⟩ | ⟨g, cap, cur, rfl, _, _, q4, _⟩
    · rw [q1]
      rw [q1] at r1
      have e0 : (Value.slice none 0 0) = .slice none (L.length + M.length) 0 := by rw [q2]
      rw [e0]
      refine h _ 0 w' (by omega) ⟨hM.below.grown r2 hM.size (fun j hj => (World.ownsRow.lt hM.owns j hj).1), hM.le, fun x hx => ?_, by rw [List.length_append, hsv_append, ← e0]; exact r1⟩
      rcases List.mem_append.1 hx with hx | hx
      · exact hM.h32 x hx
      · exact h32 x hx
    · refine h _ cap w' q4 ⟨hM.below.grown r2 hM.size (fun j hj => (World.ownsRow.lt hM.owns j hj).1), hM.le, fun x hx => ?_, by rw [List.length_append, hsv_append]; exact r1⟩
      rcases List.mem_append.1 hx with hx | hx
      · exact hM.h32 x hx
      · exact h32 x hx
theorem wpList_append_mh {ops : Array Oper} {rest : List Oper} {o : Oper} {a : Act} {Q : Exit → Act → World → Prop} (hgd : o.guard = none) (s y : Operand) (ho : o.op = .call { callee := .builtin .append, args := #[s, y], argTypes := #[22, 22] })
    (hM : Mh w0 B v L w) (ad : Addr) (c : Nat) (hs : a.eval s = v) (hy : a.eval y = .slice (some ad) M.length c) (hN : HsAt w (.slice (some ad) M.length c) M) (R : List (List UInt8)) (n : Nat) (hR : L ++ M = R) (hn : R.length = n) (hl : n ≤ 100000)
    (h : ∀ xa xc w', n ≤ xc → Mh w0 B (.slice xa n xc) R w' → wpList Tryd.prog ops Q rest (a.put o.dst (.slice xa n xc)) w') : wpList Tryd.prog ops Q (o :: rest) a w :=
  wpList_plain hgd fun _ hK => wp_append_mh s y ho hM ad c hs hy hN R n hR hn hl fun xa xc w' h1 h2 => hK _ _ (h xa xc w' h1 h2)
end
end Go.Proofs.YtficmbaffkkfhaaDoor

namespace Go.Proofs.YtficmbaffkkfhaaDoor
open Go.RowKit

theorem run_append_hs_new {w : World} (ty : TypeId) (e : Addr) (ad : Addr) (c : Nat) (M : List (List UInt8)) (hN : HsAt w (.slice (some ad) M.length c) M) (hne : 0 < M.length) (hl : M.length ≤ 100000) :
    ∃ xc w', (Builtin.append_ #[22, 22] ty #[.slice (some e) 0 0, .slice (some ad) M.length c]).run Tryd.prog w = .ok (.slice (some ⟨w.heap.size, 0, none⟩) M.length xc) w' ∧ M.length ≤ xc ∧ Mh w w.heap.size (.slice (some ⟨w.heap.size, 0, none⟩) M.length xc) M w' := by
  obtain ⟨ia, z, i1, i2, i3, i4, i5⟩ := info_hash
  have h32 := hN.len
  have hnl : (hsv M).length = M.length * 32 := hsv_length h32
  have hnews : ∀ j u, (hsv M)[j]? = some u → w.cell? (ad.add j) = some u := fun j u hj => by
    have hjl := (List.getElem?_eq_some_iff.1 hj).1
    rw [hnl] at hjl
    obtain ⟨x, hx⟩ : ∃ x, M[j / 32]? = some x := ⟨_, List.getElem?_eq_getElem (by omega)⟩
    obtain ⟨hx32, b, off, e2, hr⟩ := hN.cells.2 (j / 32) x hx
    obtain rfl : ad = ⟨b, off, none⟩ := by simpa using e2
    obtain ⟨u', hu'⟩ : ∃ u', (hv x).toList[j % 32]? = some u' := ⟨_, List.getElem?_eq_getElem (by rw [Array.length_toList, hv_size, hx32]; omega)⟩
    have h1 := hsv_get h32 hx _ _ hu'
    rw [show j / 32 * 32 + j % 32 = j by omega, hj] at h1
    have h2 := hr w (Below.refl _ _) _ _ hu'
    rw [Addr.add_mid, show off + j = off + j / 32 * 32 + j % 32 by omega, h2, Option.some.inj h1]
  have hr := run_append_grow (P := Tryd.prog) w 22 ty 23 ia z Tryd.underlying22 i1 i2 e 0 0 [] (by simp) (fun j v hj => by cases hj) ad M.length c (hsv M) (by rw [hnl, i4]) hnews (by omega) (by omega) (growslice_fits (by omega) (by rw [i5]; omega))
  have hge := grownCap_ge w (0 + M.length) 0 23
  have hcm : grownCap w (0 + M.length) 0 23 ≤ maxLen := grownCap_le_maxLen w _ 0 _ (by simp only [maxLen]; omega)
  generalize grownCap w (0 + M.length) 0 23 = q at *
  rw [Nat.zero_add] at hr hge
  refine ⟨q, _, hr, hge, ⟨(Below.refl _ _).drew.alloc (Nat.le_refl _) _, Nat.le_refl _, h32, ?_, .inr ⟨w.heap.size, q, _, rfl, Nat.le_refl _, heap_alloc_new w.drew _, hge, hcm, ?_, ?_⟩⟩⟩
  · exact hnl
  · simp only [Array.size_append, List.size_toArray, size_zeroCells, i3, hnl, List.length_nil, Nat.zero_add]
    omega
  · simp only [Array.toList_append, List.nil_append]
    rw [← hnl]
    exact List.take_left
theorem wp_append_hs_new {o : Oper} {a : Act} {w : World} {K : Act → World → Prop} {Q : Exit → Act → World → Prop} (s y : Operand) (ho : o.op = .call { callee := .builtin .append, args := #[s, y], argTypes := #[22, 22] })
    (e : Addr) (hs : a.eval s = .slice (some e) 0 0) (ad : Addr) (c : Nat) (M : List (List UInt8)) (n : Nat) (hn : M.length = n) (hy : a.eval y = .slice (some ad) n c) (hN : HsAt w (.slice (some ad) n c) M) (hne : 0 < n) (hl : n ≤ 100000)
    (h : ∀ xa xc w', n ≤ xc → Mh w w.heap.size (.slice xa n xc) M w' → K (a.put o.dst (.slice xa n xc)) w') : o.wp Tryd.prog a w K Q := by
  subst hn
  obtain ⟨xc, w', hr, h1, h2⟩ := run_append_hs_new (w := w) o.type e ad c M hN hne hl
  unfold Oper.wp execOp
  simp only [ho, resolve, invoke, builtin, Sem.run_bind, Sem.run_pure, Result.andThen_ok, List.map_toArray, List.map_cons, List.map_nil, hs, hy, hr]
  exact h _ xc w' h1 h2
end Go.Proofs.YtficmbaffkkfhaaDoor
