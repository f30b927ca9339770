/- Pairs of hashes: [2][32]uint8 built, held against one another (layer 9). -/
import Derived.Test.YtnigcngaegafoaaDoorR9i
import Derived.Test.YtnigcngaegafoaaDoorSh1
import Derived.Laws.Tables
import Derived.Deep.MidRow
namespace Go.Proofs.YtnigcngaegafoaaDoor
open Go.RowKit

theorem info_pair : ∃ i z, Tryd.prog.info? 45 = some i ∧ i.zero = some z ∧ z.cells = hv (padTo 64 []) ∧ i.size = 64 := by
  have h : (Tryd.prog.info? 45).map (fun i => (i.zero.map (fun z => z.cells), i.size)) = some (some (hv (padTo 64 [])), 64) := by kernel_rfl
  cases hq : Tryd.prog.info? 45 with
  | none => rw [hq] at h; cases h
  | some i =>
    rw [hq] at h
    simp at h
    obtain ⟨h1, h2⟩ := h
    obtain ⟨z, hz, hs⟩ := h1
    exact ⟨i, z, rfl, hz, hs, h2⟩
theorem fold_put : ∀ (l : List Value) (k : Nat) (off : Nat) (Z : Array Value), off + k + l.length ≤ Z.size → (l.zipIdx k).foldl (fun (cs : Array Value) (x : Value × Nat) => cs.setIfInBounds (off + x.snd) x.fst) Z = (Z.toList.take (off + k) ++ l ++ Z.toList.drop (off + k + l.length)).toArray
  | [], k, off, Z, _ => by simp
  | v :: l, k, off, Z, h => by
    rw [List.zipIdx_cons, List.foldl_cons, fold_put l (k + 1) off _ (by simp at h ⊢; omega)]
    congr 1
    simp only [Array.toList_setIfInBounds, List.length_cons] at h ⊢
    have hk : off + k < Z.toList.length := by rw [Array.length_toList]; omega
    rw [show off + (k + 1) = off + k + 1 by omega, List.take_add_one, List.take_set_of_le (by omega), List.getElem?_set_self hk, List.drop_set_of_lt (by omega)]
    simp [Nat.add_assoc, Nat.add_comm 1]
theorem fold_put_all (R : Array Value) (off : Nat) (Z : Array Value) (h : off + R.size ≤ Z.size) : R.zipIdx.foldl (fun (cs : Array Value) (x : Value × Nat) => cs.setIfInBounds (off + x.snd) x.fst) Z = (Z.toList.take off ++ R.toList ++ Z.toList.drop (off + R.size)).toArray := by
  rw [← Array.foldl_toList, Array.toList_zipIdx, fold_put R.toList 0 off Z (by rw [Array.length_toList]; omega)]
  simp
theorem fill_cons {place : Nat → Option (Nat × Nat)} {cells : Array Value} {i : Nat} {v : Value} {rest : List (Nat × Value)} {off size : Nat} (hp : place i = some (off, size)) (hs : v.cells.size = size) (hb : off + size ≤ cells.size) :
    Instr.fill place cells ((i, v) :: rest) = Instr.fill place (cells.toList.take off ++ v.cells.toList ++ cells.toList.drop (off + size)).toArray rest := by
  subst hs
  have h : ¬ (decide (v.cells.size ≠ v.cells.size) || decide (off + v.cells.size > cells.size)) = true := by simp; omega
  rw [Instr.fill, hp]
  simp only
  rw [if_neg h]
  exact congrArg (fun c => Instr.fill place c rest) (fold_put_all v.cells off cells hb)
theorem built_pair (a b : List UInt8) (ha : a.length = 32) (hb : b.length = 32) : Tryd.prog.built 45 [(0, .agg (hv a)), (1, .agg (hv b))] = some (hv (a ++ b)) := by
  obtain ⟨i, z, h1, h2, h3, h4⟩ := info_pair
  obtain ⟨ie, ze, g1, -, -, g4, -⟩ := info_hash
  have ea : (hv a).size = 32 := by rw [hv_size, ha]
  have eb : (hv b).size = 32 := by rw [hv_size, hb]
  have ez : (hv (padTo 64 [])).size = 64 := by rw [hv_size, padTo_length (by decide)]
  have la : (hv a).toList.length = 32 := by rw [Array.length_toList, ea]
  have lb : (hv b).toList.length = 32 := by rw [Array.length_toList, eb]
  have lz : (hv (padTo 64 [])).toList.length = 64 := by rw [Array.length_toList, ez]
  unfold Program.built
  simp only [h1, Tryd.underlying45, h2, g1, h3, g4]
  rw [fill_cons (v := .agg (hv a)) (off := 0) (size := 32) rfl ea (by rw [ez]; decide), fill_cons (v := .agg (hv b)) (off := 32) (size := 32) rfl eb (by simp [Value.cells, la, lz])]
  rw [Instr.fill]
  congr 1
  apply Array.toList_inj.1
  simp only [Value.cells, List.take_zero, List.nil_append, Nat.zero_add]
  rw [List.take_left' la, List.drop_eq_nil_of_le (by simp [la, lz])]
  simp [hv]
theorem extract_fst (a b : List UInt8) (ha : a.length = 32) : (hv (a ++ b)).extract 0 32 = hv a := by
  apply Array.toList_inj.1
  simp [hv, ha]
theorem extract_snd (a b : List UInt8) (ha : a.length = 32) (hb : b.length = 32) : (hv (a ++ b)).extract 32 64 = hv b := by
  apply Array.toList_inj.1
  simp only [hv, Array.toList_extract, List.map_append, List.extract_eq_take_drop]
  rw [List.drop_left' (by simp [ha]), List.take_of_length_le (by simp [hb])]
theorem isagg_hash (w : World) : (isAgg 23).run Tryd.prog w = .ok true w := by
  simp [isAgg, run_underlying Tryd.underlying23]
theorem run_part_fst (w : World) (a b : List UInt8) (ha : a.length = 32) : (part 23 (hv (a ++ b)) (0 * Tryd.prog.cellsOf 23)).run Tryd.prog w = .ok (.agg (hv a)) w := by
  obtain ⟨ie, ze, g1, -, -, g4, -⟩ := info_hash
  simp [part, sizeOf, typeInfo, g1, g4, extract_fst a b ha]
theorem run_part_snd (w : World) (a b : List UInt8) (ha : a.length = 32) (hb : b.length = 32) : (part 23 (hv (a ++ b)) (1 * Tryd.prog.cellsOf 23)).run Tryd.prog w = .ok (.agg (hv b)) w := by
  obtain ⟨ie, ze, g1, -, -, g4, -⟩ := info_hash
  have hc : Tryd.prog.cellsOf 23 = 32 := by kernel_rfl
  simp [part, sizeOf, typeInfo, g1, g4, hc, extract_snd a b ha hb]
theorem run_eqIn_hash (w : World) (a b : List UInt8) (ha : a.length = 32) (hb : b.length = 32) (d : Nat) : (Op.equalIn (d + 2) 23 (.agg (hv a)) (.agg (hv b))).run Tryd.prog w = .ok (a == b) w := by
  obtain ⟨i, hi⟩ := Option.isSome_iff_exists.1 (show (Tryd.prog.info? 5).isSome = true by kernel_rfl)
  rw [run_equalIn_array w (d + 1) (hv a) (hv b) Tryd.underlying23 hi]
  have e := eqItems_bytes w d 5 Tryd.underlying5 cells_u8 a b (by omega) (List.range 32) (fun i hi => by simp at hi; omega)
  rw [e]
  have := all_eq a b (by omega)
  rw [ha] at this
  rw [this]
theorem yields_build2 {P : Program} {ops : Array Oper} {S : World → Prop} {op : Oper} {a : Act} (hw : Region.wanted op (yielded ops a.tmps) = true) (ty : TypeId) (x y : Operand) (ho : op.op = .build ty #[(0, x), (1, y)]) (X Y : Value) (hx : a.eval x = X) (hy : a.eval y = Y) (C : Array Value)
    (h : ∀ w, (Instr.build ty #[(0, X), (1, Y)]).run P w = .ok (.agg C) w) : YieldsIf P ops S op (.agg C) a :=
  .inl ⟨hw, fun w _ => by
    unfold execOp
    simp only [ho, List.map_toArray, List.map_cons, List.map_nil, hx, hy, Sem.run_bind, h, Result.andThen_ok, Sem.run_pure]⟩
theorem eqItems_two {P : Program} {w : World} {d n : Nat} {e : TypeId} {xs ys : Array Value} {x0 x1 y0 y1 : Value} {r0 r1 : Bool}
    (p1 : (part e xs (0 * n)).run P w = .ok x0 w) (p2 : (part e ys (0 * n)).run P w = .ok y0 w) (p3 : (part e xs (1 * n)).run P w = .ok x1 w) (p4 : (part e ys (1 * n)).run P w = .ok y1 w)
    (e1 : (Op.equalIn d e x0 y0).run P w = .ok r0 w) (e2 : (Op.equalIn d e x1 y1).run P w = .ok r1 w) :
    (Op.eqItems d e n xs ys [0, 1]).run P w = .ok (r0 && r1) w := by
  rw [Nat.one_mul] at p3 p4
  rw [Nat.zero_mul] at p1 p2
  cases r0 with
  | false => simp [Op.eqItems, p1, p2, e1]
  | true => cases r1 <;> simp [Op.eqItems, p1, p2, e1, p3, p4, e2]
theorem run_eqItems_pair (w : World) (D : Nat) (a b c d : List UInt8) (ha : a.length = 32) (hb : b.length = 32) (hc : c.length = 32) (hd : d.length = 32) :
    (Op.eqItems (D + 2) 23 (Tryd.prog.cellsOf 23) (hv (a ++ b)) (hv (c ++ d)) [0, 1]).run Tryd.prog w = .ok (a == c && b == d) w :=
  eqItems_two (run_part_fst w a b ha) (run_part_fst w c d hc) (run_part_snd w a b ha hb) (run_part_snd w c d hc hd) (run_eqIn_hash w a c ha hc D) (run_eqIn_hash w b d hb hd D)
theorem neq_pair (w : World) (a b c d : List UInt8) (ha : a.length = 32) (hb : b.length = 32) (hc : c.length = 32) (hd : d.length = 32) :
    (binOp .neq 45 (.agg (hv (a ++ b))) (.agg (hv (c ++ d)))).run Tryd.prog w = .ok (.bool (!(a == c && b == d))) w := by
  obtain ⟨ie, ze, g1, -⟩ := info_hash
  have h := run_eqItems_pair w 9997 a b c d ha hb hc hd
  rw [run_neq_struct, run_equalIn_array w 9999 _ _ Tryd.underlying45 g1]
  rw [show List.range 2 = [0, 1] from rfl, h]
  rfl
end Go.Proofs.YtnigcngaegafoaaDoor
