/- A slice that is built of two hashes (layer 10). -/
import Derived.Test.YtficmbaffkkfhaaDoorW1
import Derived.ChangeKeysEq
import Derived.Test.YtficmbaffkkfhaaDoorW5
import Derived.Test.YtficmbaffkkfhaaDoorW3
import Derived.Deep.RegionHeld3
import Derived.Deep.DeepCutAuto
import Derived.Test.YtficmbaffkkfhaaDoorW7
import Derived.Great.BuildSlice
/- A law of the walk: arrays of bytes held against each other. -/
namespace Go.Proofs.YtficmbaffkkfhaaDoor
open Go.RowKit
variable {P : Program}

theorem hv_get (l : List UInt8) (i : Nat) (h : i < l.length) : (hv l)[i]? = some (.int .u8 ((l[i]'h).toNat : Int)) := by
  simp [hv, List.getElem?_eq_getElem h]
theorem eqItems_bytes (w : World) (d : Nat) (e : TypeId) (he : P.underlying e = some (.int .u8)) (hc : P.cellsOf e = 1) (a b : List UInt8) (h : a.length = b.length) : ∀ is : List Nat, (∀ i ∈ is, i < a.length) →
    (Op.eqItems (d + 1) e (P.cellsOf e) (hv a) (hv b) is).run P w = .ok (is.all fun i => a[i]? == b[i]?) w
  | [], _ => by simp [Op.eqItems]
  | i :: is, hi => by
    have h1 : i < a.length := hi i (by simp)
    have h2 : i < b.length := by omega
    have hk : P.plainKey e = true := by simp [Program.plainKey, he]
    have p1 := run_part_plain (P := P) w hk (hv_get a i h1)
    have p2 := run_part_plain (P := P) w hk (hv_get b i h2)
    have ih := eqItems_bytes w d e he hc a b h is (fun j hj => hi j (by simp [hj]))
    have p3 := run_equalIn_int (P := P) w d e .u8 .u8 ((a[i]'h1).toNat : Int) ((b[i]'h2).toNat : Int) he
    have hbe : (((a[i]'h1).toNat : Int) == ((b[i]'h2).toNat : Int)) = (a[i]? == b[i]?) := by
      rw [List.getElem?_eq_getElem h1, List.getElem?_eq_getElem h2, Bool.eq_iff_iff]
      simp
      exact ⟨fun h => UInt8.toNat_inj.1 (by omega), fun h => by rw [h]⟩
    rw [hbe] at p3
    simp only [Op.eqItems, Sem.run_bind, hc, Nat.mul_one, p1, p2, p3, Result.andThen_ok, List.all_cons]
    rw [hc] at ih
    cases a[i]? == b[i]? with
    | false => simp
    | true => simpa using ih
theorem all_eq (a b : List UInt8) (h : a.length = b.length) : ((List.range a.length).all fun i => a[i]? == b[i]?) = (a == b) := by
  rw [Bool.eq_iff_iff, List.all_eq_true, beq_iff_eq]
  refine ⟨fun H => ?_, fun H i _ => by rw [H]; simp⟩
  apply List.ext_getElem? 
  intro i
  by_cases hi : i < a.length
  · simpa using H i (by simpa using hi)
  · rw [List.getElem?_eq_none (by omega), List.getElem?_eq_none (by omega)]
theorem run_eql_bytes (w : World) (t e : TypeId) (n : Nat) (hu : P.underlying t = some (.array n e)) (he : P.underlying e = some (.int .u8)) (hc : P.cellsOf e = 1) (hi : (P.info? e).isSome = true) (a b : List UInt8) (ha : a.length = n) (hb : b.length = n) :
    (binOp .eql t (.agg (hv a)) (.agg (hv b))).run P w = .ok (.bool (a == b)) w := by
  obtain ⟨i, hi⟩ := Option.isSome_iff_exists.1 hi
  rw [run_eql_struct, run_equalIn_array w 9999 (hv a) (hv b) hu hi]
  subst ha
  rw [eqItems_bytes w 9998 e he hc a b (by omega) _ (fun i hi => by simpa using hi), all_eq a b (by omega)]
  rfl
theorem run_neq_bytes (w : World) (t e : TypeId) (n : Nat) (hu : P.underlying t = some (.array n e)) (he : P.underlying e = some (.int .u8)) (hc : P.cellsOf e = 1) (hi : (P.info? e).isSome = true) (a b : List UInt8) (ha : a.length = n) (hb : b.length = n) :
    (binOp .neq t (.agg (hv a)) (.agg (hv b))).run P w = .ok (.bool (!(a == b))) w := by
  obtain ⟨i, hi⟩ := Option.isSome_iff_exists.1 hi
  rw [run_neq_struct, run_equalIn_array w 9999 (hv a) (hv b) hu hi]
  subst ha
  rw [eqItems_bytes w 9998 e he hc a b (by omega) _ (fun i hi => by simpa using hi), all_eq a b (by omega)]
  rfl
end Go.Proofs.YtficmbaffkkfhaaDoor

/- Hashes compared. -/
namespace Go.Proofs.YtficmbaffkkfhaaDoor
open Go.RowKit

theorem eqH (w : World) (a b : List UInt8) (ha : a.length = 32) (hb : b.length = 32) : (binOp .eql 23 (.agg (hv a)) (.agg (hv b))).run Tryd.prog w = .ok (.bool (a == b)) w :=
  run_eql_bytes w 23 5 32 Tryd.underlying23 Tryd.underlying5 cells_u8 (by kernel_rfl) a b ha hb
theorem neqH (w : World) (a b : List UInt8) (ha : a.length = 32) (hb : b.length = 32) : (binOp .neq 23 (.agg (hv a)) (.agg (hv b))).run Tryd.prog w = .ok (.bool (!(a == b))) w :=
  run_neq_bytes w 23 5 32 Tryd.underlying23 Tryd.underlying5 cells_u8 (by kernel_rfl) a b ha hb
end Go.Proofs.YtficmbaffkkfhaaDoor

/- The law's Same of one list of hashes (layer 9). -/
namespace Go.Proofs.YtficmbaffkkfhaaDoor
open Go.RowKit

set_option maxRecDepth 100000 in
set_option maxHeartbeats 2000000 in
set_option linter.unusedSimpArgs false in
theorem same_hs {w : World} {v1 v2 : Value} {L : List (List UInt8)} (h1 : HsAt w v1 L) (h2 : HsAt w v2 L) (hl : L.length ≤ 1000000) : Calls Tryd.prog 11 #[v1, v2] w fun e w' => e = .returned (.bool true) ∧ Below w.heap.size w w' := by
  obtain ⟨a1, q1, rfl, -⟩ := id h1
  obtain ⟨a2, q2, rfl, -⟩ := id h2
  have H1 : Hid _ := h1.cells.2
  have H2 : Hid _ := h2.cells.2
  clear h1 h2
  have hne : ((L.length : Int) != (L.length : Int)) = false := by simp
  go_enter Tryd.func11, Tryd.ntmps11
  go_wp2
  go_loopw [5] (fun i wr => ∃ k : Nat, k ≤ L.length ∧ i = .int .i64 k ∧ Below w.heap.size w wr) (fun i _ => L.length - (intOf i).toNat)
  case atStart => exact ⟨0, Nat.zero_le _, rfl, Below.refl _ _⟩
  case round =>
    obtain ⟨m, hm, rfl, hB⟩ := hrel
    by_cases hlt : m < L.length
    · obtain ⟨x, hx⟩ : ∃ x, L[m]? = some x := ⟨_, List.getElem?_eq_getElem hlt⟩
      obtain ⟨hx32, b1, o1, rfl, k1⟩ := H1.out m x hx
      obtain ⟨-, b2, o2, rfl, k2⟩ := H2.out m x hx
      have K1 : Hid _ := k1
      have K2 : Hid _ := k2
      have HB : Hid (Below w.heap.size w wr) := hB
      have hlt2 : (m : Int) < (L.length : Int) := by omega
      have ic : Hid ((Tryd.prog.info? 23).map (·.size) = some (hv x).toList.length) := by show _ = _; rw [info_h32, Array.length_toList, hv_size, hx32]
      have hnq : ∀ w' : World, (binOp .neq 23 (.agg (hv x)) (.agg (hv x))).run Tryd.prog w' = .ok (.bool false) w' := fun w' => by
        have := neqH w' x x hx32 hx32
        simpa using this
      clear k1 k2 hB hx
      generalize hv x = C at *
      go_upto_region 6 with fail
      refine wp_region_held (S := Below w.heap.size w) (by kernel_rfl) ?_
      change wpAnyH _ _ _ _ _ _ _ _ (World.drew _)
      have HX : Below w.heap.size w wr.drew := HB.out.drew
      generalize World.drew _ = w3 at *
      refine wpAnyH_take (i := 0) (v := .slice (some ⟨b1, o1, none⟩) L.length q1) rfl (by kernel_rfl) (by kernel_rfl) (by kernel_rfl) (fun _ _ _ h => h) (Or.inl ⟨by rfl, by intro w _; go_simp⟩) HX ?_
      simp only [List.getElem_toArray, List.getElem_cons_succ, List.getElem_cons_zero, Act.put, List.setIfInBounds_toArray, List.set_cons_zero, List.set_cons_succ]
      refine wpAnyH_take (i := 1) (v := .int .i64 m) rfl (by kernel_rfl) (by kernel_rfl) (by kernel_rfl) (fun _ _ _ h => h) (Or.inl ⟨by rfl, by intro w _; go_simp⟩) HX ?_
      simp only [List.getElem_toArray, List.getElem_cons_succ, List.getElem_cons_zero, Act.put, List.setIfInBounds_toArray, List.set_cons_zero, List.set_cons_succ]
      refine wpAnyH_take (i := 2) (v := .pointer (some ⟨b1, o1 + m * 32, none⟩)) rfl (by kernel_rfl) (by kernel_rfl) (by kernel_rfl) (fun _ _ _ h => h) (Or.inl ⟨by rfl, by intro w _; go_simp⟩) HX ?_
      simp only [List.getElem_toArray, List.getElem_cons_succ, List.getElem_cons_zero, Act.put, List.setIfInBounds_toArray, List.set_cons_zero, List.set_cons_succ]
      refine wpAnyH_take (i := 3) (v := .agg C) rfl (by kernel_rfl) (by kernel_rfl) (by kernel_rfl) (fun _ _ _ h => h) (yieldsIf_load_mid (by rfl) 23 _ rfl b1 (o1 + m * 32) rfl C.toList _ (fun w' h => K1.out w' h) Tryd.underlying23 rfl ic.out) HX ?_
      simp only [List.getElem_toArray, List.getElem_cons_succ, List.getElem_cons_zero, Act.put, List.setIfInBounds_toArray, List.set_cons_zero, List.set_cons_succ]
      refine wpAnyH_take (i := 4) (v := .slice (some ⟨b2, o2, none⟩) L.length q2) rfl (by kernel_rfl) (by kernel_rfl) (by kernel_rfl) (fun _ _ _ h => h) (Or.inl ⟨by rfl, by intro w _; go_simp⟩) HX ?_
      simp only [List.getElem_toArray, List.getElem_cons_succ, List.getElem_cons_zero, Act.put, List.setIfInBounds_toArray, List.set_cons_zero, List.set_cons_succ]
      refine wpAnyH_take (i := 5) (v := .int .i64 m) rfl (by kernel_rfl) (by kernel_rfl) (by kernel_rfl) (fun _ _ _ h => h) (Or.inl ⟨by rfl, by intro w _; go_simp⟩) HX ?_
      simp only [List.getElem_toArray, List.getElem_cons_succ, List.getElem_cons_zero, Act.put, List.setIfInBounds_toArray, List.set_cons_zero, List.set_cons_succ]
      refine wpAnyH_take (i := 6) (v := .pointer (some ⟨b2, o2 + m * 32, none⟩)) rfl (by kernel_rfl) (by kernel_rfl) (by kernel_rfl) (fun _ _ _ h => h) (Or.inl ⟨by rfl, by intro w _; go_simp⟩) HX ?_
      simp only [List.getElem_toArray, List.getElem_cons_succ, List.getElem_cons_zero, Act.put, List.setIfInBounds_toArray, List.set_cons_zero, List.set_cons_succ]
      refine wpAnyH_take (i := 7) (v := .agg C) rfl (by kernel_rfl) (by kernel_rfl) (by kernel_rfl) (fun _ _ _ h => h) (yieldsIf_load_mid (by rfl) 23 _ rfl b2 (o2 + m * 32) rfl C.toList _ (fun w' h => K2.out w' h) Tryd.underlying23 rfl ic.out) HX ?_
      simp only [List.getElem_toArray, List.getElem_cons_succ, List.getElem_cons_zero, Act.put, List.setIfInBounds_toArray, List.set_cons_zero, List.set_cons_succ]
      refine wpAnyH_take (i := 8) (v := .bool false) rfl (by kernel_rfl) (by kernel_rfl) (by kernel_rfl) (fun _ _ _ h => h) (Or.inl ⟨by rfl, by intro w9 _; go_simp⟩) HX ?_
      simp only [List.getElem_toArray, List.getElem_cons_succ, List.getElem_cons_zero, Act.put, List.setIfInBounds_toArray, List.set_cons_zero, List.set_cons_succ]
      refine wpAnyH_done (by kernel_rfl) ?_ _
      have HXh : Hid _ := HX
      clear HX
      go_wp2
      go_roundw
      case rel => exact ⟨m + 1, by omega, by go_num, HXh.out⟩
      case measure => simp [intOf]; omega
    · obtain rfl : m = L.length := by omega
      have hlt2 : ¬ ((L.length : Nat) : Int) < (L.length : Int) := by omega
      have HB : Hid _ := hB
      clear hB
      go_wp2
      go_ret
      exact ⟨rfl, HB.out⟩
end Go.Proofs.YtficmbaffkkfhaaDoor

/- What fill puts into cells, part by part (layer 9). -/
namespace Go.Proofs.YtficmbaffkkfhaaDoor
open Go.RowKit

theorem fold_put : ∀ (l : List Value) (k : Nat) (off : Nat) (Z : Array Value), off + k + l.length ≤ Z.size → (l.zipIdx k).foldl (fun (cs : Array Value) (x : Value × Nat) => cs.setIfInBounds (off + x.snd) x.fst) Z = (Z.toList.take (off + k) ++ l ++ Z.toList.drop (off + k + l.length)).toArray
  | [], k, off, Z, _ => by simp
  | v :: l, k, off, Z, h => by
    rw [List.zipIdx_cons, List.foldl_cons, fold_put l (k + 1) off _ (by simp at h ⊢; omega)]
    congr 1
    simp only [Array.toList_setIfInBounds, List.length_cons] at h ⊢
    have hk : off + k < Z.toList.length := by rw [Array.length_toList]; omega
    rw [show off + (k + 1) = off + k + 1 by omega, List.take_add_one, List.take_set_of_le (by omega), List.getElem?_set_self hk, List.drop_set_of_lt (by omega)]
    simp [Nat.add_assoc, Nat.add_comm 1]
theorem fold_put_all (R : Array Value) (off : Nat) (Z : Array Value) (h : off + R.size ≤ Z.size) : R.zipIdx.foldl (fun (cs : Array Value) (x : Value × Nat) => cs.setIfInBounds (off + x.snd) x.fst) Z = (Z.toList.take off ++ R.toList ++ Z.toList.drop (off + R.size)).toArray := by
  rw [← Array.foldl_toList, Array.toList_zipIdx, fold_put R.toList 0 off Z (by rw [Array.length_toList]; omega)]
  simp
theorem fill_cons {place : Nat → Option (Nat × Nat)} {cells : Array Value} {i : Nat} {v : Value} {rest : List (Nat × Value)} {off size : Nat} (hp : place i = some (off, size)) (hs : v.cells.size = size) (hb : off + size ≤ cells.size) :
    Instr.fill place cells ((i, v) :: rest) = Instr.fill place (cells.toList.take off ++ v.cells.toList ++ cells.toList.drop (off + size)).toArray rest := by
  subst hs
  have h : ¬ (decide (v.cells.size ≠ v.cells.size) || decide (off + v.cells.size > cells.size)) = true := by simp; omega
  rw [Instr.fill, hp]
  simp only
  rw [if_neg h]
  exact congrArg (fun c => Instr.fill place c rest) (fold_put_all v.cells off cells hb)
end Go.Proofs.YtficmbaffkkfhaaDoor

namespace Go.Proofs.YtficmbaffkkfhaaDoor
open Go.RowKit

theorem fill_two (Z X Y : Array Value) (hZ : Z.size = 64) (hX : X.size = 32) (hY : Y.size = 32) : Instr.fill (fun i => some (i * 32, 32)) Z [(0, .agg X), (1, .agg Y)] = some (X ++ Y) := by
  have la : X.toList.length = 32 := by rw [Array.length_toList, hX]
  have lb : Y.toList.length = 32 := by rw [Array.length_toList, hY]
  have lz : Z.toList.length = 64 := by rw [Array.length_toList, hZ]
  rw [fill_cons (v := .agg X) (off := 0) (size := 32) rfl hX (by omega), fill_cons (v := .agg Y) (off := 32) (size := 32) rfl hY (by simp [Value.cells, la, lz])]
  rw [Instr.fill]
  congr 1
  apply Array.toList_inj.1
  simp only [Value.cells, List.take_zero, List.nil_append, Nat.zero_add]
  rw [List.take_left' la, List.drop_eq_nil_of_le (by simp [la, lz])]
  simp
theorem wp_build_two {o : Oper} {a : Act} {w : World} {K : Act → World → Prop} {Q : Exit → Act → World → Prop} (x y : Operand) (ho : o.op = .buildSlice 22 2 #[(0, x), (1, y)]) (X Y : Array Value) (hx : a.eval x = .agg X) (hy : a.eval y = .agg Y) (hX : X.size = 32) (hY : Y.size = 32)
    (h : K (a.put o.dst (.slice (some ⟨w.heap.size, 0, none⟩) 2 2)) (w.alloc (.cells (X ++ Y) 23))) : o.wp Tryd.prog a w K Q := by
  obtain ⟨ie, z, g1, g2, g3, g4, -⟩ := info_hash
  refine wp_buildSlice 22 23 2 _ ho (X ++ Y) ie z Tryd.underlying22 g1 g2 (by rw [g4]; decide) (by rw [g4]; decide) ?_ h
  rw [g4]
  have e1 : ((#[(0, x), (1, y)] : Array (Nat × Operand)).map fun (i, x) => (i, a.eval x)).toList = [(0, Value.agg X), (1, Value.agg Y)] := by simp [hx, hy]
  rw [e1]
  exact fill_two _ X Y (by simp) hX hY
end Go.Proofs.YtficmbaffkkfhaaDoor
