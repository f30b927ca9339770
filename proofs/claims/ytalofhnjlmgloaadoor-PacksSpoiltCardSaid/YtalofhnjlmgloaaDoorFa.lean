/- Contracts of frames.parts: the four parts of a text of 124 bytes, of a block of 128, told one by one. -/
import Derived.Test.YtalofhnjlmgloaaDoorFm
import Derived.Test.YtalofhnjlmgloaaDoorBt
import Derived.Test.YtalofhnjlmgloaaDoorLx
import Derived.RangeFuncNested
import Derived.RangeFuncBound
import Derived.RangeFuncCalls
import Derived.RangeFuncLeaves
import Derived.RangeFuncBox
import Derived.Shelf.Abstract
import Derived.Shelf.RegionOpen
import Derived.WalkKit
import Derived.OwnWalkIn
import Derived.TacticsInMore
import Derived.LoopNIn
import Derived.LoopIn
namespace Go.Proofs.YtalofhnjlmgloaaDoor
open Go.RowKit Go.Shelf
attribute [local go_sem] Oper.semAt_some

theorem S_ext (l : List UInt8) (a b : Nat) : (S l).extract a b = S (cut l a (b - a)) := by
  apply ByteArray.ext
  rw [ByteArray.data_extract]
  simp [S, cut, List.extract_toArray, List.extract_eq_take_drop]
/-- A part with its place, as it is handed on. -/
def partV (l : List UInt8) (z : Nat) (j : Fin 4) : Array Value := #[.int .i64 (j.val : Int), .string (S (cut l (z * j.val) z))]
/-- The block in which the text lies stays. -/
def KeepB (b : Nat) (W W' : World) : Prop := W'.heap[b]? = W.heap[b]?
theorem KeepB.t {b : Nat} {A B C : World} (h : KeepB b A B) (k : KeepB b B C) : KeepB b A C := Eq.trans k h
theorem KeepB.b {b : Nat} {w : World} (hb : b < w.heap.size) (W : World) (l : Nat) (o o' : Obj) (hl : w.heap.size ≤ l) (_ : W.heap[l]? = some o) (_ : o.isCells = false) (_ : o.isWalk = false) : KeepB b W (W.putObj l o') :=
  World.putObj_heap_other (by omega)
def firstN : Nat → List (Fin 4)
  | 0 => []
  | 1 => [0]
  | 2 => [0, 1]
  | 3 => [0, 1, 2]
  | _ => [0, 1, 2, 3]

set_option maxHeartbeats 1000000 in
/-- parts: the text is boxed; the function captures the box. -/
theorem parts_in (F : Fence) (n : Nat) (h : F.fn 36) (hro : F.round = none) (s : ByteArray) (w : World) :
    CallsIn F n Tryd.prog 36 #[.string s] w fun e w' => e = .returned (.func (.func 47) #[] #[.pointer (some ⟨w.heap.size, 0, none⟩)]) ∧ w' = w.alloc (.cells #[.string s] 9) := by
  refine callsIn_of_wp Tryd.func36 rfl h ?_ hro
  simp only [Tryd.ntmps36, List.size_toArray, List.length_cons, List.length_nil, Nat.reduceAdd, Nat.reduceSub, Array.replicate_succ, Array.replicate_zero, List.push_toArray, List.append_toArray, List.nil_append, List.cons_append]
  gi_wp2
  go_ret
  exact ⟨rfl, rfl⟩

set_option maxRecDepth 100000 in
set_option maxHeartbeats 4000000 in
theorem parts124_in (F : Fence) (n : Nat) (h6 : F.fn 47) (hro : F.round = none) (hn : 1 ≤ n) (l b : Nat) (t : List UInt8) (ht : t.length = 124) (ty : TypeId) (J Jx : List (Fin 4) → World → Prop)
    (hY : ∀ pre x W1, J pre W1 → pre.length < 4 → YieldAt F (n - 1) Tryd.prog l (partV t 31 x) W1 fun e W' =>
      (e = .returned (.bool true) ∧ J (pre ++ [x]) W' ∧ KeepB b W1 W') ∨ (e = .returned (.bool false) ∧ Jx (pre ++ [x]) W'))
    (W : World) (hb : W.heap[b]? = some (.cells #[.string (S t)] ty (0, 0))) (h0 : J [] W) :
    CallsIn F n Tryd.prog 47 #[.func (.yield l) #[] #[], .pointer (some ⟨b, 0, none⟩)] W fun e W' => (∃ v, e = .returned v) ∧
      ((∃ ys, ys = [0, 1, 2, 3] ∧ J ys W') ∨ (∃ pre, pre <+: [0, 1, 2, 3] ∧ Jx pre W')) := by
  have hsz : (S t).size = 124 := by rw [S_size, ht]
  have x0 : (S t).extract 0 31 = S (cut t (31 * 0) 31) := S_ext t 0 31
  have x1 : (S t).extract 31 62 = S (cut t (31 * 1) 31) := S_ext t 31 62
  have x2 : (S t).extract 62 93 = S (cut t (31 * 2) 31) := S_ext t 62 93
  have x3 : (S t).extract 93 124 = S (cut t (31 * 3) 31) := S_ext t 93 124
  have hc0 : W.cell? ⟨b, 0, none⟩ = some (.string (S t)) := by rw [cell_of_row _ _ _ _ _ _ hb]; rfl
  generalize S t = A at *
  refine callsIn_of_wp Tryd.func47 rfl h6 ?_ hro
  simp only [Tryd.ntmps47, List.size_toArray, List.length_cons, List.length_nil, Nat.reduceAdd, Nat.reduceSub, Array.replicate_succ, Array.replicate_zero, List.push_toArray, List.append_toArray, List.nil_append, List.cons_append]
  gi_wp2
  gi_loopw [8] (fun i wr => ∃ k : Nat, k ≤ 4 ∧ i = .int .i64 k ∧ J (firstN k) wr ∧ KeepB b W wr) (fun i _ => 4 - (intOf i).toNat)
  case atStart => exact ⟨0, Nat.zero_le _, rfl, h0, rfl⟩
  case round =>
    obtain ⟨k, hk, rfl, hJs, hkb⟩ := hrel
    have hc : wr.cell? ⟨b, 0, none⟩ = some (.string A) := (World.cell?_of_block (a := ⟨b, 0, none⟩) (show wr.heap[b]? = W.heap[b]? from hkb)).trans hc0
    have hk5 : k = 0 ∨ k = 1 ∨ k = 2 ∨ k = 3 ∨ k = 4 := by omega
    rcases hk5 with rfl | rfl | rfl | rfl | rfl
    · obtain ⟨fn, tmps, assign, body, hy, hR⟩ := hY _ 0 wr hJs (by decide)
      have hy' : (Instr.yield l #[.int .i64 0, .string (S (cut t 0 31))]).run Tryd.prog wr = .ok (.round l fn tmps assign body) wr := hy
      clear hy
      gi_wp2
      refine hR.mono ?_
      rintro e W3 (⟨rfl, hJ3, hk3⟩ | ⟨rfl, hJx3⟩)
      · gi_wp2
        go_roundw
        case rel => exact ⟨1, by omega, rfl, hJ3, KeepB.t hkb hk3⟩
        case measure => simp [intOf]
      · gi_wp2
        refine bodyPost_ret (results_none rfl _ _ _) rfl ?_
        exact ⟨⟨_, rfl⟩, .inr ⟨_, by decide, hJx3⟩⟩
    · obtain ⟨fn, tmps, assign, body, hy, hR⟩ := hY _ 1 wr hJs (by decide)
      have hy' : (Instr.yield l #[.int .i64 1, .string (S (cut t 31 31))]).run Tryd.prog wr = .ok (.round l fn tmps assign body) wr := hy
      clear hy
      gi_wp2
      refine hR.mono ?_
      rintro e W3 (⟨rfl, hJ3, hk3⟩ | ⟨rfl, hJx3⟩)
      · gi_wp2
        go_roundw
        case rel => exact ⟨2, by omega, rfl, hJ3, KeepB.t hkb hk3⟩
        case measure => simp [intOf]
      · gi_wp2
        refine bodyPost_ret (results_none rfl _ _ _) rfl ?_
        exact ⟨⟨_, rfl⟩, .inr ⟨_, by decide, hJx3⟩⟩
    · obtain ⟨fn, tmps, assign, body, hy, hR⟩ := hY _ 2 wr hJs (by decide)
      have hy' : (Instr.yield l #[.int .i64 2, .string (S (cut t 62 31))]).run Tryd.prog wr = .ok (.round l fn tmps assign body) wr := hy
      clear hy
      gi_wp2
      refine hR.mono ?_
      rintro e W3 (⟨rfl, hJ3, hk3⟩ | ⟨rfl, hJx3⟩)
      · gi_wp2
        go_roundw
        case rel => exact ⟨3, by omega, rfl, hJ3, KeepB.t hkb hk3⟩
        case measure => simp [intOf]
      · gi_wp2
        refine bodyPost_ret (results_none rfl _ _ _) rfl ?_
        exact ⟨⟨_, rfl⟩, .inr ⟨_, by decide, hJx3⟩⟩
    · obtain ⟨fn, tmps, assign, body, hy, hR⟩ := hY _ 3 wr hJs (by decide)
      have hy' : (Instr.yield l #[.int .i64 3, .string (S (cut t 93 31))]).run Tryd.prog wr = .ok (.round l fn tmps assign body) wr := hy
      clear hy
      gi_wp2
      refine hR.mono ?_
      rintro e W3 (⟨rfl, hJ3, hk3⟩ | ⟨rfl, hJx3⟩)
      · gi_wp2
        go_roundw
        case rel => exact ⟨4, by omega, rfl, hJ3, KeepB.t hkb hk3⟩
        case measure => simp [intOf]
      · gi_wp2
        refine bodyPost_ret (results_none rfl _ _ _) rfl ?_
        exact ⟨⟨_, rfl⟩, .inr ⟨_, by decide, hJx3⟩⟩
    · gi_wp2
      go_end0
      exact ⟨⟨_, rfl⟩, .inl ⟨_, rfl, hJs⟩⟩
theorem parts124_stops (F : Fence) (n : Nat) (h6 : F.fn 47) (hro : F.round = none) (hn : 1 ≤ n) (b : Nat) (t : List UInt8) (ht : t.length = 124) (ty : TypeId) (w : World) (hbw : w.heap[b]? = some (.cells #[.string (S t)] ty (0, 0))) :
    SeqStopsK F n Tryd.prog 47 #[.pointer (some ⟨b, 0, none⟩)] (partV t 31) (KeepB b) (fun ys => ys = [0, 1, 2, 3]) (fun pre => pre <+: [0, 1, 2, 3]) 4 w := fun l J Jx W hW _ _ hY h0 =>
  parts124_in F n h6 hro hn l b t ht ty J Jx hY W ((hW.block b (Array.getElem?_eq_some_iff.1 hbw).1).trans hbw) h0

set_option maxRecDepth 100000 in
set_option maxHeartbeats 4000000 in
theorem parts128_in (F : Fence) (n : Nat) (h6 : F.fn 47) (hro : F.round = none) (hn : 1 ≤ n) (l b : Nat) (t : List UInt8) (ht : t.length = 128) (ty : TypeId) (J Jx : List (Fin 4) → World → Prop)
    (hY : ∀ pre x W1, J pre W1 → pre.length < 4 → YieldAt F (n - 1) Tryd.prog l (partV t 32 x) W1 fun e W' =>
      (e = .returned (.bool true) ∧ J (pre ++ [x]) W' ∧ KeepB b W1 W') ∨ (e = .returned (.bool false) ∧ Jx (pre ++ [x]) W'))
    (W : World) (hb : W.heap[b]? = some (.cells #[.string (S t)] ty (0, 0))) (h0 : J [] W) :
    CallsIn F n Tryd.prog 47 #[.func (.yield l) #[] #[], .pointer (some ⟨b, 0, none⟩)] W fun e W' => (∃ v, e = .returned v) ∧
      ((∃ ys, ys = [0, 1, 2, 3] ∧ J ys W') ∨ (∃ pre, pre <+: [0, 1, 2, 3] ∧ Jx pre W')) := by
  have hsz : (S t).size = 128 := by rw [S_size, ht]
  have x0 : (S t).extract 0 32 = S (cut t (32 * 0) 32) := S_ext t 0 32
  have x1 : (S t).extract 32 64 = S (cut t (32 * 1) 32) := S_ext t 32 64
  have x2 : (S t).extract 64 96 = S (cut t (32 * 2) 32) := S_ext t 64 96
  have x3 : (S t).extract 96 128 = S (cut t (32 * 3) 32) := S_ext t 96 128
  have hc0 : W.cell? ⟨b, 0, none⟩ = some (.string (S t)) := by rw [cell_of_row _ _ _ _ _ _ hb]; rfl
  generalize S t = A at *
  refine callsIn_of_wp Tryd.func47 rfl h6 ?_ hro
  simp only [Tryd.ntmps47, List.size_toArray, List.length_cons, List.length_nil, Nat.reduceAdd, Nat.reduceSub, Array.replicate_succ, Array.replicate_zero, List.push_toArray, List.append_toArray, List.nil_append, List.cons_append]
  gi_wp2
  gi_loopw [8] (fun i wr => ∃ k : Nat, k ≤ 4 ∧ i = .int .i64 k ∧ J (firstN k) wr ∧ KeepB b W wr) (fun i _ => 4 - (intOf i).toNat)
  case atStart => exact ⟨0, Nat.zero_le _, rfl, h0, rfl⟩
  case round =>
    obtain ⟨k, hk, rfl, hJs, hkb⟩ := hrel
    have hc : wr.cell? ⟨b, 0, none⟩ = some (.string A) := (World.cell?_of_block (a := ⟨b, 0, none⟩) (show wr.heap[b]? = W.heap[b]? from hkb)).trans hc0
    have hk5 : k = 0 ∨ k = 1 ∨ k = 2 ∨ k = 3 ∨ k = 4 := by omega
    rcases hk5 with rfl | rfl | rfl | rfl | rfl
    · obtain ⟨fn, tmps, assign, body, hy, hR⟩ := hY _ 0 wr hJs (by decide)
      have hy' : (Instr.yield l #[.int .i64 0, .string (S (cut t 0 32))]).run Tryd.prog wr = .ok (.round l fn tmps assign body) wr := hy
      clear hy
      gi_wp2
      refine hR.mono ?_
      rintro e W3 (⟨rfl, hJ3, hk3⟩ | ⟨rfl, hJx3⟩)
      · gi_wp2
        go_roundw
        case rel => exact ⟨1, by omega, rfl, hJ3, KeepB.t hkb hk3⟩
        case measure => simp [intOf]
      · gi_wp2
        refine bodyPost_ret (results_none rfl _ _ _) rfl ?_
        exact ⟨⟨_, rfl⟩, .inr ⟨_, by decide, hJx3⟩⟩
    · obtain ⟨fn, tmps, assign, body, hy, hR⟩ := hY _ 1 wr hJs (by decide)
      have hy' : (Instr.yield l #[.int .i64 1, .string (S (cut t 32 32))]).run Tryd.prog wr = .ok (.round l fn tmps assign body) wr := hy
      clear hy
      gi_wp2
      refine hR.mono ?_
      rintro e W3 (⟨rfl, hJ3, hk3⟩ | ⟨rfl, hJx3⟩)
      · gi_wp2
        go_roundw
        case rel => exact ⟨2, by omega, rfl, hJ3, KeepB.t hkb hk3⟩
        case measure => simp [intOf]
      · gi_wp2
        refine bodyPost_ret (results_none rfl _ _ _) rfl ?_
        exact ⟨⟨_, rfl⟩, .inr ⟨_, by decide, hJx3⟩⟩
    · obtain ⟨fn, tmps, assign, body, hy, hR⟩ := hY _ 2 wr hJs (by decide)
      have hy' : (Instr.yield l #[.int .i64 2, .string (S (cut t 64 32))]).run Tryd.prog wr = .ok (.round l fn tmps assign body) wr := hy
      clear hy
      gi_wp2
      refine hR.mono ?_
      rintro e W3 (⟨rfl, hJ3, hk3⟩ | ⟨rfl, hJx3⟩)
      · gi_wp2
        go_roundw
        case rel => exact ⟨3, by omega, rfl, hJ3, KeepB.t hkb hk3⟩
        case measure => simp [intOf]
      · gi_wp2
        refine bodyPost_ret (results_none rfl _ _ _) rfl ?_
        exact ⟨⟨_, rfl⟩, .inr ⟨_, by decide, hJx3⟩⟩
    · obtain ⟨fn, tmps, assign, body, hy, hR⟩ := hY _ 3 wr hJs (by decide)
      have hy' : (Instr.yield l #[.int .i64 3, .string (S (cut t 96 32))]).run Tryd.prog wr = .ok (.round l fn tmps assign body) wr := hy
      clear hy
      gi_wp2
      refine hR.mono ?_
      rintro e W3 (⟨rfl, hJ3, hk3⟩ | ⟨rfl, hJx3⟩)
      · gi_wp2
        go_roundw
        case rel => exact ⟨4, by omega, rfl, hJ3, KeepB.t hkb hk3⟩
        case measure => simp [intOf]
      · gi_wp2
        refine bodyPost_ret (results_none rfl _ _ _) rfl ?_
        exact ⟨⟨_, rfl⟩, .inr ⟨_, by decide, hJx3⟩⟩
    · gi_wp2
      go_end0
      exact ⟨⟨_, rfl⟩, .inl ⟨_, rfl, hJs⟩⟩
theorem parts128_stops (F : Fence) (n : Nat) (h6 : F.fn 47) (hro : F.round = none) (hn : 1 ≤ n) (b : Nat) (t : List UInt8) (ht : t.length = 128) (ty : TypeId) (w : World) (hbw : w.heap[b]? = some (.cells #[.string (S t)] ty (0, 0))) :
    SeqStopsK F n Tryd.prog 47 #[.pointer (some ⟨b, 0, none⟩)] (partV t 32) (KeepB b) (fun ys => ys = [0, 1, 2, 3]) (fun pre => pre <+: [0, 1, 2, 3]) 4 w := fun l J Jx W hW _ _ hY h0 =>
  parts128_in F n h6 hro hn l b t ht ty J Jx hY W ((hW.block b (Array.getElem?_eq_some_iff.1 hbw).1).trans hbw) h0
end Go.Proofs.YtalofhnjlmgloaaDoor
