/- What fill puts into cells, part by part (layer 9). -/
import Derived.Test.YtficmbaffkkfhabDoorR9i
namespace Go.Proofs.YtficmbaffkkfhabDoor
open Go.RowKit

theorem fold_put : ∀ (l : List Value) (k : Nat) (off : Nat) (Z : Array Value), off + k + l.length ≤ Z.size → (l.zipIdx k).foldl (fun (cs : Array Value) (x : Value × Nat) => cs.setIfInBounds (off + x.snd) x.fst) Z = (Z.toList.take (off + k) ++ l ++ Z.toList.drop (off + k + l.length)).toArray
  | [], k, off, Z, _ => by simp
  | v :: l, k, off, Z, h => by
    rw [List.zipIdx_cons, List.foldl_cons, fold_put l (k + 1) off _ (by simp at h ⊢; omega)]
    congr 1
    simp only [Array.toList_setIfInBounds, List.length_cons] at h ⊢
    have hk : off + k < Z.toList.length := by rw [Array.length_toList]; omega
    rw [show off + (k + 1) = off + k + 1 by omega, List.take_add_one, List.take_set_of_le (by omega), List.getElem?_set_self hk, List.drop_set_of_lt (by omega)]
    simp [Nat.add_assoc, Nat.add_comm 1]
theorem fold_put_all (R : Array Value) (off : Nat) (Z : Array Value) (h : off + R.size ≤ Z.size) : R.zipIdx.foldl (fun (cs : Array Value) (x : Value × Nat) => cs.setIfInBounds (off + x.snd) x.fst) Z = (Z.toList.take off ++ R.toList ++ Z.toList.drop (off + R.size)).toArray := by
  rw [← Array.foldl_toList, Array.toList_zipIdx, fold_put R.toList 0 off Z (by rw [Array.length_toList]; omega)]
  simp
theorem fill_cons {place : Nat → Option (Nat × Nat)} {cells : Array Value} {i : Nat} {v : Value} {rest : List (Nat × Value)} {off size : Nat} (hp : place i = some (off, size)) (hs : v.cells.size = size) (hb : off + size ≤ cells.size) :
    Instr.fill place cells ((i, v) :: rest) = Instr.fill place (cells.toList.take off ++ v.cells.toList ++ cells.toList.drop (off + size)).toArray rest := by
  subst hs
  have h : ¬ (decide (v.cells.size ≠ v.cells.size) || decide (off + v.cells.size > cells.size)) = true := by simp; omega
  rw [Instr.fill, hp]
  simp only
  rw [if_neg h]
  exact congrArg (fun c => Instr.fill place c rest) (fold_put_all v.cells off cells hb)
end Go.Proofs.YtficmbaffkkfhabDoor
