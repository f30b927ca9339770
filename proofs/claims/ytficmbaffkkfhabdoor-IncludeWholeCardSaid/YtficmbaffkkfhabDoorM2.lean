/- Plain facts on arrays of bytes: nothing of the program. -/
import Derived.Test.YtficmbaffkkfhabDoorM
namespace Go.Proofs.YtficmbaffkkfhabDoor
open Go.RowKit

/-- Bytes as an array's cells. -/
def hv (l : List UInt8) : Array Value := (l.map fun b => Value.int .u8 (b.toNat : Int)).toArray
@[simp] theorem hv_size (l : List UInt8) : (hv l).size = l.length := by simp [hv]
theorem hv_one (l : List UInt8) : (hv l).all (·.oneCell') = true := by
  simp [hv]
  intro i _; rfl
theorem hv_inj {a b : List UInt8} (h : hv a = hv b) : a = b := by
  have h1 := congrArg Array.toList h
  simp only [hv] at h1
  revert h1 b
  induction a with
  | nil => intro b _ h; cases b with
    | nil => rfl
    | cons y b => simp at h
  | cons x a ih => intro b _ h; cases b with
    | nil => simp at h
    | cons y b =>
      simp only [List.map_cons, List.cons.injEq, Value.int.injEq, true_and] at h
      obtain ⟨h1, h2⟩ := h
      have e : x = y := UInt8.toNat_inj.1 (by omega)
      subst e
      rw [ih (b := b) (by simp [hv, h2]) h2]
/-- Filled up with zero bytes to n. -/
def padTo (n : Nat) (l : List UInt8) : List UInt8 := l ++ List.replicate (n - l.length) 0
theorem padTo_length {n : Nat} {l : List UInt8} (h : l.length ≤ n) : (padTo n l).length = n := by simp [padTo]; omega
theorem padTo_full {n : Nat} {l : List UInt8} (h : l.length = n) : padTo n l = l := by simp [padTo, h]
theorem padTo_set (n : Nat) (l : List UInt8) (b : UInt8) (h : l.length < n) : (hv (padTo n l)).setIfInBounds l.length (.int .u8 (b.toNat : Int)) = hv (padTo n (l ++ [b])) := by
  obtain ⟨m, hm⟩ : ∃ m, n - l.length = m + 1 := ⟨n - l.length - 1, by omega⟩
  have hm2 : n - (l ++ [b]).length = m := by simp; omega
  unfold padTo
  rw [hm, hm2, List.replicate_succ]
  apply Array.toList_inj.1
  simp only [hv, List.setIfInBounds_toArray, List.map_append, List.map_cons]
  rw [List.set_append_right _ _ (by simp)]
  simp
end Go.Proofs.YtficmbaffkkfhabDoor
