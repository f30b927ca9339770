/- A list of hashes made with room; the hash that is put behind (for the law RootsTell, layer 9; cut out of R9n). -/
import Derived.Test.YtficmbaffkkfhaaDoorR9k0
import Derived.OwnWalk
namespace Go.Proofs.YtficmbaffkkfhaaDoor
open Go.RowKit

def h7L : List UInt8 := 7 :: List.replicate 31 0
theorem h7_len : h7L.length = 32 := rfl
theorem h7_cells : hv h7L = (Array.replicate 32 (.int .u8 0)).setIfInBounds 0 (.int .u8 7) := rfl
/-- make of hashes, of none, with room. -/
theorem wpList_make_mh {ops : Array Oper} {rest : List Oper} {o : Oper} {a : Act} {w : World} {Q : Exit → Act → World → Prop} (hgd : o.guard = none) (l c : Operand) (ho : o.op = Op.makeSlice 22 l c) (C : Int) (n : Nat)
    (hl : a.eval l = .int .i64 0) (hc : a.eval c = .int .i64 C) (hC : C = (n : Int)) (hn : n ≤ 100000)
    (h : ∀ w', Mh w w.heap.size (.slice (some ⟨w.heap.size, 0, none⟩) 0 n) [] w' → wpList Tryd.prog ops Q rest (a.put o.dst (.slice (some ⟨w.heap.size, 0, none⟩) 0 n)) w') : wpList Tryd.prog ops Q (o :: rest) a w := by
  obtain ⟨ia, z, i1, i2, i3, i4, i5⟩ := info_hash
  refine wpList_make_own w hgd l c 22 ho w.heap.size 23 ia z 32 Tryd.underlying22 i1 i2 i4 .i64 .i64 C n hl hc hC (by rw [i5]; omega) (by simp only [maxLen]; omega) (Nat.le_refl _) ?_
  intro w1 r1 r2
  exact h w1 ⟨(Below.refl _ _).grown r2 (Nat.le_refl _) (fun j hj => by cases hj), Nat.le_refl _, fun x hx => (by cases hx), r1⟩
end Go.Proofs.YtficmbaffkkfhaaDoor
