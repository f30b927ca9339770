/- A hash of a list is read (layer 9). -/
import Derived.Test.YtficmbaffkkfhaaDoorW7
import Derived.Test.YtficmbaffkkfhaaDoorW3
namespace Go.Proofs.YtficmbaffkkfhaaDoor
open Go.RowKit

/-- A hash of a list is read, where it is wanted. -/
theorem load_hash {ops : Array Oper} {rest : List Oper} {o : Oper} {a : Act} {w : World} {Q : Exit → Act → World → Prop} (hw : Region.wanted o (yielded ops a.tmps) = true) (x : Operand) (ho : o.op = .load 23 x)
    (b k : Nat) (C : Array Value) (hC : C.size = 32) (hx : a.eval x = .pointer (some ⟨b, k, none⟩)) (hr : w.rangeAt b k C.toList)
    (h : wpList Tryd.prog ops Q rest (a.put o.dst (.agg C)) w) : wpList Tryd.prog ops Q (o :: rest) a w :=
  wpList_want hw fun _ hK => wp_load_mid 23 x ho b k hx C.toList _ hr Tryd.underlying23 rfl (by rw [info_h32, Array.length_toList, hC]) (hK _ _ h)
end Go.Proofs.YtficmbaffkkfhaaDoor
