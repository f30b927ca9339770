/- The shelf's contracts of strings.Builder, laid at this program. -/
import Derived.Test.YtalofhnjlmgloaaDoorRp
import Derived.Test.YtalofhnjlmgloaaDoorTx
import Derived.Shelf.Strings.BuilderK
import Derived.Shelf.Strings.BuilderF
namespace Go.Proofs.YtalofhnjlmgloaaDoor
open Go.RowKit Go.Shelf

/-- A builder of one's own, in block b, that holds these bytes. -/
def IsB (B b : Nat) (l : List UInt8) (w : World) : Prop := Lib.IsBuilderF 56 5 B b (Lib.byteCells l) w
theorem builder_len (B b : Nat) (l : List UInt8) (w : World) (h : IsB B b l w) : Calls Tryd.prog 24 #[.pointer (some ⟨b, 0, none⟩)] w fun e w' => e = .returned (.int .i64 l.length) ∧ w' = w := by
  have := Any.Builder_Len_f { lays105 with } B b (Lib.byteCells l) w h
  rw [show (Lib.byteCells l).length = l.length by simp [Lib.byteCells]] at this
  exact this
theorem builder_write (B b : Nat) (l s : List UInt8) (w : World) (h : IsB B b l w) (hl : l.length + s.length ≤ 140737488355328) (hB : B ≤ w.heap.size) :
    Calls Tryd.prog 25 #[.pointer (some ⟨b, 0, none⟩), .string (S s)] w fun e w' => e = .returned (.tuple #[.int .i64 s.length, .nilIface]) ∧ IsB B b (l ++ s) w' ∧ Below B w w' := by
  have := Any.Builder_WriteString_k { lays105 with } Builder_Extra_105 B b (Lib.byteCells l) (S s) w h (by rw [S_size]; simp [Lib.byteCells]; omega) hB
  refine this.mono fun e w' hh => ⟨by rw [hh.1, S_size], ?_, hh.2.2.1⟩
  have h2 := hh.2.1
  rw [show Lib.byteCells l ++ Lib.strCells (S s) = Lib.byteCells (l ++ s) by simp [Lib.byteCells, Lib.strCells]] at h2
  exact .inr h2
theorem builder_string (B b : Nat) (l : List UInt8) (w : World) (h : IsB B b l w) (hB : B ≤ w.heap.size) :
    Calls Tryd.prog 26 #[.pointer (some ⟨b, 0, none⟩)] w fun e w' => e = .returned (.string (S l)) ∧ IsB B b l w' ∧ Below B w w' :=
  (Any.Builder_String_any_k { lays105 with } Builder_Extra_105 B b l w h hB).mono fun _ _ hh => ⟨hh.1, hh.2.1, hh.2.2.1⟩
end Go.Proofs.YtalofhnjlmgloaaDoor
