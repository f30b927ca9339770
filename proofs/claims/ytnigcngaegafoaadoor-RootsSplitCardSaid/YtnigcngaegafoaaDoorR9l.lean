/- The law RootsSplit (layer 9). -/
import Derived.Test.YtnigcngaegafoaaDoorR9k
namespace Go.Proofs.YtnigcngaegafoaaDoor
open Go.RowKit

theorem split_walk (n : Int) (w : World) (hK : TabL w) (h1 : -9223372036854775808 ≤ n) (h2 : n < 9223372036854775808) : Calls Tryd.prog 4 #[.int .i64 n] w fun e w' => e = .returned (.bool true) ∧ Below w.heap.size w w' := by
  have HA : Hid (Calls Tryd.prog 13 #[.int .i64 n] w fun e w' => e = .returned (.int .i64 (splitZ n)) ∧ w' = w) := split_any n w h1 h2
  have HB : Hid (Calls Tryd.prog 14 #[.int .i64 n] w fun e w' => e = .returned (.int .i64 (splitZ n)) ∧ w' = w) := rsplit_any n w h1 h2
  have HD : Hid (Calls Tryd.prog 12 #[] w fun e w' => e = .returned (.bool true) ∧ Below w.heap.size w w') := does_any w hK
  generalize splitZ n = z at *
  clear hK h1 h2
  go_enter Tryd.func4, Tryd.ntmps4
  go_wp2_with fail
  refine HA.out.mono ?_
  rintro e w1 ⟨rfl, h⟩
  have h := h.symm
  subst h
  go_wp2_with fail
  refine HB.out.mono ?_
  rintro e w2 ⟨rfl, h⟩
  have h := h.symm
  subst h
  go_wp2_with fail
  refine HD.out.mono ?_
  rintro e w3 ⟨rfl, b⟩
  have B : Hid _ := b
  clear b
  go_wp2
  go_ret
  exact ⟨rfl, B.out⟩
end Go.Proofs.YtnigcngaegafoaaDoor
