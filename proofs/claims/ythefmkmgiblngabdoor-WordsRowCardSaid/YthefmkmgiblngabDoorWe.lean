/- The chapter's examples, as the law's does() has them: they come out true. -/
import Derived.Test.YthefmkmgiblngabDoorWd
namespace Go.Proofs.YthefmkmgiblngabDoor
open Go.RowKit

theorem d_get1 (w : World) (hT : Tab w) : Calls Tryd.prog 10 #[.string ⟨#[9, 1, 2, 7]⟩, .int .i64 1, .int .i64 2] w fun e w' => e = .returned (.tuple #[.int .i64 258, .int .i64 3, .bool true]) ∧ w' = w :=
  get_any ⟨#[9, 1, 2, 7]⟩ 1 2 w hT (by decide) (by decide)
theorem d_get2 (w : World) (hT : Tab w) : Calls Tryd.prog 10 #[.string ⟨#[9, 1, 2, 7]⟩, .int .i64 3, .int .i64 2] w fun e w' => e = .returned (.tuple #[.int .i64 0, .int .i64 0, .bool false]) ∧ w' = w :=
  get_any ⟨#[9, 1, 2, 7]⟩ 3 2 w hT (by decide) (by decide)
theorem d_put1 (w : World) (hT : Tab w) : Calls Tryd.prog 8 #[.int .i64 258, .int .i64 2] w fun e w' => e = .returned (.string ⟨#[1, 2]⟩) ∧ Below w.heap.size w w' :=
  put_any 258 2 w hT (by decide)
theorem d_put2 (w : World) (hT : Tab w) : Calls Tryd.prog 8 #[.int .i64 258, .int .i64 1] w fun e w' => e = .returned (.string ⟨#[]⟩) ∧ Below w.heap.size w w' :=
  put_any 258 1 w hT (by decide)
theorem d_put3 (w : World) (hT : Tab w) : Calls Tryd.prog 8 #[.int .i64 5, .int .i64 3] w fun e w' => e = .returned (.string ⟨#[]⟩) ∧ Below w.heap.size w w' :=
  put_any 5 3 w hT (by decide)
theorem d_put4 (w : World) (hT : Tab w) : Calls Tryd.prog 8 #[.int .i64 1, .int .i64 4] w fun e w' => e = .returned (.string ⟨#[0, 0, 0, 1]⟩) ∧ Below w.heap.size w w' :=
  put_any 1 4 w hT (by decide)
theorem d_putT (w : World) (hT : Tab w) : Calls Tryd.prog 6 #[.string ⟨#[97, 98]⟩] w fun e w' => e = .returned (.tuple #[.string ⟨#[0, 2, 97, 98]⟩, .int .i64 0]) ∧ Below w.heap.size w w' :=
  putText_yes ⟨#[97, 98]⟩ w hT (by decide)
theorem d_getT (w : World) (hT : Tab w) : Calls Tryd.prog 12 #[.string ⟨#[0, 2, 97, 98, 99]⟩, .int .i64 0] w fun e w' => e = .returned (.tuple #[.string ⟨#[97, 98]⟩, .int .i64 4, .bool true]) ∧ Below w.heap.size w w' :=
  getText_yes ⟨#[0, 2, 97, 98, 99]⟩ 0 2 w hT (by decide) (by decide) (by decide) (by decide)

set_option maxRecDepth 100000 in
set_option maxHeartbeats 800000 in
theorem does_any (w : World) (hT : Tab w) : Calls Tryd.prog 7 #[] w fun e w' => e = .returned (.bool true) ∧ Below w.heap.size w w' := by
  go_enter Tryd.func7, Tryd.ntmps7
  go_wp2_with fail
  refine (d_get1 _ hT).mono ?_
  rintro e w' ⟨rfl, rfl⟩
  go_wp2_with fail
  refine (d_get2 _ hT).mono ?_
  rintro e w' ⟨rfl, rfl⟩
  go_wp2_with fail
  refine (d_putT _ hT).mono ?_
  rintro e w1 ⟨rfl, b1⟩
  have T1 := hT.below b1
  go_wp2_with fail
  refine (d_getT _ T1).mono ?_
  rintro e w2 ⟨rfl, b2⟩
  have T2 := T1.below b2
  go_wp2_with fail
  refine (d_put1 _ T2).mono ?_
  rintro e w3 ⟨rfl, b3⟩
  have T3 := T2.below b3
  go_wp2_with fail
  refine (d_put2 _ T3).mono ?_
  rintro e w4 ⟨rfl, b4⟩
  have T4 := T3.below b4
  go_wp2_with fail
  refine (d_put3 _ T4).mono ?_
  rintro e w5 ⟨rfl, b5⟩
  have T5 := T4.below b5
  go_wp2_with fail
  refine (d_put4 _ T5).mono ?_
  rintro e w6 ⟨rfl, b6⟩
  go_wp2
  go_ret
  refine ⟨rfl, ?_⟩
  have s1 := b1.size
  have s2 := b2.size
  have s3 := b3.size
  have s4 := b4.size
  have s5 := b5.size
  exact ((((b1.trans (b2.mono s1)).trans (b3.mono (by omega))).trans (b4.mono (by omega))).trans (b5.mono (by omega))).trans (b6.mono (by omega))
end Go.Proofs.YthefmkmgiblngabDoor
