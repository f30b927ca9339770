/- packs.Split. -/
import Derived.Test.YtalofhnjlmgloaaDoorNc
import Derived.BigQuiet
import Derived.Deep.QuietTactic
namespace Go.Proofs.YtalofhnjlmgloaaDoor
open Go.RowKit

set_option maxRecDepth 100000 in
set_option maxHeartbeats 1000000 in
theorem split_any (k e : Int) (d : List UInt8) (w : World) (hT : Tab w) (hT4 : Tab4 w) (hd : d.length ≤ 140737488351232) :
    Calls Tryd.prog 9 #[.int .u8 k, .int .i64 e, .string (S d)] w fun r w' => ∃ v, r = .returned (.tuple #[v, .int .i64 (splitE k e d)]) ∧ w'.ownsRow w.heap.size 9 1 v (splitL k e d).length (sv (splitL k e d)) ∧ Below w.heap.size w w' := by
  have hsz : ((S d).size : Int) = (d.length : Int) := by rw [S_size]
  have hCn : Hid (∀ w : World, Calls Tryd.prog 12 #[.int .i64 d.length] w fun e w' => e = .returned (.int .i64 (cntN d.length)) ∧ w' = w) := fun w => by
    have := count_any d.length w (by omega) (by omega)
    rwa [show cntI (d.length : Int) = (cntN d.length : Int) by unfold cntI; rw [if_neg (by omega), Int.toNat_natCast]] at this
  by_cases hc : 65536 < cntN d.length
  · have he : splitE k e d = 3 := by unfold splitE; rw [if_pos hc]
    have hl : splitL k e d = [] := splitL_no (by rw [he]; decide)
    rw [he, hl]
    have hc2 : (65536 : Int) < (cntN d.length : Int) := by omega
    clear he hl hc
    generalize S d = D at *
    go_enter Tryd.func9, Tryd.ntmps9
    go_wp2_with fail
    refine (hCn.out _).mono ?_
    rintro r w1 ⟨rfl, rfl⟩
    go_wp2
    go_ret2
    exact ⟨_, rfl, World.ownsRow_nil _ _ _ _, Below.refl _ _⟩
  · have hc2 : ¬ (65536 : Int) < (cntN d.length : Int) := by omega
    have HB : Hid (Base w.heap.size w) := Base.of hT hT4
    go_enter Tryd.func9, Tryd.ntmps9
    go_wp2_with fail
    refine (hCn.out _).mono ?_
    rintro r w1 ⟨rfl, rfl⟩
    go_wp2_with fail
    have HP0 : Pk w1 w1.heap.size w1.heap.size k e [] 0 (w1.alloc (.cells #[.int .u8 k, .int .i64 e, .slice none 0 0, .int .i64 0] 49)) :=
      ⟨_, Nat.le_refl _, heap_alloc_last w1 _, World.ownsRow_nil _ _ _ _, HB.out, (Below.refl _ _).alloc (Nat.le_refl _) _⟩
    cases hu : underB k e with
    | true =>
      have he : splitE k e d = 0 := splitE_ok.2 ⟨by omega, hu⟩
      have hl : splitL k e d = blkL k e d := splitL_ok he
      have HEL : Hid (splitE k e d = 0 ∧ splitL k e d = blkL k e d) := ⟨he, hl⟩
      refine (hand_ok d hu (by omega) HP0).mono ?_
      rintro r w2 ⟨rfl, v, HX⟩
      obtain ⟨sa, sc, rfl⟩ := HX.slice
      have c2 := HX.c2
      have c3 := HX.c3
      have HR : Hid _ := HX.owns
      have HW : Hid _ := HX.below
      clear he hl HP0 HX hu
      generalize S d = D at *
      go_wp2
      go_ret2
      rw [HEL.out.1, HEL.out.2]
      exact ⟨_, rfl, HR.out, HW.out⟩
    | false =>
      have he : splitE k e d = 2 := by unfold splitE; rw [if_neg hc, if_neg (by rw [hu]; decide)]
      have hl : splitL k e d = [] := splitL_no (by rw [he]; decide)
      have HEL : Hid (splitE k e d = 2 ∧ splitL k e d = []) := ⟨he, hl⟩
      refine (hand_no d hu HP0).mono ?_
      rintro r w2 ⟨rfl, v, HX⟩
      have c3 := HX.c3
      have HW : Hid _ := HX.below
      clear he hl HP0 HX hu
      generalize S d = D at *
      go_wp2
      go_quiet (fail)
      have HWq : Hid (Below w1.heap.size w1 (w2.drewN nq)) := below_drewN HW.out _
      generalize w2.drewN nq = wx at *
      go_wp2
      go_ret2
      rw [HEL.out.1, HEL.out.2]
      exact ⟨_, rfl, World.ownsRow_nil _ _ _ _, HWq.out⟩
end Go.Proofs.YtalofhnjlmgloaaDoor
