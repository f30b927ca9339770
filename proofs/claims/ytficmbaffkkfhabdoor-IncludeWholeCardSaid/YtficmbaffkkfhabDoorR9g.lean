/- The law's Same of one list of hashes (layer 9). -/
import Derived.Test.YtficmbaffkkfhabDoorR9c
import Derived.Test.YtficmbaffkkfhabDoorSh1
import Derived.Deep.RegionHeld3
import Derived.Deep.DeepCutAuto
namespace Go.Proofs.YtficmbaffkkfhabDoor
open Go.RowKit

set_option maxRecDepth 100000 in
set_option maxHeartbeats 2000000 in
set_option linter.unusedSimpArgs false in
theorem same_hs {w : World} {v1 v2 : Value} {L : List (List UInt8)} (h1 : HsAt w v1 L) (h2 : HsAt w v2 L) (hl : L.length ≤ 1000000) : Calls Tryd.prog 12 #[v1, v2] w fun e w' => e = .returned (.bool true) ∧ Below w.heap.size w w' := by
  obtain ⟨a1, q1, rfl, -⟩ := id h1
  obtain ⟨a2, q2, rfl, -⟩ := id h2
  have H1 : Hid _ := h1.cells.2
  have H2 : Hid _ := h2.cells.2
  clear h1 h2
  have hne : ((L.length : Int) != (L.length : Int)) = false := by simp
  go_enter Tryd.func12, Tryd.ntmps12
  go_wp2
  go_loopw [5] (fun i wr => ∃ k : Nat, k ≤ L.length ∧ i = .int .i64 k ∧ Below w.heap.size w wr) (fun i _ => L.length - (intOf i).toNat)
  case atStart => exact ⟨0, Nat.zero_le _, rfl, Below.refl _ _⟩
  case round =>
    obtain ⟨m, hm, rfl, hB⟩ := hrel
    by_cases hlt : m < L.length
    · obtain ⟨x, hx⟩ : ∃ x, L[m]? = some x := ⟨_, List.getElem?_eq_getElem hlt⟩
      obtain ⟨hx32, b1, o1, rfl, k1⟩ := H1.out m x hx
      obtain ⟨-, b2, o2, rfl, k2⟩ := H2.out m x hx
      have K1 : Hid _ := k1
      have K2 : Hid _ := k2
      have HB : Hid (Below w.heap.size w wr) := hB
      have hlt2 : (m : Int) < (L.length : Int) := by omega
      have ic : Hid ((Tryd.prog.info? 22).map (·.size) = some (hv x).toList.length) := by show _ = _; rw [info_h32, Array.length_toList, hv_size, hx32]
      have hnq : ∀ w' : World, (binOp .neq 22 (.agg (hv x)) (.agg (hv x))).run Tryd.prog w' = .ok (.bool false) w' := fun w' => by
        have := neqH w' x x hx32 hx32
        simpa using this
      clear k1 k2 hB hx
      generalize hv x = C at *
      go_upto_region 6 with fail
      refine wp_region_held (S := Below w.heap.size w) (by kernel_rfl) ?_
      change wpAnyH _ _ _ _ _ _ _ _ (World.drew _)
      have HX : Below w.heap.size w wr.drew := HB.out.drew
      generalize World.drew _ = w3 at *
      refine wpAnyH_take (i := 0) (v := .slice (some ⟨b1, o1, none⟩) L.length q1) rfl (by kernel_rfl) (by kernel_rfl) (by kernel_rfl) (fun _ _ _ h => h) (Or.inl ⟨by rfl, by intro w _; go_simp⟩) HX ?_
      simp only [List.getElem_toArray, List.getElem_cons_succ, List.getElem_cons_zero, Act.put, List.setIfInBounds_toArray, List.set_cons_zero, List.set_cons_succ]
      refine wpAnyH_take (i := 1) (v := .int .i64 m) rfl (by kernel_rfl) (by kernel_rfl) (by kernel_rfl) (fun _ _ _ h => h) (Or.inl ⟨by rfl, by intro w _; go_simp⟩) HX ?_
      simp only [List.getElem_toArray, List.getElem_cons_succ, List.getElem_cons_zero, Act.put, List.setIfInBounds_toArray, List.set_cons_zero, List.set_cons_succ]
      refine wpAnyH_take (i := 2) (v := .pointer (some ⟨b1, o1 + m * 32, none⟩)) rfl (by kernel_rfl) (by kernel_rfl) (by kernel_rfl) (fun _ _ _ h => h) (Or.inl ⟨by rfl, by intro w _; go_simp⟩) HX ?_
      simp only [List.getElem_toArray, List.getElem_cons_succ, List.getElem_cons_zero, Act.put, List.setIfInBounds_toArray, List.set_cons_zero, List.set_cons_succ]
      refine wpAnyH_take (i := 3) (v := .agg C) rfl (by kernel_rfl) (by kernel_rfl) (by kernel_rfl) (fun _ _ _ h => h) (yieldsIf_load_mid (by rfl) 22 _ rfl b1 (o1 + m * 32) rfl C.toList _ (fun w' h => K1.out w' h) Tryd.underlying22 rfl ic.out) HX ?_
      simp only [List.getElem_toArray, List.getElem_cons_succ, List.getElem_cons_zero, Act.put, List.setIfInBounds_toArray, List.set_cons_zero, List.set_cons_succ]
      refine wpAnyH_take (i := 4) (v := .slice (some ⟨b2, o2, none⟩) L.length q2) rfl (by kernel_rfl) (by kernel_rfl) (by kernel_rfl) (fun _ _ _ h => h) (Or.inl ⟨by rfl, by intro w _; go_simp⟩) HX ?_
      simp only [List.getElem_toArray, List.getElem_cons_succ, List.getElem_cons_zero, Act.put, List.setIfInBounds_toArray, List.set_cons_zero, List.set_cons_succ]
      refine wpAnyH_take (i := 5) (v := .int .i64 m) rfl (by kernel_rfl) (by kernel_rfl) (by kernel_rfl) (fun _ _ _ h => h) (Or.inl ⟨by rfl, by intro w _; go_simp⟩) HX ?_
      simp only [List.getElem_toArray, List.getElem_cons_succ, List.getElem_cons_zero, Act.put, List.setIfInBounds_toArray, List.set_cons_zero, List.set_cons_succ]
      refine wpAnyH_take (i := 6) (v := .pointer (some ⟨b2, o2 + m * 32, none⟩)) rfl (by kernel_rfl) (by kernel_rfl) (by kernel_rfl) (fun _ _ _ h => h) (Or.inl ⟨by rfl, by intro w _; go_simp⟩) HX ?_
      simp only [List.getElem_toArray, List.getElem_cons_succ, List.getElem_cons_zero, Act.put, List.setIfInBounds_toArray, List.set_cons_zero, List.set_cons_succ]
      refine wpAnyH_take (i := 7) (v := .agg C) rfl (by kernel_rfl) (by kernel_rfl) (by kernel_rfl) (fun _ _ _ h => h) (yieldsIf_load_mid (by rfl) 22 _ rfl b2 (o2 + m * 32) rfl C.toList _ (fun w' h => K2.out w' h) Tryd.underlying22 rfl ic.out) HX ?_
      simp only [List.getElem_toArray, List.getElem_cons_succ, List.getElem_cons_zero, Act.put, List.setIfInBounds_toArray, List.set_cons_zero, List.set_cons_succ]
      refine wpAnyH_take (i := 8) (v := .bool false) rfl (by kernel_rfl) (by kernel_rfl) (by kernel_rfl) (fun _ _ _ h => h) (Or.inl ⟨by rfl, by intro w9 _; go_simp⟩) HX ?_
      simp only [List.getElem_toArray, List.getElem_cons_succ, List.getElem_cons_zero, Act.put, List.setIfInBounds_toArray, List.set_cons_zero, List.set_cons_succ]
      refine wpAnyH_done (by kernel_rfl) ?_ _
      have HXh : Hid _ := HX
      clear HX
      go_wp2
      go_roundw
      case rel => exact ⟨m + 1, by omega, by go_num, HXh.out⟩
      case measure => simp [intOf]; omega
    · obtain rfl : m = L.length := by omega
      have hlt2 : ¬ ((L.length : Nat) : Int) < (L.length : Int) := by omega
      have HB : Hid _ := hB
      clear hB
      go_wp2
      go_ret
      exact ⟨rfl, HB.out⟩
end Go.Proofs.YtficmbaffkkfhabDoor
