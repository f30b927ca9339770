/- What Tamper's closure says of an act. -/
import Derived.Test.YthlaackalmgfnabDg
namespace Go.Proofs.Ythlaackalmgfnab
open Go.RowKit

set_option maxRecDepth 100000 in
set_option linter.unusedSimpArgs false in
theorem t1_any (y : Ac) (i : Int) (B : Nat) (W : World) (hc : W.cell? ⟨B, 0, none⟩ = some (.int .i64 i)) : Calls Try.prog 42 #[acV y, .pointer (some ⟨B, 0, none⟩)] W fun e w' => e = .returned (.bool (decide ((y.at_ : Int) = i))) ∧ Below W.heap.size W w' := by
  obtain ⟨T, V, F, hV, hM, hCF, hP⟩ := act_place y
  rw [hV]
  have HP : Hid (∀ w : World, Calls Try.prog F #[V] w fun e w' => e = .returned (.int .i64 (y.at_ : Int)) ∧ Below w.heap.size w w') := hP
  obtain ⟨n, hn⟩ : ∃ n, ((y.at_ : Nat) : Int) = n := ⟨_, rfl⟩
  rw [hn] at HP
  rw [hn]
  have hd : (n == i) = decide (n = i) := rfl
  obtain ⟨r, hr⟩ : ∃ r, decide (n = i) = r := ⟨_, rfl⟩
  rw [hr] at hd
  rw [hr]
  have HB0 : Hid (Below W.heap.size W W.drew) := (Below.refl _ _).drew
  have HL : Hid (B < W.heap.size) := World.block_lt_of_cell? W _ hc
  have HS : W.drew.cell? ⟨B, 0, none⟩ = some (.int .i64 i) := hc
  clear hP hV hn hr hc
  go_enter Try.func42, Try.ntmps42
  go_wp2_with fail
  refine wp_region_held (S := fun w' => w'.cell? ⟨B, 0, none⟩ = some (.int .i64 i)) (by kernel_rfl) ?_
  change wpAnyH _ _ _ _ _ _ _ _ (World.drew _)
  have HSz : Hid (W.heap.size ≤ W.drew.heap.size) := Nat.le_refl _
  generalize W.drew = W1 at *
  refine wpAnyH_take (i := 0) (v := .iface T V) rfl (by kernel_rfl) (by kernel_rfl) (by kernel_rfl) (fun _ _ _ h => h) (Or.inl ⟨by first | rfl | kernel_rfl, by intro w _; go_simp⟩) HS ?_
  simp only [List.getElem_toArray, List.getElem_cons_succ, List.getElem_cons_zero, Act.put, List.setIfInBounds_toArray, List.set_cons_zero, List.set_cons_succ]
  refine wpAnyH_take (i := 2) (v := .int .i64 i) rfl (by kernel_rfl) (by kernel_rfl) (by kernel_rfl) (fun _ _ _ h => h) (Or.inl ⟨by rfl, by intro w hw; have hw : w.cell? ⟨B, 0, none⟩ = some (.int .i64 i) := hw; go_simp⟩) HS ?_
  simp only [List.getElem_toArray, List.getElem_cons_succ, List.getElem_cons_zero, Act.put, List.setIfInBounds_toArray, List.set_cons_zero, List.set_cons_succ]
  refine wpAnyH_ready (rs := [1]) (by kernel_rfl) (by simp) (AllReadyH.cons (by simp only [List.getElem?_toArray, List.getElem?_cons_succ, List.getElem?_cons_zero]; rfl) (fun K hK => ?_) AllReadyH.nil)
  refine step_plain rfl ?_
  go_simp
  refine (HP.out _).mono ?_
  rintro e w2 ⟨rfl, b2⟩
  have HS2 : w2.cell? ⟨B, 0, none⟩ = some (.int .i64 i) := by rw [World.cell?_of_block (b2.block B (Nat.lt_of_lt_of_le HL.out HSz.out))]; exact HS
  refine hK.out _ _ HS2 (fun _ => ?_)
  clear hK K
  try simp only [List.getElem_toArray, List.getElem_cons_succ, List.getElem_cons_zero, Act.put, List.setIfInBounds_toArray, List.set_cons_zero, List.set_cons_succ]
  refine wpAnyH_take (i := 3) (v := .bool r) rfl (by kernel_rfl) (by kernel_rfl) (by kernel_rfl) (fun _ _ _ h => h) (Or.inl ⟨by first | rfl | kernel_rfl, by intro w _; go_simp⟩) HS2 ?_
  simp only [List.getElem_toArray, List.getElem_cons_succ, List.getElem_cons_zero, Act.put, List.setIfInBounds_toArray, List.set_cons_zero, List.set_cons_succ]
  refine wpAnyH_take (i := 4) (v := .bool r) rfl (by kernel_rfl) (by kernel_rfl) (by kernel_rfl) (fun _ _ _ h => h) (Or.inl ⟨by first | rfl | kernel_rfl, by intro w _; go_simp⟩) HS2 ?_
  simp only [List.getElem_toArray, List.getElem_cons_succ, List.getElem_cons_zero, Act.put, List.setIfInBounds_toArray, List.set_cons_zero, List.set_cons_succ]
  refine wpAnyH_done (by kernel_rfl) ?_ _
  have HB2 : Hid (Below W.heap.size W w2) := HB0.out.trans (b2.mono HSz.out)
  clear b2 HS HS2 HP hM hCF
  go_wp2
  go_ret
  exact ⟨rfl, HB2.out⟩
end Go.Proofs.Ythlaackalmgfnab
