/- The law's does (layer 6): the chapter's examples. -/
import Derived.Test.YtalofhnjlmgloaaDoorNg
import Derived.Deep.RegionHeld3
namespace Go.Proofs.YtalofhnjlmgloaaDoor
open Go.RowKit

/-- The example's two blocks lie in a list (a, c), w0 the world that a call came into. -/
structure PX (w0 : World) (a : Option Addr) (c : Nat) (b o : Nat) (X0 X1 : ByteArray) (w : World) : Prop where
  ts : Ts w0 [(.slice a 2 c, [exX 0, exX 1])] w
  c0 : w.cell? ⟨b, o, none⟩ = some (.string X0)
  c1 : w.cell? ⟨b, o + 1, none⟩ = some (.string X1)
theorem PX.next {w0 : World} {a : Option Addr} {c b o : Nat} {X0 X1 : ByteArray} {w w' : World} (h : PX w0 a c b o X0 X1 w) (hb : Below w.heap.size w w') : PX w0 a c b o X0 X1 w' :=
  ⟨h.ts.next hb, by rw [World.cell?_of_block (hb.block b (World.block_lt_of_cell? w _ h.c0))]; exact h.c0, by rw [World.cell?_of_block (hb.block b (World.block_lt_of_cell? w _ h.c1))]; exact h.c1⟩
theorem PX.drew {w0 : World} {a : Option Addr} {c b o : Nat} {X0 X1 : ByteArray} {w : World} (h : PX w0 a c b o X0 X1 w) : PX w0 a c b o X0 X1 w.drew := ⟨h.ts.drew, h.c0, h.c1⟩
theorem px_join {w0 : World} {a : Option Addr} {c b o : Nat} {X0 X1 : ByteArray} {w : World} (h : PX w0 a c b o X0 X1 w) {v : Value} {L : List (List UInt8)} (hv : TextsAt w v L) (k e : Int) (hL : L.length ≤ 1000000) :
    Calls Tryd.prog 16 #[v, .int .u8 k, .int .i64 e] w fun r w' => r = .returned (.tuple #[.string (S (joinL L k e)), .int .i64 (joinE L k e)]) ∧ PX w0 a c b o X0 X1 w' :=
  (join_any k e hv h.ts.tab h.ts.tab4 hL).mono fun _ _ hh => ⟨hh.1, h.next hh.2⟩
set_option maxRecDepth 100000 in
set_option maxHeartbeats 4000000 in
set_option linter.unusedSimpArgs false in
theorem pdoes_any (w : World) (hT : Tab w) (hT4 : Tab4 w) : Calls Tryd.prog 14 #[] w fun e w' => e = .returned (.bool true) ∧ Below w.heap.size w w' := by
  have HBl : Hid (∀ w : World, Calls Tryd.prog 23 #[.string ⟨#[97, 98, 99]⟩] w fun e w' => e = .returned (.string (S (blockT [97, 98, 99]))) ∧ Below w.heap.size w w') := fun w => block_any [97, 98, 99] w
  have hsz : (S (blockT [97, 98, 99])).size = 128 := by rw [S_size, blockT_len]
  have HE : Hid ((S (blockT [97, 98, 99])).extract 0 113 = S exD) := by show _ = _; rw [S_ext]; rfl
  have HD2 : Hid ((S exD).extract 0 112 = S (exD.take 112)) := by show _ = _; rw [S_ext]; simp [cut]
  have hdz : (S exD).size = 113 := by rw [S_size, exD_len]
  have HSp : Hid (∀ w1 : World, Ts w [] w1 → Calls Tryd.prog 9 #[.int .u8 80, .int .i64 1, .string (S exD)] w1 fun r w' => ∃ a c b o X0 X1, r = .returned (.tuple #[.slice a 2 c, .int .i64 0]) ∧ 2 ≤ c ∧ a = some ⟨b, o, none⟩ ∧ X0 = S (exX 0) ∧ X1 = S (exX 1) ∧ PX w a c b o X0 X1 w') := fun w1 h => by
    refine (ts_split h 80 1 exD (by rw [exD_len]; omega)).mono fun r w' hh => ?_
    obtain ⟨a, c, rfl, hc, ho, ht⟩ := hh
    rw [exD_split] at *
    rw [exD_blocks] at *
    obtain ⟨b, o, rfl, c0⟩ := ht.head.cell 0 (exX 0) rfl
    obtain ⟨b', o', e', c1⟩ := ht.head.cell 1 (exX 1) rfl
    simp at e'
    obtain ⟨rfl, rfl⟩ := e'
    exact ⟨_, c, b, o, _, _, rfl, hc, rfl, rfl, rfl, ht, c0, c1⟩
  have HJ0 : Hid (∀ (a : Option Addr) (c b o : Nat) (X0 X1 : ByteArray) (w1 : World), PX w a c b o X0 X1 w1 → Calls Tryd.prog 16 #[.slice a 2 c, .int .u8 80, .int .i64 1] w1 fun r w' => r = .returned (.tuple #[.string (S exD), .int .i64 0]) ∧ PX w a c b o X0 X1 w') := fun a c b o X0 X1 w1 h => by
    have := px_join h h.ts.head 80 1 (by simp)
    rwa [exD_join.1, exD_join.2] at this
  have HJ1 : Hid (∀ (a : Option Addr) (c b o : Nat) (X0 X1 : ByteArray) (w1 : World), PX w a c b o X0 X1 w1 → Calls Tryd.prog 16 #[.slice a 1 c, .int .u8 80, .int .i64 1] w1 fun r w' => r = .returned (.tuple #[.string (S (exD.take 112)), .int .i64 0]) ∧ PX w a c b o X0 X1 w') := fun a c b o X0 X1 w1 h => by
    have := px_join h (h.ts.head.take 1 (by omega)) 80 1 (by simp)
    rwa [show [exX 0, exX 1].take 1 = [exX 0] from rfl, exD_first.1, exD_first.2] at this
  have HJ3 : Hid (∀ (a : Option Addr) (c b o : Nat) (X0 X1 : ByteArray) (w1 : World), PX w a c b o X0 X1 w1 → Calls Tryd.prog 16 #[.slice none 0 0, .int .u8 80, .int .i64 1] w1 fun r w' => r = .returned (.tuple #[.string (S (joinL [] 80 1)), .int .i64 10]) ∧ PX w a c b o X0 X1 w') := fun a c b o X0 X1 w1 h => by
    have := px_join h (TextsAt.nil w1) 80 1 (by simp)
    rwa [exD_none] at this
  have HJ4 : Hid (∀ (a : Option Addr) (c b o : Nat) (X0 X1 : ByteArray) (w1 : World), PX w a c b o X0 X1 w1 → Calls Tryd.prog 16 #[.slice a 2 c, .int .u8 68, .int .i64 1] w1 fun r w' => r = .returned (.tuple #[.string (S (joinL [exX 0, exX 1] 68 1)), .int .i64 10]) ∧ PX w a c b o X0 X1 w') := fun a c b o X0 X1 w1 h => by
    have := px_join h h.ts.head 68 1 (by simp)
    rwa [exD_other] at this
  have HJ2 : Hid (∀ (a : Option Addr) (c b o : Nat) (X0 X1 : ByteArray) (w1 w2 : World), X0 = S (exX 0) → X1 = S (exX 1) → PX w a c b o X0 X1 w1 → w2 = w1.alloc (.cells #[.string X1, .string X0] 9) → Calls Tryd.prog 16 #[.slice (some ⟨w1.heap.size, 0, none⟩) 2 2, .int .u8 80, .int .i64 1] w2 fun r w' => r = .returned (.tuple #[.string (S (joinL [exX 1, exX 0] 80 1)), .int .i64 10]) ∧ PX w a c b o X0 X1 w') := fun a c b o X0 X1 w1 w2 e0 e1 h e2 => by
    subst e0 e1 e2
    have hm := TextsAt.made w1 [exX 1, exX 0] 2 2 rfl
    have := px_join (h.next ((Below.refl _ _).alloc (Nat.le_refl _) (.cells #[.string (S (exX 1)), .string (S (exX 0))] 9))) hm 80 1 (by simp)
    rwa [exD_about] at this
  have HC0 : Hid (∀ w : World, Calls Tryd.prog 12 #[.int .i64 0] w fun e w' => e = .returned (.int .i64 1) ∧ w' = w) := fun w => count_any 0 w (by omega) (by omega)
  have HC1 : Hid (∀ w : World, Calls Tryd.prog 12 #[.int .i64 112] w fun e w' => e = .returned (.int .i64 1) ∧ w' = w) := fun w => count_any 112 w (by omega) (by omega)
  have HC2 : Hid (∀ w : World, Calls Tryd.prog 12 #[.int .i64 113] w fun e w' => e = .returned (.int .i64 2) ∧ w' = w) := fun w => count_any 113 w (by omega) (by omega)
  have HC3 : Hid (∀ w : World, Calls Tryd.prog 12 #[.int .i64 (-1)] w fun e w' => e = .returned (.int .i64 0) ∧ w' = w) := fun w => count_any (-1) w (by omega) (by omega)
  have HX0 : Hid (Ts w [] w) := Ts.start hT hT4
  clear hT hT4
  generalize S (blockT [97, 98, 99]) = T at *
  generalize S (exD.take 112) = D2 at *
  generalize S exD = D at *
  go_enter Tryd.func14, Tryd.ntmps14
  go_wp2_with fail
  refine (HBl.out _).mono ?_
  rintro r w1 ⟨rfl, b1⟩
  have HX1 : Hid (Ts w [] w1) := HX0.out.next b1
  clear b1 HX0 HBl
  go_wp2_with fail
  rw [HE.out]
  refine (HSp.out _ HX1.out).mono ?_
  rintro r w2 ⟨a, c, b, o, X0, X1, rfl, hcap, rfl, e0, e1, hx⟩
  have hcap2 : (1 : Int) ≤ (c : Int) := by omega
  have HX : Hid _ := hx
  have H01 : Hid (X0 = S (exX 0) ∧ X1 = S (exX 1)) := ⟨e0, e1⟩
  clear hx HX1 HSp e0 e1
  go_wp2_with fail
  refine (HJ0.out _ _ _ _ _ _ _ HX.out).mono ?_
  rintro r w3 ⟨rfl, hx⟩
  have HX : Hid _ := hx
  clear hx
  go_wp2_with fail
  refine (HJ1.out _ _ _ _ _ _ _ HX.out).mono ?_
  rintro r w4 ⟨rfl, hx⟩
  have HX : Hid _ := hx
  clear hx
  go_upto_region 7 with fail
  have HX : PX _ _ _ _ _ _ _ _ := HX.out
  refine wp_region_held (S := PX w (some ⟨b, o, none⟩) c b o X0 X1) (by kernel_rfl) ?_
  change wpAnyH _ _ _ _ _ _ _ _ (World.drew _)
  have HX := HX.drew
  generalize World.drew _ = w5 at *
  refine wpAnyH_take (i := 0) (v := .slice (some ⟨b, o, none⟩) 2 c) rfl (by kernel_rfl) (by kernel_rfl) (by kernel_rfl) (fun _ _ _ h => h) (Or.inl ⟨by rfl, by intro w _; go_simp⟩) HX ?_
  simp only [List.getElem_toArray, List.getElem_cons_succ, List.getElem_cons_zero, Act.put, List.setIfInBounds_toArray, List.set_cons_zero, List.set_cons_succ]
  refine wpAnyH_take (i := 1) (v := .pointer (some ⟨b, o + 1, none⟩)) rfl (by kernel_rfl) (by kernel_rfl) (by kernel_rfl) (fun _ _ _ h => h) (Or.inl ⟨by rfl, by intro w _; go_simp⟩) HX ?_
  simp only [List.getElem_toArray, List.getElem_cons_succ, List.getElem_cons_zero, Act.put, List.setIfInBounds_toArray, List.set_cons_zero, List.set_cons_succ]
  refine wpAnyH_take (i := 2) (v := .string X1) rfl (by kernel_rfl) (by kernel_rfl) (by kernel_rfl) (fun _ _ _ h => h) (Or.inl ⟨by rfl, by intro w hw; have hc := PX.c1 hw; go_simp⟩) HX ?_
  simp only [List.getElem_toArray, List.getElem_cons_succ, List.getElem_cons_zero, Act.put, List.setIfInBounds_toArray, List.set_cons_zero, List.set_cons_succ]
  refine wpAnyH_take (i := 3) (v := .slice (some ⟨b, o, none⟩) 2 c) rfl (by kernel_rfl) (by kernel_rfl) (by kernel_rfl) (fun _ _ _ h => h) (Or.inl ⟨by rfl, by intro w _; go_simp⟩) HX ?_
  simp only [List.getElem_toArray, List.getElem_cons_succ, List.getElem_cons_zero, Act.put, List.setIfInBounds_toArray, List.set_cons_zero, List.set_cons_succ]
  refine wpAnyH_take (i := 4) (v := .pointer (some ⟨b, o, none⟩)) rfl (by kernel_rfl) (by kernel_rfl) (by kernel_rfl) (fun _ _ _ h => h) (Or.inl ⟨by rfl, by intro w _; go_simp⟩) HX ?_
  simp only [List.getElem_toArray, List.getElem_cons_succ, List.getElem_cons_zero, Act.put, List.setIfInBounds_toArray, List.set_cons_zero, List.set_cons_succ]
  refine wpAnyH_take (i := 5) (v := .string X0) rfl (by kernel_rfl) (by kernel_rfl) (by kernel_rfl) (fun _ _ _ h => h) (Or.inl ⟨by rfl, by intro w hw; have hc := PX.c0 hw; go_simp⟩) HX ?_
  simp only [List.getElem_toArray, List.getElem_cons_succ, List.getElem_cons_zero, Act.put, List.setIfInBounds_toArray, List.set_cons_zero, List.set_cons_succ]
  refine wpAnyH_ready (rs := [6]) (by kernel_rfl) (by simp) (AllReadyH.cons (by simp only [List.getElem?_toArray, List.getElem?_cons_succ, List.getElem?_cons_zero]; rfl) (fun K hK => ?_) AllReadyH.nil)
  refine step_plain rfl ?_
  go_simp
  obtain ⟨w6, hw6⟩ : ∃ w6, w5.alloc (.cells #[.string X1, .string X0] 9) = w6 := ⟨_, rfl⟩
  have HA := HJ2.out _ _ _ _ _ _ _ _ H01.out.1 H01.out.2 HX hw6.symm
  have HX := HX.next ((Below.refl _ _).alloc (Nat.le_refl _) (.cells #[.string X1, .string X0] 9))
  rw [hw6] at HX ⊢
  refine hK.out _ _ HX (fun _ => ?_)
  clear hK K
  try simp only [List.getElem_toArray, List.getElem_cons_succ, List.getElem_cons_zero, Act.put, List.setIfInBounds_toArray, List.set_cons_zero, List.set_cons_succ]
  refine wpAnyH_ready (rs := [7]) (by kernel_rfl) (by simp) (AllReadyH.cons (by simp only [List.getElem?_toArray, List.getElem?_cons_succ, List.getElem?_cons_zero]; rfl) (fun K hK => ?_) AllReadyH.nil)
  refine step_plain rfl ?_
  go_simp
  refine HA.mono ?_
  rintro r w7 ⟨rfl, hx⟩
  have HX := hx
  clear hx HA
  refine hK.out _ _ HX (fun _ => ?_)
  clear hK K
  try simp only [List.getElem_toArray, List.getElem_cons_succ, List.getElem_cons_zero, Act.put, List.setIfInBounds_toArray, List.set_cons_zero, List.set_cons_succ]
  refine wpAnyH_take (i := 8) (v := .tuple #[.string (S (joinL [exX 1, exX 0] 80 1)), .int .i64 10]) rfl (by kernel_rfl) (by kernel_rfl) (by kernel_rfl) (fun _ _ _ h => h) (Or.inl ⟨by rfl, by intro w _; go_simp⟩) HX ?_
  simp only [List.getElem_toArray, List.getElem_cons_succ, List.getElem_cons_zero, Act.put, List.setIfInBounds_toArray, List.set_cons_zero, List.set_cons_succ]
  refine wpAnyH_take (i := 9) (v := .string (S (joinL [exX 1, exX 0] 80 1))) rfl (by kernel_rfl) (by kernel_rfl) (by kernel_rfl) (fun _ _ _ h => h) (Or.inl ⟨by rfl, by intro w _; go_simp⟩) HX ?_
  simp only [List.getElem_toArray, List.getElem_cons_succ, List.getElem_cons_zero, Act.put, List.setIfInBounds_toArray, List.set_cons_zero, List.set_cons_succ]
  refine wpAnyH_take (i := 10) (v := .int .i64 10) rfl (by kernel_rfl) (by kernel_rfl) (by kernel_rfl) (fun _ _ _ h => h) (Or.inl ⟨by rfl, by intro w _; go_simp⟩) HX ?_
  simp only [List.getElem_toArray, List.getElem_cons_succ, List.getElem_cons_zero, Act.put, List.setIfInBounds_toArray, List.set_cons_zero, List.set_cons_succ]
  refine wpAnyH_take (i := 11) (v := .string (S (joinL [exX 1, exX 0] 80 1))) rfl (by kernel_rfl) (by kernel_rfl) (by kernel_rfl) (fun _ _ _ h => h) (Or.inl ⟨by rfl, by intro w _; go_simp⟩) HX ?_
  simp only [List.getElem_toArray, List.getElem_cons_succ, List.getElem_cons_zero, Act.put, List.setIfInBounds_toArray, List.set_cons_zero, List.set_cons_succ]
  refine wpAnyH_take (i := 12) (v := .int .i64 10) rfl (by kernel_rfl) (by kernel_rfl) (by kernel_rfl) (fun _ _ _ h => h) (Or.inl ⟨by rfl, by intro w _; go_simp⟩) HX ?_
  simp only [List.getElem_toArray, List.getElem_cons_succ, List.getElem_cons_zero, Act.put, List.setIfInBounds_toArray, List.set_cons_zero, List.set_cons_succ]
  refine wpAnyH_done (by kernel_rfl) ?_ _
  have HX : Hid _ := HX
  go_wp2_with fail
  refine (HJ3.out _ _ _ _ _ _ _ HX.out).mono ?_
  rintro r w8 ⟨rfl, hx⟩
  have HX : Hid _ := hx
  clear hx
  go_wp2_with fail
  refine (HJ4.out _ _ _ _ _ _ _ HX.out).mono ?_
  rintro r w9 ⟨rfl, hx⟩
  have HX : Hid _ := hx.ts.below
  have hd2 := HD2.out
  clear hx
  go_wp2_with fail
  refine (HC0.out _).mono ?_
  rintro r w9 ⟨rfl, rfl⟩
  go_wp2_with fail
  refine (HC1.out _).mono ?_
  rintro r w9 ⟨rfl, rfl⟩
  go_wp2_with fail
  refine (HC2.out _).mono ?_
  rintro r w9 ⟨rfl, rfl⟩
  go_wp2_with fail
  refine (HC3.out _).mono ?_
  rintro r w9 ⟨rfl, rfl⟩
  go_wp2
  go_ret
  exact ⟨rfl, HX.out⟩
end Go.Proofs.YtalofhnjlmgloaaDoor
