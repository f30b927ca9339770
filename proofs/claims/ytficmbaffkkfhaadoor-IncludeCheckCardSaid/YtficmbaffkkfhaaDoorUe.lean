/- Node of package leaves (layer 8). -/
import Derived.Test.YtficmbaffkkfhaaDoorUd
namespace Go.Proofs.YtficmbaffkkfhaaDoor
open Go.RowKit

set_option maxRecDepth 100000 in
set_option maxHeartbeats 2000000 in
set_option linter.unusedSimpArgs false in
theorem node_any (a b : List UInt8) (w : World) (hK : TabL w) (ha : a.length = 32) (hb : b.length = 32) : Calls Tryd.prog 18 #[.agg (hv a), .agg (hv b)] w fun e w' => e = .returned (.agg (hv (nodeL a b))) ∧ Below w.heap.size w w' := by
  obtain ⟨w1, w2, w3, hw1, hw2, hw3, hst⟩ := hn_start w (hv a) (hv b) (hv (padTo 32 []))
  have HP : Hid (∀ w', Below w.heap.size w w' → Calls Tryd.prog 30 #[.int .i64 1, .int .i64 1] w' fun e w'' => e = .returned (.string (S [1])) ∧ Below w'.heap.size w' w'') := fun w' h => head_any 1 w' (hK.below h hK.lt) (by decide) (by decide)
  have HPA : Hid (∀ w', Calls Tryd.prog 31 #[.agg (hv a)] w' fun e w'' => e = .returned (.string (S a)) ∧ Below w'.heap.size w' w'') := fun w' => putHash_any a w' ha
  have HPB : Hid (∀ w', Calls Tryd.prog 31 #[.agg (hv b)] w' fun e w'' => e = .returned (.string (S b)) ∧ Below w'.heap.size w' w'') := fun w' => putHash_any b w' hb
  obtain ⟨X1, hX1⟩ : ∃ X, S [1] = X := ⟨_, rfl⟩
  have HC : Hid (∀ w', Below w.heap.size w w' → Calls Tryd.prog 29 #[.slice (some ⟨w'.heap.size, 0, none⟩) 3 3] (w'.alloc (.cells #[.string X1, .string (S a), .string (S b)] 9)) fun e w'' => e = .returned (.agg (hv (nodeL a b))) ∧ Below w'.heap.size w' w'') := fun w' h => by
    have b2 : Below w'.heap.size w' (w'.alloc (.cells #[.string X1, .string (S a), .string (S b)] 9)) := (Below.refl _ _).alloc (Nat.le_refl _) _
    have k1 := hK.below h hK.lt
    have := lsum_any (ts := [[1], a, b]) (v := .slice (some ⟨w'.heap.size, 0, none⟩) 3 3) (k1.below b2 k1.lt).k ⟨_, _, rfl, fun i t hi => ⟨_, _, rfl, by
      rw [cell_of_row _ _ _ _ _ _ (heap_alloc_last w' _)]
      match i, hi with
      | 0, hi => obtain rfl := Option.some.inj hi; rw [hX1]; rfl
      | 1, hi => obtain rfl := Option.some.inj hi; rfl
      | 2, hi => obtain rfl := Option.some.inj hi; rfl
      | i + 3, hi => simp at hi⟩⟩ (by simp) (by simp; omega)
    refine this.mono ?_
    rintro e w'' ⟨rfl, b3⟩
    exact ⟨by simp [nodeL], b2.trans (b3.mono b2.size)⟩
  rw [hX1] at HP
  have ia : Hid ((Tryd.prog.info? 23).map (·.size) = some (hv a).toList.length) := by show _ = _; rw [info_h32, Array.length_toList, hv_size, ha]
  have ib : Hid ((Tryd.prog.info? 23).map (·.size) = some (hv b).toList.length) := by show _ = _; rw [info_h32, Array.length_toList, hv_size, hb]
  have e4 : (hv (nodeL a b)).size = 32 := by rw [hv_size]; exact shaL_length _
  have e5 := hv_one (nodeL a b)
  have sCA : (hv a).size = 32 := by rw [hv_size, ha]
  have sCB : (hv b).size = 32 := by rw [hv_size, hb]
  have z1 : Hid ((hv (padTo 32 [])).size = 32) := hz_size
  obtain ⟨Z, hZ⟩ : ∃ Z, hv (padTo 32 []) = Z := ⟨_, rfl⟩
  have hwz := hw3
  rw [zero_h32] at hwz
  rw [hZ] at z1 hst
  generalize hv (nodeL a b) = R at *
  generalize hv a = CA at *
  generalize hv b = CB at *
  generalize S a = DA at *
  generalize S b = DB at *
  obtain ⟨rb, hrb⟩ : ∃ rb, w1.heap.size = rb := ⟨_, rfl⟩
  obtain ⟨rr, hrr⟩ : ∃ rr, w2.heap.size = rr := ⟨_, rfl⟩
  have HS : Hid (Hn w rb rr CA CB Z w3) := by rw [← hrb, ← hrr]; exact hst
  clear hst hw3 hZ hX1
  go_enter Tryd.func18, Tryd.ntmps18
  go_upto_region 1 with fail
  refine wp_region_held (S := Ha w rb CA CB) (by kernel_rfl) ?_
  change wpAnyH _ _ _ _ _ _ _ _ (World.drew _)
  have HX := HS.out.drew
  generalize World.drew _ = w4 at *
  refine wpAnyH_take (i := 1) (v := .agg CA) rfl (by kernel_rfl) (by kernel_rfl) (by kernel_rfl) (fun _ _ _ h => h) (yieldsIf_load_mid (by rfl) 23 _ rfl w.heap.size 0 rfl CA.toList _ (fun w h => range_row h.a) Tryd.underlying23 rfl ia.out) HX.base ?_
  simp only [List.getElem_toArray, List.getElem_cons_succ, List.getElem_cons_zero, Act.put, List.setIfInBounds_toArray, List.set_cons_zero, List.set_cons_succ]
  refine wpAnyH_take (i := 3) (v := .agg CB) rfl (by kernel_rfl) (by kernel_rfl) (by kernel_rfl) (fun _ _ _ h => h) (yieldsIf_load_mid (by rfl) 23 _ rfl rb 0 rfl CB.toList _ (fun w h => range_row h.b) Tryd.underlying23 rfl ib.out) HX.base ?_
  simp only [List.getElem_toArray, List.getElem_cons_succ, List.getElem_cons_zero, Act.put, List.setIfInBounds_toArray, List.set_cons_zero, List.set_cons_succ]
  refine wpAnyH_ready (rs := [0]) (by kernel_rfl) (by simp) (AllReadyH.cons (by simp only [List.getElem?_toArray, List.getElem?_cons_succ, List.getElem?_cons_zero]; rfl) (fun K hK => ?_) AllReadyH.nil)
  refine step_plain rfl ?_
  go_simp
  refine (HP.out _ HX.below).mono ?_
  rintro e w5 ⟨rfl, b5⟩
  have HX := HX.next b5
  clear b5
  refine hK.out _ _ HX.base (fun _ => ?_)
  clear hK K
  try simp only [List.getElem_toArray, List.getElem_cons_succ, List.getElem_cons_zero, Act.put, List.setIfInBounds_toArray, List.set_cons_zero, List.set_cons_succ]
  refine wpAnyH_ready (rs := [2]) (by kernel_rfl) (by simp) (AllReadyH.cons (by simp only [List.getElem?_toArray, List.getElem?_cons_succ, List.getElem?_cons_zero]; rfl) (fun K hK => ?_) AllReadyH.nil)
  refine step_plain rfl ?_
  go_simp
  refine (HPA.out _).mono ?_
  rintro e w5 ⟨rfl, b5⟩
  have HX := HX.next b5
  clear b5
  refine hK.out _ _ HX.base (fun _ => ?_)
  clear hK K
  try simp only [List.getElem_toArray, List.getElem_cons_succ, List.getElem_cons_zero, Act.put, List.setIfInBounds_toArray, List.set_cons_zero, List.set_cons_succ]
  refine wpAnyH_ready (rs := [4]) (by kernel_rfl) (by simp) (AllReadyH.cons (by simp only [List.getElem?_toArray, List.getElem?_cons_succ, List.getElem?_cons_zero]; rfl) (fun K hK => ?_) AllReadyH.nil)
  refine step_plain rfl ?_
  go_simp
  refine (HPB.out _).mono ?_
  rintro e w5 ⟨rfl, b5⟩
  have HX := HX.next b5
  clear b5
  refine hK.out _ _ HX.base (fun _ => ?_)
  clear hK K
  try simp only [List.getElem_toArray, List.getElem_cons_succ, List.getElem_cons_zero, Act.put, List.setIfInBounds_toArray, List.set_cons_zero, List.set_cons_succ]
  refine wpAnyH_ready (rs := [5]) (by kernel_rfl) (by simp) (AllReadyH.cons (by simp only [List.getElem?_toArray, List.getElem?_cons_succ, List.getElem?_cons_zero]; rfl) (fun K hK => ?_) AllReadyH.nil)
  refine step_plain rfl ?_
  go_simp
  have hCc := HC.out w5 HX.below
  have HXn : Hid (∀ w6, Below w5.heap.size w5 w6 → Hn w rb rr CA CB Z w6) := fun w6 h => HX.next h
  have HX := HX.next ((Below.refl _ _).alloc (Nat.le_refl _) (.cells #[.string X1, .string DA, .string DB] 9))
  refine hK.out _ _ HX.base (fun _ => ?_)
  clear hK K
  try simp only [List.getElem_toArray, List.getElem_cons_succ, List.getElem_cons_zero, Act.put, List.setIfInBounds_toArray, List.set_cons_zero, List.set_cons_succ]
  generalize w5.alloc (.cells #[.string X1, .string DA, .string DB] 9) = w6 at *
  generalize w5.heap.size = bb at *
  refine wpAnyH_ready (rs := [6]) (by kernel_rfl) (by simp) (AllReadyH.cons (by simp only [List.getElem?_toArray, List.getElem?_cons_succ, List.getElem?_cons_zero]; rfl) (fun K hK => ?_) AllReadyH.nil)
  refine step_plain rfl ?_
  go_simp
  refine hCc.mono ?_
  rintro e w7 ⟨rfl, b6⟩
  have HX := HXn.out w7 b6
  clear hCc b6 HXn
  refine hK.out _ _ HX.base (fun _ => ?_)
  clear hK K
  try simp only [List.getElem_toArray, List.getElem_cons_succ, List.getElem_cons_zero, Act.put, List.setIfInBounds_toArray, List.set_cons_zero, List.set_cons_succ]
  have g5 := HX.r
  have HT := HX.turn R
  refine wpAnyH_ready (rs := [7]) (by kernel_rfl) (by simp) (AllReadyH.cons (by simp only [List.getElem?_toArray, List.getElem?_cons_succ, List.getElem?_cons_zero]; rfl) (fun K hK => ?_) AllReadyH.nil)
  refine step_plain rfl ?_
  refine wp_store_row 23 (.tmp 4) _ rfl rr R rfl rfl _ _ g5 (by rw [info_h32, e4]) (by rw [z1.out, e4]) e5 ?_
  refine hK.out _ _ HT (fun _ => ?_)
  clear hK K
  try simp only [List.getElem_toArray, List.getElem_cons_succ, List.getElem_cons_zero, Act.put, List.setIfInBounds_toArray, List.set_cons_zero, List.set_cons_succ]
  refine wpAnyH_done (by kernel_rfl) ?_ _
  have g6 := heap_setRow_same (ds := R) g5
  have HB : Hid _ := HT.below
  clear HX HT g5 hw1 hw2 hwz hrb hrr HS
  go_wp2
  all_goals
    refine bodyPost_ret (v := .agg R) (results_cell1 (p := 4) Tryd.results18 _ _ rr 32 23 5 R (0, 0) rfl g6 Tryd.underlying23 info_h32 e4) rfl ⟨rfl, HB.out⟩
end Go.Proofs.YtficmbaffkkfhaaDoor
