/- The document's own Node (layer 8). -/
import Derived.Test.YtficmbaffkkfhaaDoorUa0
import Derived.Deep.RegionHeld3
import Derived.Deep.DeepCutAuto
namespace Go.Proofs.YtficmbaffkkfhaaDoor
open Go.RowKit

/-- Two hashes in boxes. -/
structure Ha (w : World) (rb : Nat) (CA CB : Array Value) (w' : World) : Prop where
  below : Below w.heap.size w w'
  a : w'.heap[w.heap.size]? = some (.cells CA 23 (0, 0))
  b : w'.heap[rb]? = some (.cells CB 23 (0, 0))
/-- Two hashes in boxes, and the box of the result. -/
structure Hn (w : World) (rb rr : Nat) (CA CB Z : Array Value) (w' : World) : Prop where
  below : Below w.heap.size w w'
  a : w'.heap[w.heap.size]? = some (.cells CA 23 (0, 0))
  b : w'.heap[rb]? = some (.cells CB 23 (0, 0))
  r : w'.heap[rr]? = some (.cells Z 23 (0, 0))
  lt : w.heap.size < rr
  lt2 : rb < rr
theorem Hn.next {w : World} {rb rr : Nat} {CA CB Z : Array Value} {w' w'' : World} (h : Hn w rb rr CA CB Z w') (hb : Below w'.heap.size w' w'') : Hn w rb rr CA CB Z w'' :=
  ⟨h.below.trans (hb.mono h.below.size), (hb.block _ (Array.getElem?_eq_some_iff.1 h.a).1).trans h.a, (hb.block _ (Array.getElem?_eq_some_iff.1 h.b).1).trans h.b, (hb.block _ (Array.getElem?_eq_some_iff.1 h.r).1).trans h.r, h.lt, h.lt2⟩
theorem Hn.base {w : World} {rb rr : Nat} {CA CB Z : Array Value} {w' : World} (h : Hn w rb rr CA CB Z w') : Ha w rb CA CB w' := ⟨h.below, h.a, h.b⟩
theorem Hn.turn {w : World} {rb rr : Nat} {CA CB Z : Array Value} {w' : World} (h : Hn w rb rr CA CB Z w') (R : Array Value) : Ha w rb CA CB (w'.setRow rr R) := ⟨below_setRow h.below (Nat.le_of_lt h.lt) _, (heap_setRow_ne (Nat.ne_of_lt h.lt)).trans h.a, (heap_setRow_ne (Nat.ne_of_lt h.lt2)).trans h.b⟩
theorem Hn.drew {w : World} {rb rr : Nat} {CA CB Z : Array Value} {w' : World} (h : Hn w rb rr CA CB Z w') : Hn w rb rr CA CB Z w'.drew := h.next (Below.refl _ _).drew
theorem hn_start (w : World) (CA CB Z : Array Value) : ∃ w1 w2 w3, w.alloc (.cells CA 23) = w1 ∧ w1.alloc (.cells CB 23) = w2 ∧ w2.alloc (.cells Z 23) = w3 ∧ Hn w w1.heap.size w2.heap.size CA CB Z w3 := by
  refine ⟨_, _, _, rfl, rfl, rfl, ?_⟩
  have h1 := heap_alloc_last w (.cells CA 23)
  generalize hw1 : w.alloc (.cells CA 23) = w1 at *
  have b1 : Below w.heap.size w w1 := by rw [← hw1]; exact (Below.refl _ _).alloc (Nat.le_refl _) _
  have h2 := heap_alloc_last w1 (.cells CB 23)
  have b2 : Below w1.heap.size w1 (w1.alloc (.cells CB 23)) := (Below.refl _ _).alloc (Nat.le_refl _) _
  generalize w1.alloc (.cells CB 23) = w2 at *
  have h3 := heap_alloc_last w2 (.cells Z 23)
  have b3 : Below w2.heap.size w2 (w2.alloc (.cells Z 23)) := (Below.refl _ _).alloc (Nat.le_refl _) _
  generalize w2.alloc (.cells Z 23) = w3 at *
  have k1 := (b2.block _ (Array.getElem?_eq_some_iff.1 h1).1).trans h1
  exact ⟨b1.trans ((b2.trans (b3.mono b2.size)).mono b1.size), (b3.block _ (Array.getElem?_eq_some_iff.1 k1).1).trans k1, (b3.block _ (Array.getElem?_eq_some_iff.1 h2).1).trans h2, h3, Nat.lt_of_lt_of_le (Array.getElem?_eq_some_iff.1 h1).1 b2.size, (Array.getElem?_eq_some_iff.1 h2).1⟩
set_option maxRecDepth 100000 in
set_option maxHeartbeats 2000000 in
set_option linter.unusedSimpArgs false in
theorem rnode_any (a b : List UInt8) (w : World) (hR : TabR w) (ha : a.length = 32) (hb : b.length = 32) : Calls Tryd.prog 36 #[.agg (hv a), .agg (hv b)] w fun e w' => e = .returned (.agg (hv (nodeL a b))) ∧ Below w.heap.size w w' := by
  obtain ⟨w1, w2, w3, hw1, hw2, hw3, hst⟩ := hn_start w (hv a) (hv b) (hv (padTo 32 []))
  have HPA : Hid (∀ w', Calls Tryd.prog 45 #[.agg (hv a)] w' fun e w'' => e = .returned (.string (S a)) ∧ Below w'.heap.size w' w'') := fun w' => rputHash_any a w' ha
  have HPB : Hid (∀ w', Calls Tryd.prog 45 #[.agg (hv b)] w' fun e w'' => e = .returned (.string (S b)) ∧ Below w'.heap.size w' w'') := fun w' => rputHash_any b w' hb
  have HC : Hid (∀ w', Below w.heap.size w w' → Calls Tryd.prog 44 #[.string ((⟨#[1]⟩ : ByteArray) ++ S a ++ S b)] w' fun e w'' => e = .returned (.agg (hv (nodeL a b))) ∧ Below w'.heap.size w' w'') := fun w' h => by
    rw [S_lead, S_append]
    exact rsum_any (1 :: (a ++ b)) w' (hR.below h hR.lt) (by simp; omega)
  have ia : Hid ((Tryd.prog.info? 23).map (·.size) = some (hv a).toList.length) := by show _ = _; rw [info_h32, Array.length_toList, hv_size, ha]
  have ib : Hid ((Tryd.prog.info? 23).map (·.size) = some (hv b).toList.length) := by show _ = _; rw [info_h32, Array.length_toList, hv_size, hb]
  have sa : (S a).size = 32 := by rw [S_size, ha]
  have sb : (S b).size = 32 := by rw [S_size, hb]
  have s1 : (⟨#[1]⟩ : ByteArray).size = 1 := rfl
  have s2 : ((⟨#[1]⟩ : ByteArray) ++ S a).size = 33 := by rw [ByteArray.size_append, s1, sa]
  have e4 : (hv (nodeL a b)).size = 32 := by rw [hv_size]; exact shaL_length _
  have e5 := hv_one (nodeL a b)
  have z1 : Hid ((hv (padTo 32 [])).size = 32) := hz_size
  obtain ⟨Z, hZ⟩ : ∃ Z, hv (padTo 32 []) = Z := ⟨_, rfl⟩
  have hwz := hw3
  rw [zero_h32] at hwz
  rw [hZ] at z1 hst
  generalize hv (nodeL a b) = R at *
  generalize hv a = CA at *
  generalize hv b = CB at *
  generalize S a = DA at *
  generalize S b = DB at *
  obtain ⟨X1, hX1⟩ : ∃ X : ByteArray, ⟨#[1]⟩ = X := ⟨_, rfl⟩
  rw [hX1] at HC s1 s2
  obtain ⟨rb, hrb⟩ : ∃ rb, w1.heap.size = rb := ⟨_, rfl⟩
  obtain ⟨rr, hrr⟩ : ∃ rr, w2.heap.size = rr := ⟨_, rfl⟩
  have HS : Hid (Hn w rb rr CA CB Z w3) := by rw [← hrb, ← hrr]; exact hst
  clear hst hw3 hZ
  go_enter Tryd.func36, Tryd.ntmps36
  go_upto_region 1 with fail
  refine wp_region_held (S := Ha w rb CA CB) (by kernel_rfl) ?_
  change wpAnyH _ _ _ _ _ _ _ _ (World.drew _)
  have HX := HS.out.drew
  generalize World.drew _ = w4 at *
  refine wpAnyH_take (i := 0) (v := .agg CA) rfl (by kernel_rfl) (by kernel_rfl) (by kernel_rfl) (fun _ _ _ h => h) (yieldsIf_load_mid (by rfl) 23 _ rfl w.heap.size 0 rfl CA.toList _ (fun w h => range_row h.a) Tryd.underlying23 rfl ia.out) HX.base ?_
  simp only [List.getElem_toArray, List.getElem_cons_succ, List.getElem_cons_zero, Act.put, List.setIfInBounds_toArray, List.set_cons_zero, List.set_cons_succ]
  refine wpAnyH_take (i := 3) (v := .agg CB) rfl (by kernel_rfl) (by kernel_rfl) (by kernel_rfl) (fun _ _ _ h => h) (yieldsIf_load_mid (by rfl) 23 _ rfl rb 0 rfl CB.toList _ (fun w h => range_row h.b) Tryd.underlying23 rfl ib.out) HX.base ?_
  simp only [List.getElem_toArray, List.getElem_cons_succ, List.getElem_cons_zero, Act.put, List.setIfInBounds_toArray, List.set_cons_zero, List.set_cons_succ]
  refine wpAnyH_ready (rs := [1]) (by kernel_rfl) (by simp) (AllReadyH.cons (by simp only [List.getElem?_toArray, List.getElem?_cons_succ, List.getElem?_cons_zero]; rfl) (fun K hK => ?_) AllReadyH.nil)
  refine step_plain rfl ?_
  go_simp
  refine (HPA.out _).mono ?_
  rintro e w5 ⟨rfl, b5⟩
  have HX := HX.next b5
  clear b5
  refine hK.out _ _ HX.base (fun _ => ?_)
  clear hK K
  try simp only [List.getElem_toArray, List.getElem_cons_succ, List.getElem_cons_zero, Act.put, List.setIfInBounds_toArray, List.set_cons_zero, List.set_cons_succ]
  refine wpAnyH_take (i := 2) (v := .string (X1 ++ DA)) rfl (by kernel_rfl) (by kernel_rfl) (by kernel_rfl) (fun _ _ _ h => h) (Or.inl ⟨by rfl, by intro w _; go_simp⟩) HX.base ?_
  simp only [List.getElem_toArray, List.getElem_cons_succ, List.getElem_cons_zero, Act.put, List.setIfInBounds_toArray, List.set_cons_zero, List.set_cons_succ]
  refine wpAnyH_ready (rs := [4]) (by kernel_rfl) (by simp) (AllReadyH.cons (by simp only [List.getElem?_toArray, List.getElem?_cons_succ, List.getElem?_cons_zero]; rfl) (fun K hK => ?_) AllReadyH.nil)
  refine step_plain rfl ?_
  go_simp
  refine (HPB.out _).mono ?_
  rintro e w5 ⟨rfl, b5⟩
  have HX := HX.next b5
  clear b5
  refine hK.out _ _ HX.base (fun _ => ?_)
  clear hK K
  try simp only [List.getElem_toArray, List.getElem_cons_succ, List.getElem_cons_zero, Act.put, List.setIfInBounds_toArray, List.set_cons_zero, List.set_cons_succ]
  refine wpAnyH_take (i := 5) (v := .string (X1 ++ DA ++ DB)) rfl (by kernel_rfl) (by kernel_rfl) (by kernel_rfl) (fun _ _ _ h => h) (Or.inl ⟨by rfl, by intro w _; go_simp⟩) HX.base ?_
  simp only [List.getElem_toArray, List.getElem_cons_succ, List.getElem_cons_zero, Act.put, List.setIfInBounds_toArray, List.set_cons_zero, List.set_cons_succ]
  refine wpAnyH_ready (rs := [6]) (by kernel_rfl) (by simp) (AllReadyH.cons (by simp only [List.getElem?_toArray, List.getElem?_cons_succ, List.getElem?_cons_zero]; rfl) (fun K hK => ?_) AllReadyH.nil)
  refine step_plain rfl ?_
  go_simp
  refine (HC.out _ HX.below).mono ?_
  rintro e w5 ⟨rfl, b5⟩
  have HX := HX.next b5
  clear b5
  refine hK.out _ _ HX.base (fun _ => ?_)
  clear hK K
  try simp only [List.getElem_toArray, List.getElem_cons_succ, List.getElem_cons_zero, Act.put, List.setIfInBounds_toArray, List.set_cons_zero, List.set_cons_succ]
  have g5 := HX.r
  have HT := HX.turn R
  refine wpAnyH_ready (rs := [7]) (by kernel_rfl) (by simp) (AllReadyH.cons (by simp only [List.getElem?_toArray, List.getElem?_cons_succ, List.getElem?_cons_zero]; rfl) (fun K hK => ?_) AllReadyH.nil)
  refine step_plain rfl ?_
  refine wp_store_row 23 (.tmp 4) _ rfl rr R rfl rfl _ _ g5 (by rw [info_h32, e4]) (by rw [z1.out, e4]) e5 ?_
  refine hK.out _ _ HT (fun _ => ?_)
  clear hK K
  try simp only [List.getElem_toArray, List.getElem_cons_succ, List.getElem_cons_zero, Act.put, List.setIfInBounds_toArray, List.set_cons_zero, List.set_cons_succ]
  refine wpAnyH_done (by kernel_rfl) ?_ _
  have g6 := heap_setRow_same (ds := R) g5
  have HB : Hid _ := HT.below
  clear HX HT g5 hw1 hw2 hwz hrb hrr HS
  go_wp2
  all_goals
    refine bodyPost_ret (v := .agg R) (results_cell1 (p := 4) Tryd.results36 _ _ rr 32 23 5 R (0, 0) rfl g6 Tryd.underlying23 info_h32 e4) rfl ⟨rfl, HB.out⟩
end Go.Proofs.YtficmbaffkkfhaaDoor
