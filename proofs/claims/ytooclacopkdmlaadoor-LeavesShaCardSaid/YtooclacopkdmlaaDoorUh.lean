/- The law LeavesSha (layer 8). -/
import Derived.Test.YtooclacopkdmlaaDoorUg
import Derived.Laws.MakeOwn
namespace Go.Proofs.YtooclacopkdmlaaDoor
open Go.RowKit

/-- A row of bytes of one's own. -/
structure By (B : Nat) (v : Value) (l : List UInt8) (w : World) : Prop where
  owns : w.ownsRow B 5 1 v l.length (hv l).toList
  le : B ≤ w.heap.size
theorem By.next {B : Nat} {v : Value} {l : List UInt8} {w w' : World} (h : By B v l w) (hb : Below w.heap.size w w') : By B v l w' := by
  refine ⟨⟨h.owns.1, ?_⟩, Nat.le_trans h.le hb.size⟩
  rcases h.owns.2 with q | ⟨g, cap, cur, q1, q2, q3, q4⟩
  · exact .inl q
  · exact .inr ⟨g, cap, cur, q1, q2, (hb.block _ (Array.getElem?_eq_some_iff.1 q3).1).trans q3, q4⟩
theorem by_start (w : World) (x : UInt8) : By w.heap.size (.slice (some ⟨w.heap.size, 0, none⟩) 1 1) [x] (w.alloc (.cells #[.int .u8 (x.toNat : Int)] 5)) :=
  ⟨⟨rfl, .inr ⟨w.heap.size, 1, #[.int .u8 (x.toNat : Int)], rfl, Nat.le_refl _, heap_alloc_last w _, Nat.le_refl _, by simp [maxLen], rfl, rfl⟩⟩, by simp⟩
theorem hv_app (a b : List UInt8) : (hv (a ++ b)).toList = (hv a).toList ++ (hv b).toList := by simp [hv]
/-- append of a hash in a box. -/
theorem wp_append_hash {op : Oper} {a : Act} {W : World} {K : Act → World → Prop} {Q : Exit → Act → World → Prop} (s y : Operand) (ho : op.op = .call { callee := .builtin .append, args := #[s, y], argTypes := #[28, 28] })
    {B : Nat} {v : Value} {l : List UInt8} (hM : By B v l W) (x : List UInt8) (hx : x.length = 32) (g : Nat) (t : TypeId) (fr : Nat × Nat) (hs : a.eval s = v) (hy : a.eval y = .slice (some ⟨g, 0, none⟩) 32 32) (hg : W.heap[g]? = some (.cells (hv x) t fr)) (hl : l.length ≤ 1000)
    (h : ∀ b c w', Below B W w' → By B (.slice (some ⟨b, 0, none⟩) (l.length + 32) c) (l ++ x) w' → K (a.put op.dst (.slice (some ⟨b, 0, none⟩) (l.length + 32) c)) w') : op.wp Tryd.prog a W K Q := by
  obtain ⟨ia, i1, i2, i3, i4⟩ : ∃ i, Tryd.prog.info? 5 = some i ∧ i.zero = some (.int .u8 0) ∧ i.size = 1 ∧ i.bytes = 1 := by
    have h := info_u8
    cases hq : Tryd.prog.info? 5 with
    | none => rw [hq] at h; cases h
    | some i =>
      rw [hq] at h
      simp at h
      exact ⟨i, rfl, h.1, h.2.1, h.2.2⟩
  refine wp_append_own W s y 28 ho B 5 ia (.int .u8 0) 1 1 Tryd.underlying28 i1 i2 i3 i4 rfl (by omega) v l.length (hv l).toList hs hM.owns ⟨g, 0, none⟩ 32 32 (hv x).toList hy (by rw [Array.length_toList, hv_size, hx]) (fun j u hj => ?_) (fun u hu => ?_) (by simp only [maxLen]; omega) (by omega) hM.le (fun v' w' r1 r2 _ => ?_)
  · rw [Addr.add_mid, cell_of_row _ _ _ _ _ _ hg, Nat.zero_add, ← Array.getElem?_toList]
    exact hj
  · have := hv_one x
    exact Array.all_eq_true_iff_forall_mem.1 this u (by simpa using hu)
  · rw [← hv_app] at r1
    have hb : Below B W w' := (Below.refl _ _).grown r2 hM.le (fun j hj => (World.ownsRow.lt hM.owns j hj).1)
    rcases id r1.2 with ⟨_, q2⟩ | ⟨b, cap, cur, rfl, _⟩
    · omega
    · exact h b cap w' hb ⟨by rw [List.length_append, hx]; exact r1, Nat.le_trans hM.le hb.size⟩
/-- Its bytes as a string. -/
theorem By.conv {B g n c : Nat} {l : List UInt8} {w : World} (h : By B (.slice (some ⟨g, 0, none⟩) n c) l w) (hn : l.length = n) : (convert 28 9 (.slice (some ⟨g, 0, none⟩) n c)).run Tryd.prog w = .ok (.string (S l)) w := by
  subst hn
  rw [run_convert_bytes_string _ _ _ 5 _ _ _ Tryd.underlying28 Tryd.underlying5 Tryd.underlying9]
  have hl := run_loadCells_list (P := Tryd.prog) w ⟨g, 0, none⟩ ((l.map fun b => (b.toNat : Int)).map (Value.int .u8)) (fun j v hj => by
    refine h.owns.cells (g := g) rfl j v ?_
    simpa [hv] using hj)
  rw [List.length_map, List.length_map] at hl
  rw [run_bytesToString _ _ _ _ _ hl, foldl_push, List.map_map]
  have e : (l.map ((fun n : Int => UInt8.ofNat n.toNat) ∘ fun b : UInt8 => (b.toNat : Int))) = l := by
    conv => rhs; rw [← List.map_id l]
    apply List.map_congr_left
    intro x _
    simp
  rw [e]
  simp [S]
/-- The table, and the two hashes that came in. -/
structure Ls (w : World) (rb : Nat) (CA CB : Array Value) (w' : World) : Prop where
  below : Below w.heap.size w w'
  k : TabL w'
  a : w'.heap[w.heap.size]? = some (.cells CA 22 (0, 0))
  b : w'.heap[rb]? = some (.cells CB 22 (0, 0))
theorem Ls.next {w : World} {rb : Nat} {CA CB : Array Value} {w' w'' : World} (h : Ls w rb CA CB w') (hb : Below w'.heap.size w' w'') : Ls w rb CA CB w'' :=
  ⟨h.below.trans (hb.mono h.below.size), h.k.below hb h.k.lt, (hb.block _ (Array.getElem?_eq_some_iff.1 h.a).1).trans h.a, (hb.block _ (Array.getElem?_eq_some_iff.1 h.b).1).trans h.b⟩
theorem Ls.drew {w : World} {rb : Nat} {CA CB : Array Value} {w' : World} (h : Ls w rb CA CB w') : Ls w rb CA CB w'.drew := ⟨h.below.drew, h.k.drew, h.a, h.b⟩
/-- .., and the bytes put together. -/
structure Lb (w : World) (rb : Nat) (CA CB : Array Value) (B : Nat) (v : Value) (l : List UInt8) (w' : World) : Prop where
  ls : Ls w rb CA CB w'
  o : By B v l w'
theorem Lb.next {w : World} {rb : Nat} {CA CB : Array Value} {B : Nat} {v : Value} {l : List UInt8} {w' w'' : World} (h : Lb w rb CA CB B v l w') (hb : Below w'.heap.size w' w'') : Lb w rb CA CB B v l w'' := ⟨h.ls.next hb, h.o.next hb⟩
theorem Lb.drew {w : World} {rb : Nat} {CA CB : Array Value} {B : Nat} {v : Value} {l : List UInt8} {w' : World} (h : Lb w rb CA CB B v l w') : Lb w rb CA CB B v l w'.drew := h.next (Below.refl _ _).drew
theorem sha_long (s : ByteArray) (a b : List UInt8) (w : World) (hs : 2000 < s.size) : Calls Tryd.prog 4 #[.string s, .agg (hv a), .agg (hv b)] w fun e w' => e = .returned (.bool true) ∧ Below w.heap.size w w' := by
  have h1 : (2000 : Int) < (s.size : Int) := by omega
  obtain ⟨w1, w2, hw1, hw2, hb, -, -⟩ := two_boxes w (hv a) (hv b)
  have HB : Hid _ := hb
  clear hb
  generalize hv a = CA at *
  generalize hv b = CB at *
  go_enter Tryd.func4, Tryd.ntmps4
  go_wp2
  go_ret
  exact ⟨rfl, HB.out⟩
set_option maxRecDepth 100000 in
set_option maxHeartbeats 2000000 in
set_option linter.unusedSimpArgs false in
theorem sha_walk (l a b : List UInt8) (w : World) (hK : TabL w) (hl : l.length ≤ 2000) (ha : a.length = 32) (hb : b.length = 32) : Calls Tryd.prog 4 #[.string (S l), .agg (hv a), .agg (hv b)] w fun e w' => e = .returned (.bool true) ∧ Below w.heap.size w w' := by
  have h1 : ¬ (2000 : Int) < (l.length : Int) := by omega
  have hsz : (S l).size = l.length := S_size l
  obtain ⟨w1, w2, hw1, hw2, b2, g1, g2⟩ := two_boxes w (hv a) (hv b)
  have HS : Hid (Ls w w1.heap.size (hv a) (hv b) w2) := ⟨b2, hK.below b2 hK.lt, g1, g2⟩
  have he1 := eq_hash (0 :: l)
  have he2 := eq_hash (1 :: (a ++ b))
  have he3 := eq_hash []
  have hX0 : (⟨#[0]⟩ : ByteArray) ++ S l = S (0 :: l) := S_lead 0 l
  have HA : Hid (∀ w', TabL w' → Calls Tryd.prog 5 #[.string (S l)] w' fun e w'' => e = .returned (.agg (hv (shaL (0 :: l)))) ∧ Below w'.heap.size w' w'') := fun w' k => leaf_any l w' k (by omega)
  have HB : Hid (∀ w', TabL w' → Calls Tryd.prog 12 #[.string (S (0 :: l))] w' fun e w'' => e = .returned (.agg (hv (shaL (0 :: l)))) ∧ Below w'.heap.size w' w'') := fun w' k => sum_any (0 :: l) w' k.k (by simp; omega)
  have HC : Hid (∀ w', TabL w' → Calls Tryd.prog 7 #[.agg (hv a), .agg (hv b)] w' fun e w'' => e = .returned (.agg (hv (shaL (1 :: (a ++ b))))) ∧ Below w'.heap.size w' w'') := fun w' k => node_any a b w' k ha hb
  have HD : Hid (∀ w', TabL w' → Calls Tryd.prog 12 #[.string (S (1 :: (a ++ b)))] w' fun e w'' => e = .returned (.agg (hv (shaL (1 :: (a ++ b))))) ∧ Below w'.heap.size w' w'') := fun w' k => sum_any (1 :: (a ++ b)) w' k.k (by simp; omega)
  have HE : Hid (∀ w', TabL w' → Calls Tryd.prog 9 #[] w' fun e w'' => e = .returned (.agg (hv (shaL []))) ∧ Below w'.heap.size w' w'') := fun w' k => empty_any w' k
  have HF : Hid (∀ w', TabL w' → Calls Tryd.prog 12 #[.string ⟨#[]⟩] w' fun e w'' => e = .returned (.agg (hv (shaL []))) ∧ Below w'.heap.size w' w'') := fun w' k => sum_any [] w' k.k (by simp)
  have HG : Hid (∀ w', TabL w' → Calls Tryd.prog 11 #[] w' fun e w'' => e = .returned (.bool true) ∧ Below w'.heap.size w' w'') := fun w' k => does_any w' k
  have ia : Hid ((Tryd.prog.info? 22).map (·.size) = some (hv a).toList.length) := by show _ = _; rw [info_h32, Array.length_toList, hv_size, ha]
  have ib : Hid ((Tryd.prog.info? 22).map (·.size) = some (hv b).toList.length) := by show _ = _; rw [info_h32, Array.length_toList, hv_size, hb]
  have sCA : (hv a).size = 32 := by rw [hv_size, ha]
  have sCB : (hv b).size = 32 := by rw [hv_size, hb]
  have hsX : (⟨#[0]⟩ : ByteArray).size = 1 := rfl
  have hbd : 1 + l.length ≤ 9223372036854775807 := by omega
  generalize hv (shaL (0 :: l)) = R1 at *
  generalize hv (shaL (1 :: (a ++ b))) = R2 at *
  generalize hv (shaL []) = R3 at *
  obtain ⟨CA, hCA⟩ : ∃ CA, hv a = CA := ⟨_, rfl⟩
  obtain ⟨CB, hCB⟩ : ∃ CB, hv b = CB := ⟨_, rfl⟩
  have HCA : Hid (hv a = CA) := hCA
  have HCB : Hid (hv b = CB) := hCB
  rw [hCA] at HS HC ia sCA hw1
  rw [hCB] at HS HC ib sCB hw2
  rw [hCA, hCB]
  obtain ⟨X0, hX⟩ : ∃ X : ByteArray, ⟨#[0]⟩ = X := ⟨_, rfl⟩
  rw [hX] at hX0 hsX
  generalize S (0 :: l) = D0 at *
  generalize S l = D at *
  clear hK b2 g1 g2 hCA hCB
  obtain ⟨rb, hrb⟩ : ∃ rb, w1.heap.size = rb := ⟨_, rfl⟩
  rw [hrb] at HS
  go_enter Tryd.func4, Tryd.ntmps4
  go_upto_region 3 with fail
  refine wp_region_held (S := Ls w rb CA CB) (by kernel_rfl) ?_
  change wpAnyH _ _ _ _ _ _ _ _ (World.drew _)
  have HX := HS.out.drew
  generalize World.drew _ = w4 at *
  refine wpAnyH_take (i := 1) (v := .slice (some ⟨w.heap.size, 0, none⟩) 32 32) rfl (by kernel_rfl) (by kernel_rfl) (by kernel_rfl) (fun _ _ _ h => h) (Or.inl ⟨by rfl, by intro w9 hw; have hg := hw.a; go_simp⟩) HX ?_
  simp only [List.getElem_toArray, List.getElem_cons_succ, List.getElem_cons_zero, Act.put, List.setIfInBounds_toArray, List.set_cons_zero, List.set_cons_succ]
  refine wpAnyH_take (i := 3) (v := .slice (some ⟨rb, 0, none⟩) 32 32) rfl (by kernel_rfl) (by kernel_rfl) (by kernel_rfl) (fun _ _ _ h => h) (Or.inl ⟨by rfl, by intro w9 hw; have hg := hw.b; go_simp⟩) HX ?_
  simp only [List.getElem_toArray, List.getElem_cons_succ, List.getElem_cons_zero, Act.put, List.setIfInBounds_toArray, List.set_cons_zero, List.set_cons_succ]
  refine wpAnyH_ready (rs := [0]) (by kernel_rfl) (by simp) (AllReadyH.cons (by simp only [List.getElem?_toArray, List.getElem?_cons_succ, List.getElem?_cons_zero]; rfl) (fun K hK => ?_) AllReadyH.nil)
  refine step_plain rfl ?_
  go_simp
  have HO : By w4.heap.size (.slice (some ⟨w4.heap.size, 0, none⟩) 1 1) [1] (w4.alloc (.cells #[.int .u8 1] 5)) := by_start w4 1
  have hle4 : w.heap.size ≤ w4.heap.size := HX.below.size
  have HX4 : Hid (∀ w', Below w4.heap.size w4 w' → Ls w rb CA CB w') := fun w' h => HX.next h
  have hb4 : Below w4.heap.size w4 (w4.alloc (.cells #[.int .u8 1] 5)) := (Below.refl _ _).alloc (Nat.le_refl _) _
  have HX := HX4.out _ hb4
  refine hK.out _ _ HX (fun _ => ?_)
  clear hK K
  try simp only [List.getElem_toArray, List.getElem_cons_succ, List.getElem_cons_zero, Act.put, List.setIfInBounds_toArray, List.set_cons_zero, List.set_cons_succ]
  generalize w4.alloc (.cells #[.int .u8 1] 5) = w5 at *
  obtain ⟨B4, hB4⟩ : ∃ B, w4.heap.size = B := ⟨_, rfl⟩
  rw [hB4] at HO HX4 hb4
  rw [hB4]
  refine wpAnyH_ready (rs := [2]) (by kernel_rfl) (by simp) (AllReadyH.cons (by simp only [List.getElem?_toArray, List.getElem?_cons_succ, List.getElem?_cons_zero]; rfl) (fun K hK => ?_) AllReadyH.nil)
  refine step_plain rfl ?_
  refine wp_append_hash (.tmp 11) (.tmp 12) rfl HO a ha w.heap.size 22 (0, 0) rfl rfl (by rw [HCA.out]; exact HX.a) (by simp) ?_
  intro g6 c6 w6 b6 HO6
  have hb6 : Below B4 w4 w6 := hb4.trans b6
  have HX := HX4.out w6 hb6
  clear HO b6
  refine hK.out _ _ HX (fun _ => ?_)
  clear hK K
  try simp only [List.getElem_toArray, List.getElem_cons_succ, List.getElem_cons_zero, Act.put, List.setIfInBounds_toArray, List.set_cons_zero, List.set_cons_succ]
  refine wpAnyH_ready (rs := [4]) (by kernel_rfl) (by simp) (AllReadyH.cons (by simp only [List.getElem?_toArray, List.getElem?_cons_succ, List.getElem?_cons_zero]; rfl) (fun K hK => ?_) AllReadyH.nil)
  refine step_plain rfl ?_
  refine wp_append_hash (.tmp 13) (.tmp 14) rfl HO6 b hb rb 22 (0, 0) rfl rfl (by rw [HCB.out]; exact HX.b) (by simp; omega) ?_
  intro g7 c7 w7 b7 HO
  have HX := HX4.out w7 (hb6.trans b7)
  clear HO6 b7 hb6
  refine hK.out _ _ HX (fun _ => ?_)
  clear hK K
  try simp only [List.getElem_toArray, List.getElem_cons_succ, List.getElem_cons_zero, Act.put, List.setIfInBounds_toArray, List.set_cons_zero, List.set_cons_succ]
  have hn65 : (([1] : List UInt8) ++ a).length + 32 = 65 := by simp [ha]
  have happ : ([1] : List UInt8) ++ a ++ b = 1 :: (a ++ b) := by simp
  rw [hn65, happ] at HO
  rw [hn65]
  refine wpAnyH_take (i := 5) (v := .slice (some ⟨g7, 0, none⟩) 65 c7) rfl (by kernel_rfl) (by kernel_rfl) (by kernel_rfl) (fun _ _ _ h => h) (Or.inl ⟨by rfl, by intro w _; go_simp⟩) HX ?_
  simp only [List.getElem_toArray, List.getElem_cons_succ, List.getElem_cons_zero, Act.put, List.setIfInBounds_toArray, List.set_cons_zero, List.set_cons_succ]
  refine wpAnyH_done (by kernel_rfl) ?_ _
  have HL : Hid (Lb w rb CA CB B4 (.slice (some ⟨g7, 0, none⟩) 65 c7) (1 :: (a ++ b)) w7) := ⟨HX, HO⟩
  have hl65 : (1 :: (a ++ b)).length = 65 := by simp [ha, hb]
  clear HX HO HX4 HS hw1 hw2 hrb hB4 hle4 hn65 happ
  go_upto_region 4 with fail
  refine wp_region_held (S := Lb w rb CA CB B4 (.slice (some ⟨g7, 0, none⟩) 65 c7) (1 :: (a ++ b))) (by kernel_rfl) ?_
  change wpAnyH _ _ _ _ _ _ _ _ (World.drew _)
  have HX := HL.out.drew
  generalize World.drew _ = w8 at *
  refine wpAnyH_take (i := 0) (v := .string D) rfl (by kernel_rfl) (by kernel_rfl) (by kernel_rfl) (fun _ _ _ h => h) (Or.inl ⟨by rfl, by intro w _; go_simp⟩) HX ?_
  simp only [List.getElem_toArray, List.getElem_cons_succ, List.getElem_cons_zero, Act.put, List.setIfInBounds_toArray, List.set_cons_zero, List.set_cons_succ]
  refine wpAnyH_take (i := 2) (v := .string D) rfl (by kernel_rfl) (by kernel_rfl) (by kernel_rfl) (fun _ _ _ h => h) (Or.inl ⟨by rfl, by intro w _; go_simp⟩) HX ?_
  simp only [List.getElem_toArray, List.getElem_cons_succ, List.getElem_cons_zero, Act.put, List.setIfInBounds_toArray, List.set_cons_zero, List.set_cons_succ]
  refine wpAnyH_take (i := 3) (v := .string D0) rfl (by kernel_rfl) (by kernel_rfl) (by kernel_rfl) (fun _ _ _ h => h) (Or.inl ⟨by rfl, by intro w9 _; go_simp⟩) HX ?_
  simp only [List.getElem_toArray, List.getElem_cons_succ, List.getElem_cons_zero, Act.put, List.setIfInBounds_toArray, List.set_cons_zero, List.set_cons_succ]
  refine wpAnyH_ready (rs := [1]) (by kernel_rfl) (by simp) (AllReadyH.cons (by simp only [List.getElem?_toArray, List.getElem?_cons_succ, List.getElem?_cons_zero]; rfl) (fun K hK => ?_) AllReadyH.nil)
  refine step_want (by rfl) ?_
  go_simp
  refine (HA.out _ HX.ls.k).mono ?_
  rintro e w8 ⟨rfl, b8⟩
  have HX := HX.next b8
  clear b8
  refine hK.out _ _ HX (fun _ => ?_)
  clear hK K
  try simp only [List.getElem_toArray, List.getElem_cons_succ, List.getElem_cons_zero, Act.put, List.setIfInBounds_toArray, List.set_cons_zero, List.set_cons_succ]
  refine wpAnyH_ready (rs := [4]) (by kernel_rfl) (by simp) (AllReadyH.cons (by simp only [List.getElem?_toArray, List.getElem?_cons_succ, List.getElem?_cons_zero]; rfl) (fun K hK => ?_) AllReadyH.nil)
  refine step_want (by rfl) ?_
  go_simp
  refine (HB.out _ HX.ls.k).mono ?_
  rintro e w8 ⟨rfl, b8⟩
  have HX := HX.next b8
  clear b8
  refine hK.out _ _ HX (fun _ => ?_)
  clear hK K
  try simp only [List.getElem_toArray, List.getElem_cons_succ, List.getElem_cons_zero, Act.put, List.setIfInBounds_toArray, List.set_cons_zero, List.set_cons_succ]
  refine wpAnyH_take (i := 5) (v := .bool true) rfl (by kernel_rfl) (by kernel_rfl) (by kernel_rfl) (fun _ _ _ h => h) (Or.inl ⟨by rfl, by intro w _; go_simp⟩) HX ?_
  simp only [List.getElem_toArray, List.getElem_cons_succ, List.getElem_cons_zero, Act.put, List.setIfInBounds_toArray, List.set_cons_zero, List.set_cons_succ]
  refine wpAnyH_take (i := 6) (v := .bool true) rfl (by kernel_rfl) (by kernel_rfl) (by kernel_rfl) (fun _ _ _ h => h) (Or.inl ⟨by rfl, by intro w _; go_simp⟩) HX ?_
  simp only [List.getElem_toArray, List.getElem_cons_succ, List.getElem_cons_zero, Act.put, List.setIfInBounds_toArray, List.set_cons_zero, List.set_cons_succ]
  refine wpAnyH_take (i := 7) (v := .agg CA) rfl (by kernel_rfl) (by kernel_rfl) (by kernel_rfl) (fun _ _ _ h => h) (yieldsIf_load_mid (by rfl) 22 _ rfl w.heap.size 0 rfl CA.toList _ (fun w h => range_row h.ls.a) Tryd.underlying22 rfl ia.out) HX ?_
  simp only [List.getElem_toArray, List.getElem_cons_succ, List.getElem_cons_zero, Act.put, List.setIfInBounds_toArray, List.set_cons_zero, List.set_cons_succ]
  refine wpAnyH_take (i := 8) (v := .agg CB) rfl (by kernel_rfl) (by kernel_rfl) (by kernel_rfl) (fun _ _ _ h => h) (yieldsIf_load_mid (by rfl) 22 _ rfl rb 0 rfl CB.toList _ (fun w h => range_row h.ls.b) Tryd.underlying22 rfl ib.out) HX ?_
  simp only [List.getElem_toArray, List.getElem_cons_succ, List.getElem_cons_zero, Act.put, List.setIfInBounds_toArray, List.set_cons_zero, List.set_cons_succ]
  refine wpAnyH_take (i := 10) (v := .slice (some ⟨g7, 0, none⟩) 65 c7) rfl (by kernel_rfl) (by kernel_rfl) (by kernel_rfl) (fun _ _ _ h => h) (Or.inl ⟨by rfl, by intro w _; go_simp⟩) HX ?_
  simp only [List.getElem_toArray, List.getElem_cons_succ, List.getElem_cons_zero, Act.put, List.setIfInBounds_toArray, List.set_cons_zero, List.set_cons_succ]
  refine wpAnyH_take (i := 11) (v := .string (S (1 :: (a ++ b)))) rfl (by kernel_rfl) (by kernel_rfl) (by kernel_rfl) (fun _ _ _ h => h) (Or.inl ⟨by rfl, by intro w9 hw; have hc := hw.o.conv hl65; go_simp⟩) HX ?_
  simp only [List.getElem_toArray, List.getElem_cons_succ, List.getElem_cons_zero, Act.put, List.setIfInBounds_toArray, List.set_cons_zero, List.set_cons_succ]
  refine wpAnyH_ready (rs := [9]) (by kernel_rfl) (by simp) (AllReadyH.cons (by simp only [List.getElem?_toArray, List.getElem?_cons_succ, List.getElem?_cons_zero]; rfl) (fun K hK => ?_) AllReadyH.nil)
  refine step_want (by rfl) ?_
  go_simp
  refine (HC.out _ HX.ls.k).mono ?_
  rintro e w8 ⟨rfl, b8⟩
  have HX := HX.next b8
  clear b8
  refine hK.out _ _ HX (fun _ => ?_)
  clear hK K
  try simp only [List.getElem_toArray, List.getElem_cons_succ, List.getElem_cons_zero, Act.put, List.setIfInBounds_toArray, List.set_cons_zero, List.set_cons_succ]
  refine wpAnyH_ready (rs := [12]) (by kernel_rfl) (by simp) (AllReadyH.cons (by simp only [List.getElem?_toArray, List.getElem?_cons_succ, List.getElem?_cons_zero]; rfl) (fun K hK => ?_) AllReadyH.nil)
  refine step_want (by rfl) ?_
  go_simp
  refine (HD.out _ HX.ls.k).mono ?_
  rintro e w8 ⟨rfl, b8⟩
  have HX := HX.next b8
  clear b8
  refine hK.out _ _ HX (fun _ => ?_)
  clear hK K
  try simp only [List.getElem_toArray, List.getElem_cons_succ, List.getElem_cons_zero, Act.put, List.setIfInBounds_toArray, List.set_cons_zero, List.set_cons_succ]
  refine wpAnyH_take (i := 13) (v := .bool true) rfl (by kernel_rfl) (by kernel_rfl) (by kernel_rfl) (fun _ _ _ h => h) (Or.inl ⟨by rfl, by intro w _; go_simp⟩) HX ?_
  simp only [List.getElem_toArray, List.getElem_cons_succ, List.getElem_cons_zero, Act.put, List.setIfInBounds_toArray, List.set_cons_zero, List.set_cons_succ]
  refine wpAnyH_take (i := 14) (v := .bool true) rfl (by kernel_rfl) (by kernel_rfl) (by kernel_rfl) (fun _ _ _ h => h) (Or.inl ⟨by rfl, by intro w _; go_simp⟩) HX ?_
  simp only [List.getElem_toArray, List.getElem_cons_succ, List.getElem_cons_zero, Act.put, List.setIfInBounds_toArray, List.set_cons_zero, List.set_cons_succ]
  refine wpAnyH_take (i := 15) (v := .bool true) rfl (by kernel_rfl) (by kernel_rfl) (by kernel_rfl) (fun _ _ _ h => h) (Or.inl ⟨by rfl, by intro w _; go_simp⟩) HX ?_
  simp only [List.getElem_toArray, List.getElem_cons_succ, List.getElem_cons_zero, Act.put, List.setIfInBounds_toArray, List.set_cons_zero, List.set_cons_succ]
  refine wpAnyH_ready (rs := [16]) (by kernel_rfl) (by simp) (AllReadyH.cons (by simp only [List.getElem?_toArray, List.getElem?_cons_succ, List.getElem?_cons_zero]; rfl) (fun K hK => ?_) AllReadyH.nil)
  refine step_want (by rfl) ?_
  go_simp
  refine (HE.out _ HX.ls.k).mono ?_
  rintro e w8 ⟨rfl, b8⟩
  have HX := HX.next b8
  clear b8
  refine hK.out _ _ HX (fun _ => ?_)
  clear hK K
  try simp only [List.getElem_toArray, List.getElem_cons_succ, List.getElem_cons_zero, Act.put, List.setIfInBounds_toArray, List.set_cons_zero, List.set_cons_succ]
  refine wpAnyH_ready (rs := [17]) (by kernel_rfl) (by simp) (AllReadyH.cons (by simp only [List.getElem?_toArray, List.getElem?_cons_succ, List.getElem?_cons_zero]; rfl) (fun K hK => ?_) AllReadyH.nil)
  refine step_want (by rfl) ?_
  go_simp
  refine (HF.out _ HX.ls.k).mono ?_
  rintro e w8 ⟨rfl, b8⟩
  have HX := HX.next b8
  clear b8
  refine hK.out _ _ HX (fun _ => ?_)
  clear hK K
  try simp only [List.getElem_toArray, List.getElem_cons_succ, List.getElem_cons_zero, Act.put, List.setIfInBounds_toArray, List.set_cons_zero, List.set_cons_succ]
  refine wpAnyH_take (i := 18) (v := .bool true) rfl (by kernel_rfl) (by kernel_rfl) (by kernel_rfl) (fun _ _ _ h => h) (Or.inl ⟨by rfl, by intro w _; go_simp⟩) HX ?_
  simp only [List.getElem_toArray, List.getElem_cons_succ, List.getElem_cons_zero, Act.put, List.setIfInBounds_toArray, List.set_cons_zero, List.set_cons_succ]
  refine wpAnyH_take (i := 19) (v := .bool true) rfl (by kernel_rfl) (by kernel_rfl) (by kernel_rfl) (fun _ _ _ h => h) (Or.inl ⟨by rfl, by intro w _; go_simp⟩) HX ?_
  simp only [List.getElem_toArray, List.getElem_cons_succ, List.getElem_cons_zero, Act.put, List.setIfInBounds_toArray, List.set_cons_zero, List.set_cons_succ]
  refine wpAnyH_take (i := 20) (v := .bool true) rfl (by kernel_rfl) (by kernel_rfl) (by kernel_rfl) (fun _ _ _ h => h) (Or.inl ⟨by rfl, by intro w _; go_simp⟩) HX ?_
  simp only [List.getElem_toArray, List.getElem_cons_succ, List.getElem_cons_zero, Act.put, List.setIfInBounds_toArray, List.set_cons_zero, List.set_cons_succ]
  refine wpAnyH_ready (rs := [21]) (by kernel_rfl) (by simp) (AllReadyH.cons (by simp only [List.getElem?_toArray, List.getElem?_cons_succ, List.getElem?_cons_zero]; rfl) (fun K hK => ?_) AllReadyH.nil)
  refine step_want (by rfl) ?_
  go_simp
  refine (HG.out _ HX.ls.k).mono ?_
  rintro e w8 ⟨rfl, b8⟩
  have HX := HX.next b8
  clear b8
  refine hK.out _ _ HX (fun _ => ?_)
  clear hK K
  try simp only [List.getElem_toArray, List.getElem_cons_succ, List.getElem_cons_zero, Act.put, List.setIfInBounds_toArray, List.set_cons_zero, List.set_cons_succ]
  refine wpAnyH_take (i := 22) (v := .bool true) rfl (by kernel_rfl) (by kernel_rfl) (by kernel_rfl) (fun _ _ _ h => h) (Or.inl ⟨by rfl, by intro w _; go_simp⟩) HX ?_
  simp only [List.getElem_toArray, List.getElem_cons_succ, List.getElem_cons_zero, Act.put, List.setIfInBounds_toArray, List.set_cons_zero, List.set_cons_succ]
  refine wpAnyH_take (i := 23) (v := .bool true) rfl (by kernel_rfl) (by kernel_rfl) (by kernel_rfl) (fun _ _ _ h => h) (Or.inl ⟨by rfl, by intro w _; go_simp⟩) HX ?_
  simp only [List.getElem_toArray, List.getElem_cons_succ, List.getElem_cons_zero, Act.put, List.setIfInBounds_toArray, List.set_cons_zero, List.set_cons_succ]
  refine wpAnyH_done (by kernel_rfl) ?_ _
  have HW : Hid _ := HX.ls.below
  clear HX HL
  go_wp2
  go_ret
  exact ⟨rfl, HW.out⟩
theorem sha_law (s : ByteArray) (a b : List UInt8) (w : World) (hK : TabL w) (ha : a.length = 32) (hb : b.length = 32) : Calls Tryd.prog 4 #[.string s, .agg (hv a), .agg (hv b)] w fun e w' => e = .returned (.bool true) ∧ Below w.heap.size w w' := by
  by_cases h : 2000 < s.size
  · exact sha_long s a b w h
  · have e : s = S s.data.toList := (S_data s).symm
    have hl : s.data.toList.length ≤ 2000 := by
      rw [Array.length_toList]
      exact Nat.le_of_not_lt h
    rw [e]
    exact sha_walk s.data.toList a b w hK hl ha hb
end Go.Proofs.YtooclacopkdmlaaDoor
