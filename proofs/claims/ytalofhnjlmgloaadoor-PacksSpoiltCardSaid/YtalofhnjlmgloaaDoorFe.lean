/- Contract of frames.unmarked. -/
import Derived.Test.YtalofhnjlmgloaaDoorFc
namespace Go.Proofs.YtalofhnjlmgloaaDoor
open Go.RowKit Go.Shelf
attribute [local go_sem] Oper.semAt_some

theorem zero_unmarked : (Tryd.prog.info? 71).map (fun i => (i.zero, i.size)) = some (some (.agg (hv (List.replicate 124 0))), 124) := by kernel_rfl
set_option maxRecDepth 100000 in
set_option maxHeartbeats 4000000 in
theorem unmarked_in (F : Fence) (n : Nat) (h3 : F.fn 29) (h5 : F.fn 36) (h6 : F.fn 47) (hro : F.round = none) (hn : 3 ≤ n) (t : List UInt8) (ht : t.length = 128) (w : World) :
    CallsIn F n Tryd.prog 29 #[.string (S t)] w fun e W' => e = .returned (.string (S (unmL t))) ∧ Below w.heap.size w W' := by
  have h1 : 1 ≤ n := by omega
  have hz := (zero_of_info zero_unmarked).1
  have z1 : (hv (List.replicate 124 0)).size = 124 := by rw [hv_size, List.length_replicate]
  have n1 : ¬ hv (List.replicate 124 0) = #[] := fun h => by rw [h] at z1; cases z1
  have HZ : Hid (hv (List.replicate 124 0) = hv (fillU t [])) := rfl
  have HRes : Hid (fillU t [0, 1, 2, 3] = unmL t) := fillU_all t ht
  have HLen : Hid (∀ js, (fillU t js).length = 124) := fillU_length t ht
  generalize hv (List.replicate 124 0) = Z at *
  refine callsIn_of_wp_marks Tryd.func29 rfl h3 ?_ hro
  simp only [Tryd.ntmps29, List.size_toArray, List.length_cons, List.length_nil, Nat.reduceAdd, Nat.reduceSub, Array.replicate_succ, Array.replicate_zero, List.push_toArray, List.append_toArray, List.nil_append, List.cons_append]
  gi_wp2_with (gi_at_call 36; refine (parts_in F (n - 1) h5 hro _ _).mono ?_; rintro e w' ⟨rfl, rfl⟩)
  obtain ⟨W0, hW0⟩ : ∃ W0, (w.alloc (.cells Z 71)).alloc (.cells #[.string (S t)] 9) = W0 := ⟨_, rfl⟩
  have hsz0 : W0.heap.size = w.heap.size + 2 := by rw [← hW0]; simp
  have hb : W0.heap[w.heap.size + 1]? = some (.cells #[.string (S t)] 9 (0, 0)) := by
    rw [← hW0]
    have := World.alloc_heap_new (w.alloc (.cells Z 71)) (.cells #[.string (S t)] 9); rwa [World.size_alloc] at this
  have hA : W0.heap[w.heap.size]? = some (.cells (hv (fillU t [])) 71 (0, 0)) := by
    rw [← hW0, ← HZ.out]
    exact (Below.heap_alloc _ _ _ (by simp)).trans (World.alloc_heap_new w _)
  have hB0 : Below w.heap.size w W0 := by rw [← hW0]; exact ((Below.refl _ w).alloc (Nat.le_refl _) _).alloc (by simp) _
  have hOwn : Own (fun (pre : List (Fin 4)) (W : World) => W.heap[w.heap.size]? = some (.cells (hv (fillU t pre)) 71 (0, 0))) := fun _ _ _ _ hs hg hr => block_kept hs hg hr
  rw [hW0]
  clear hW0 hz HZ n1 z1
  refine wpIn_rangeFunc_ownF hro h1 (gf := 47) (lb := #[.pointer (some ⟨w.heap.size + 1, 0, none⟩)]) rfl h6 (enters_of Tryd.func47 (by kernel_rfl) rfl)
    (parts128_stops F (n - 1) h6 hro (by omega) (w.heap.size + 1) t ht 9 _ hb) KeepB.t (KeepB.b (by omega)) (Below.refl _ _) (fun _ => rfl)
    (fun pre W => W.heap[w.heap.size]? = some (.cells (hv (fillU t pre)) 71 (0, 0)) ∧ Below w.heap.size w W)
    (fun _ _ _ => False)
    (OwnFrom.and (Own.from hOwn _) (ownFrom_below (Nat.le_refl _) (by omega)))
    (fun _ _ _ _ _ hs _ _ => hs)
    ⟨hA, hB0⟩
    (fun x => { tmps := #[.string (S t), undef, .string ⟨#[]⟩, .pointer (some ⟨w.heap.size, 0, none⟩), .int .i64 (x.val : Int), .string (S (cut t (32 * x.val) 32)), .string (S t), .func (.func 47) #[] #[.pointer (some ⟨w.heap.size + 1, 0, none⟩)], .int .i64 (x.val : Int), .string (S (cut t (32 * x.val) 32)), undef, undef, undef, undef, undef, undef, undef, undef], defers := [] }) ?assign ?body ?done ?stop
  case assign =>
    intro l x W K hK
    dsimp only [partV]
    gi_wp2
    exact hK
  case body =>
    rintro l pre x W ⟨hg, hB⟩ _
    have hx : x = 0 ∨ x = 1 ∨ x = 2 ∨ x = 3 := by
      rcases x with ⟨v, hv⟩
      have : v = 0 ∨ v = 1 ∨ v = 2 ∨ v = 3 := by omega
      rcases this with rfl | rfl | rfl | rfl <;> simp
    have hl := HLen.out pre
    have HSn : Hid (fillU t (pre ++ [x]) = putU t (fillU t pre) x) := fillU_snoc t pre x
    generalize fillU t pre = b at *
    clear hA hB0 hb HRes HLen
    rcases hx with rfl | rfl | rfl | rfl
    · have hcl := cut_length t (32 * (0 : Fin 4).val) 31 (by rw [v0]; omega)
      have hps := part_size t 32 0 (by omega)
      have hxt : (S (cut t (32 * (0 : Fin 4).val) 32)).extract 0 31 = S (cut t (32 * (0 : Fin 4).val) 31) := by
        rw [S_ext]; simp [cut, List.take_take]
      have hcp := run_copy_string_min (P := Tryd.prog) W.drew 44 9 3 5 w.heap.size 0 124 124 (cut t (32 * (0 : Fin 4).val) 31) (hv b) (hv (putU t b 0)) _ Tryd.underlying44 info_u8s hg 31 (by rw [hcl]; rfl) (by rw [hv_size, hl]; omega) (hv_mid _ _ _ _ hcl)
      have hgo : goInt ((31 : Nat) : Int) = .int .i64 31 := rfl
      rw [hgo] at hcp
      have HF : Hid ((W.drew.setRow w.heap.size (hv (putU t b 0))).heap[w.heap.size]? = some (.cells (hv (putU t b 0)) 71 (0, 0))) := heap_setRow_same (w := W.drew) hg
      have HK : Hid (KeepsOthers W (W.drew.setRow w.heap.size (hv (putU t b 0)))) := (KeepsOthers.drew W).trans (keeps_setRow _ _ _)
      have HP : Hid (KeepB (w.heap.size + 1) W (W.drew.setRow w.heap.size (hv (putU t b 0)))) := by
        show _ = _
        rw [heap_setRow_ne (by omega)]; rfl
      have HB : Hid (Below w.heap.size w (W.drew.setRow w.heap.size (hv (putU t b 0)))) := below_setRow hB.drew (Nat.le_refl _) _
      clear hg hB hcl hgo hl
      generalize putU t b 0 = R at *
      obtain ⟨Y, hY⟩ : ∃ Y, hv R = Y := ⟨_, rfl⟩
      have HY : Hid (hv R = Y) := hY
      rw [hY] at hcp HF HK HP HB
      clear hY
      generalize S (cut t (32 * (0 : Fin 4).val) 31) = P at *
      generalize S (cut t (32 * (0 : Fin 4).val) 32) = Q at *
      rw [show (((0 : Fin 4).val : Nat) : Int) = 0 from rfl]
      have hmix : Tryd.prog.follows .mixedOrders = true := by kernel_rfl
      have hwr : IntKind.i64.wrap 0 = 0 := by decide
      gi_wp2
      gi_region_with_o fail
      all_goals gi_wp2
      all_goals exact ⟨HK.out, HP.out, by rw [HSn.out, HY.out]; exact HF.out, HB.out⟩
    · have hcl := cut_length t (32 * (1 : Fin 4).val) 31 (by rw [v1]; omega)
      have hps := part_size t 32 1 (by omega)
      have hxt : (S (cut t (32 * (1 : Fin 4).val) 32)).extract 0 31 = S (cut t (32 * (1 : Fin 4).val) 31) := by
        rw [S_ext]; simp [cut, List.take_take]
      have hcp := run_copy_string_min (P := Tryd.prog) W.drew 44 9 3 5 w.heap.size 31 93 93 (cut t (32 * (1 : Fin 4).val) 31) (hv b) (hv (putU t b 1)) _ Tryd.underlying44 info_u8s hg 31 (by rw [hcl]; rfl) (by rw [hv_size, hl]; omega) (hv_mid _ _ _ _ hcl)
      have hgo : goInt ((31 : Nat) : Int) = .int .i64 31 := rfl
      rw [hgo] at hcp
      have HF : Hid ((W.drew.setRow w.heap.size (hv (putU t b 1))).heap[w.heap.size]? = some (.cells (hv (putU t b 1)) 71 (0, 0))) := heap_setRow_same (w := W.drew) hg
      have HK : Hid (KeepsOthers W (W.drew.setRow w.heap.size (hv (putU t b 1)))) := (KeepsOthers.drew W).trans (keeps_setRow _ _ _)
      have HP : Hid (KeepB (w.heap.size + 1) W (W.drew.setRow w.heap.size (hv (putU t b 1)))) := by
        show _ = _
        rw [heap_setRow_ne (by omega)]; rfl
      have HB : Hid (Below w.heap.size w (W.drew.setRow w.heap.size (hv (putU t b 1)))) := below_setRow hB.drew (Nat.le_refl _) _
      clear hg hB hcl hgo hl
      generalize putU t b 1 = R at *
      obtain ⟨Y, hY⟩ : ∃ Y, hv R = Y := ⟨_, rfl⟩
      have HY : Hid (hv R = Y) := hY
      rw [hY] at hcp HF HK HP HB
      clear hY
      generalize S (cut t (32 * (1 : Fin 4).val) 31) = P at *
      generalize S (cut t (32 * (1 : Fin 4).val) 32) = Q at *
      rw [show (((1 : Fin 4).val : Nat) : Int) = 1 from rfl]
      have hmix : Tryd.prog.follows .mixedOrders = true := by kernel_rfl
      have hwr : IntKind.i64.wrap 31 = 31 := by decide
      gi_wp2
      gi_region_with_o fail
      all_goals gi_wp2
      all_goals exact ⟨HK.out, HP.out, by rw [HSn.out, HY.out]; exact HF.out, HB.out⟩
    · have hcl := cut_length t (32 * (2 : Fin 4).val) 31 (by rw [v2]; omega)
      have hps := part_size t 32 2 (by omega)
      have hxt : (S (cut t (32 * (2 : Fin 4).val) 32)).extract 0 31 = S (cut t (32 * (2 : Fin 4).val) 31) := by
        rw [S_ext]; simp [cut, List.take_take]
      have hcp := run_copy_string_min (P := Tryd.prog) W.drew 44 9 3 5 w.heap.size 62 62 62 (cut t (32 * (2 : Fin 4).val) 31) (hv b) (hv (putU t b 2)) _ Tryd.underlying44 info_u8s hg 31 (by rw [hcl]; rfl) (by rw [hv_size, hl]; omega) (hv_mid _ _ _ _ hcl)
      have hgo : goInt ((31 : Nat) : Int) = .int .i64 31 := rfl
      rw [hgo] at hcp
      have HF : Hid ((W.drew.setRow w.heap.size (hv (putU t b 2))).heap[w.heap.size]? = some (.cells (hv (putU t b 2)) 71 (0, 0))) := heap_setRow_same (w := W.drew) hg
      have HK : Hid (KeepsOthers W (W.drew.setRow w.heap.size (hv (putU t b 2)))) := (KeepsOthers.drew W).trans (keeps_setRow _ _ _)
      have HP : Hid (KeepB (w.heap.size + 1) W (W.drew.setRow w.heap.size (hv (putU t b 2)))) := by
        show _ = _
        rw [heap_setRow_ne (by omega)]; rfl
      have HB : Hid (Below w.heap.size w (W.drew.setRow w.heap.size (hv (putU t b 2)))) := below_setRow hB.drew (Nat.le_refl _) _
      clear hg hB hcl hgo hl
      generalize putU t b 2 = R at *
      obtain ⟨Y, hY⟩ : ∃ Y, hv R = Y := ⟨_, rfl⟩
      have HY : Hid (hv R = Y) := hY
      rw [hY] at hcp HF HK HP HB
      clear hY
      generalize S (cut t (32 * (2 : Fin 4).val) 31) = P at *
      generalize S (cut t (32 * (2 : Fin 4).val) 32) = Q at *
      rw [show (((2 : Fin 4).val : Nat) : Int) = 2 from rfl]
      have hmix : Tryd.prog.follows .mixedOrders = true := by kernel_rfl
      have hwr : IntKind.i64.wrap 62 = 62 := by decide
      gi_wp2
      gi_region_with_o fail
      all_goals gi_wp2
      all_goals exact ⟨HK.out, HP.out, by rw [HSn.out, HY.out]; exact HF.out, HB.out⟩
    · have hcl := cut_length t (32 * (3 : Fin 4).val) 31 (by rw [v3]; omega)
      have hps := part_size t 32 3 (by omega)
      have hxt : (S (cut t (32 * (3 : Fin 4).val) 32)).extract 0 31 = S (cut t (32 * (3 : Fin 4).val) 31) := by
        rw [S_ext]; simp [cut, List.take_take]
      have hcp := run_copy_string_min (P := Tryd.prog) W.drew 44 9 3 5 w.heap.size 93 31 31 (cut t (32 * (3 : Fin 4).val) 31) (hv b) (hv (putU t b 3)) _ Tryd.underlying44 info_u8s hg 31 (by rw [hcl]; rfl) (by rw [hv_size, hl]; omega) (hv_mid _ _ _ _ hcl)
      have hgo : goInt ((31 : Nat) : Int) = .int .i64 31 := rfl
      rw [hgo] at hcp
      have HF : Hid ((W.drew.setRow w.heap.size (hv (putU t b 3))).heap[w.heap.size]? = some (.cells (hv (putU t b 3)) 71 (0, 0))) := heap_setRow_same (w := W.drew) hg
      have HK : Hid (KeepsOthers W (W.drew.setRow w.heap.size (hv (putU t b 3)))) := (KeepsOthers.drew W).trans (keeps_setRow _ _ _)
      have HP : Hid (KeepB (w.heap.size + 1) W (W.drew.setRow w.heap.size (hv (putU t b 3)))) := by
        show _ = _
        rw [heap_setRow_ne (by omega)]; rfl
      have HB : Hid (Below w.heap.size w (W.drew.setRow w.heap.size (hv (putU t b 3)))) := below_setRow hB.drew (Nat.le_refl _) _
      clear hg hB hcl hgo hl
      generalize putU t b 3 = R at *
      obtain ⟨Y, hY⟩ : ∃ Y, hv R = Y := ⟨_, rfl⟩
      have HY : Hid (hv R = Y) := hY
      rw [hY] at hcp HF HK HP HB
      clear hY
      generalize S (cut t (32 * (3 : Fin 4).val) 31) = P at *
      generalize S (cut t (32 * (3 : Fin 4).val) 32) = Q at *
      rw [show (((3 : Fin 4).val : Nat) : Int) = 3 from rfl]
      have hmix : Tryd.prog.follows .mixedOrders = true := by kernel_rfl
      have hwr : IntKind.i64.wrap 93 = 93 := by decide
      gi_wp2
      gi_region_with_o fail
      all_goals gi_wp2
      all_goals exact ⟨HK.out, HP.out, by rw [HSn.out, HY.out]; exact HF.out, HB.out⟩
  case done =>
    rintro D ys W hD rfl ⟨hg, hB⟩ hK
    rw [HRes.out] at hg
    have hln : (unmL t).length = 124 := by rw [← HRes.out]; exact HLen.out _
    have hcv := conv_row (unmL t) W w.heap.size 124 71 (0, 0) hg
    rw [hln] at hcv
    gi_wp2
    refine ⟨by simp, .inl ⟨_, _, rfl, run_takeDeferred hK, ?_⟩⟩
    exact ⟨_, results_tmp rfl _ _ _, rfl, hB.trans (belowK_b (w := w) (Nat.le_refl _) W D _ _ (by omega) hK rfl rfl)⟩
  case stop =>
    rintro D c pre W _ _ h _
    exact h.elim
theorem unmarked_any (t : List UInt8) (ht : t.length = 128) (w : World) :
    Calls Tryd.prog 29 #[.string (S t)] w fun e w' => e = .returned (.string (S (unmL t))) ∧ Below w.heap.size w w' :=
  (callsIn_wide (n := 3)).1 (unmarked_in Fence.wide 3 trivial trivial trivial rfl (by omega) t ht w)
end Go.Proofs.YtalofhnjlmgloaaDoor
