/- Contract of frames.marked. -/
import Derived.Test.YtalofhnjlmgloaaDoorFc
namespace Go.Proofs.YtalofhnjlmgloaaDoor
open Go.RowKit Go.Shelf
attribute [local go_sem] Oper.semAt_some

theorem zero_marked : (Tryd.prog.info? 83).map (fun i => (i.zero, i.size)) = some (some (.agg (hv (List.replicate 128 0))), 128) := by kernel_rfl
set_option maxRecDepth 100000 in
set_option maxHeartbeats 4000000 in
theorem marked_in (F : Fence) (n : Nat) (h3 : F.fn 40) (h5 : F.fn 36) (h6 : F.fn 47) (hro : F.round = none) (hn : 3 ≤ n) (t : List UInt8) (ht : t.length = 124) (w : World) :
    CallsIn F n Tryd.prog 40 #[.string (S t)] w fun e W' => e = .returned (.string (S (markL t))) ∧ Below w.heap.size w W' := by
  have h1 : 1 ≤ n := by omega
  have hz := (zero_of_info zero_marked).1
  have z1 : (hv (List.replicate 128 0)).size = 128 := by rw [hv_size, List.length_replicate]
  have n1 : ¬ hv (List.replicate 128 0) = #[] := fun h => by rw [h] at z1; cases z1
  have HZ : Hid (hv (List.replicate 128 0) = hv (fillM t [])) := rfl
  have HRes : Hid (fillM t [0, 1, 2, 3] = markL t) := fillM_all t ht
  have HLen : Hid (∀ js, (fillM t js).length = 128) := fillM_length t ht
  generalize hv (List.replicate 128 0) = Z at *
  refine callsIn_of_wp_marks Tryd.func40 rfl h3 ?_ hro
  simp only [Tryd.ntmps40, List.size_toArray, List.length_cons, List.length_nil, Nat.reduceAdd, Nat.reduceSub, Array.replicate_succ, Array.replicate_zero, List.push_toArray, List.append_toArray, List.nil_append, List.cons_append]
  gi_wp2_with (gi_at_call 36; refine (parts_in F (n - 1) h5 hro _ _).mono ?_; rintro e w' ⟨rfl, rfl⟩)
  obtain ⟨W0, hW0⟩ : ∃ W0, (w.alloc (.cells Z 83)).alloc (.cells #[.string (S t)] 9) = W0 := ⟨_, rfl⟩
  have hsz0 : W0.heap.size = w.heap.size + 2 := by rw [← hW0]; simp
  have hb : W0.heap[w.heap.size + 1]? = some (.cells #[.string (S t)] 9 (0, 0)) := by
    rw [← hW0]
    have := World.alloc_heap_new (w.alloc (.cells Z 83)) (.cells #[.string (S t)] 9); rwa [World.size_alloc] at this
  have hA : W0.heap[w.heap.size]? = some (.cells (hv (fillM t [])) 83 (0, 0)) := by
    rw [← hW0, ← HZ.out]
    exact (Below.heap_alloc _ _ _ (by simp)).trans (World.alloc_heap_new w _)
  have hB0 : Below w.heap.size w W0 := by rw [← hW0]; exact ((Below.refl _ w).alloc (Nat.le_refl _) _).alloc (by simp) _
  have hOwn : Own (fun (pre : List (Fin 4)) (W : World) => W.heap[w.heap.size]? = some (.cells (hv (fillM t pre)) 83 (0, 0))) := fun _ _ _ _ hs hg hr => block_kept hs hg hr
  rw [hW0]
  clear hW0 hz HZ n1 z1
  refine wpIn_rangeFunc_ownF hro h1 (gf := 47) (lb := #[.pointer (some ⟨w.heap.size + 1, 0, none⟩)]) rfl h6 (enters_of Tryd.func47 (by kernel_rfl) rfl)
    (parts124_stops F (n - 1) h6 hro (by omega) (w.heap.size + 1) t ht 9 _ hb) KeepB.t (KeepB.b (by omega)) (Below.refl _ _) (fun _ => rfl)
    (fun pre W => W.heap[w.heap.size]? = some (.cells (hv (fillM t pre)) 83 (0, 0)) ∧ Below w.heap.size w W)
    (fun _ _ _ => False)
    (OwnFrom.and (Own.from hOwn _) (ownFrom_below (Nat.le_refl _) (by omega)))
    (fun _ _ _ _ _ hs _ _ => hs)
    ⟨hA, hB0⟩
    (fun x => { tmps := #[.string (S t), undef, .string ⟨#[]⟩, .pointer (some ⟨w.heap.size, 0, none⟩), .int .i64 (x.val : Int), .string (S (cut t (31 * x.val) 31)), undef, .string (S t), .func (.func 47) #[] #[.pointer (some ⟨w.heap.size + 1, 0, none⟩)], .int .i64 (x.val : Int), .string (S (cut t (31 * x.val) 31)), undef, undef, undef, undef, undef, undef, undef, undef, undef, undef, undef], defers := [] }) ?assign ?body ?done ?stop
  case assign =>
    intro l x W K hK
    dsimp only [partV]
    gi_wp2
    exact hK
  case body =>
    rintro l pre x W ⟨hg, hB⟩ _
    have hx : x = 0 ∨ x = 1 ∨ x = 2 ∨ x = 3 := by
      rcases x with ⟨v, hv⟩
      have : v = 0 ∨ v = 1 ∨ v = 2 ∨ v = 3 := by omega
      rcases this with rfl | rfl | rfl | rfl <;> simp
    have hl := HLen.out pre
    have HSn : Hid (fillM t (pre ++ [x]) = putM t (fillM t pre) x) := fillM_snoc t pre x
    generalize fillM t pre = b at *
    clear hA hB0 hb HRes HLen
    rcases hx with rfl | rfl | rfl | rfl
    · have hcl := cut_length t (31 * (0 : Fin 4).val) 31 (by rw [v0]; omega)
      have hcp := run_copy_string_min (P := Tryd.prog) W 44 9 3 5 w.heap.size 0 128 128 (cut t (31 * (0 : Fin 4).val) 31) (hv b) (hv (b.take 0 ++ cut t (31 * (0 : Fin 4).val) 31 ++ b.drop (0 + 31))) _ Tryd.underlying44 info_u8s hg 31 (by rw [hcl]; rfl) (by rw [hv_size, hl]; omega) (hv_mid _ _ _ _ hcl)
      have hgo : goInt ((31 : Nat) : Int) = .int .i64 31 := rfl
      rw [hgo] at hcp
      have hg2 := heap_setRow_same (ds := hv (b.take 0 ++ cut t (31 * (0 : Fin 4).val) 31 ++ b.drop (0 + 31))) hg
      obtain ⟨v0, c1⟩ : ∃ v, (W.setRow w.heap.size (hv (b.take 0 ++ cut t (31 * (0 : Fin 4).val) 31 ++ b.drop (0 + 31)))).cell? ⟨w.heap.size, 31, none⟩ = some v := by
        rw [cell_of_row _ _ _ _ _ _ hg2]; exact ⟨_, Array.getElem?_eq_getElem (by rw [hv_size]; simp only [List.length_append, List.length_take, List.length_drop, hcl]; omega)⟩
      have f1 : (W.setRow w.heap.size (hv (b.take 0 ++ cut t (31 * (0 : Fin 4).val) 31 ++ b.drop (0 + 31)))).frozen? ⟨w.heap.size, 31, none⟩ = false := frozen_of_row _ _ _ _ _ hg2
      have HF : Hid (((W.setRow w.heap.size (hv (b.take 0 ++ cut t (31 * (0 : Fin 4).val) 31 ++ b.drop (0 + 31)))).setCell ⟨w.heap.size, 31, none⟩ (.int .u8 165)).heap[w.heap.size]? = some (.cells (hv (putM t b 0)) 83 (0, 0))) := by
        show _ = _
        rw [heap_set_same hg2]
        have := hv_set (b.take 0 ++ cut t (31 * (0 : Fin 4).val) 31 ++ b.drop (0 + 31)) 31 165
        exact congrArg (fun z => some (Obj.cells z 83 (0, 0))) this
      have HK : Hid (KeepsOthers W ((W.setRow w.heap.size (hv (b.take 0 ++ cut t (31 * (0 : Fin 4).val) 31 ++ b.drop (0 + 31)))).setCell ⟨w.heap.size, 31, none⟩ (.int .u8 165))) := (keeps_setRow _ _ _).trans (KeepsOthers.setCell _ _ _)
      have HP : Hid (KeepB (w.heap.size + 1) W ((W.setRow w.heap.size (hv (b.take 0 ++ cut t (31 * (0 : Fin 4).val) 31 ++ b.drop (0 + 31)))).setCell ⟨w.heap.size, 31, none⟩ (.int .u8 165))) := by
        show _ = _
        rw [Below.heap_setCell _ _ _ _ (by simp), heap_setRow_ne (by omega)]
      have HB : Hid (Below w.heap.size w ((W.setRow w.heap.size (hv (b.take 0 ++ cut t (31 * (0 : Fin 4).val) 31 ++ b.drop (0 + 31)))).setCell ⟨w.heap.size, 31, none⟩ (.int .u8 165))) := (below_setRow hB (Nat.le_refl _) _).setCell (p := ⟨w.heap.size, 31, none⟩) (Nat.le_refl _) _
      clear hg2 hg hB hcl hgo hl
      generalize hv (b.take 0 ++ cut t (31 * (0 : Fin 4).val) 31 ++ b.drop (0 + 31)) = Y at *
      generalize putM t b 0 = R at *
      generalize cut t (31 * (0 : Fin 4).val) 31 = P at *
      rw [show (((0 : Fin 4).val : Nat) : Int) = 0 from rfl]
      gi_wp2
      exact ⟨HK.out, HP.out, by rw [HSn.out]; exact HF.out, HB.out⟩
    · have hcl := cut_length t (31 * (1 : Fin 4).val) 31 (by rw [v1]; omega)
      have hcp := run_copy_string_min (P := Tryd.prog) W 44 9 3 5 w.heap.size 32 96 96 (cut t (31 * (1 : Fin 4).val) 31) (hv b) (hv (b.take 32 ++ cut t (31 * (1 : Fin 4).val) 31 ++ b.drop (32 + 31))) _ Tryd.underlying44 info_u8s hg 31 (by rw [hcl]; rfl) (by rw [hv_size, hl]; omega) (hv_mid _ _ _ _ hcl)
      have hgo : goInt ((31 : Nat) : Int) = .int .i64 31 := rfl
      rw [hgo] at hcp
      have hg2 := heap_setRow_same (ds := hv (b.take 32 ++ cut t (31 * (1 : Fin 4).val) 31 ++ b.drop (32 + 31))) hg
      obtain ⟨v0, c1⟩ : ∃ v, (W.setRow w.heap.size (hv (b.take 32 ++ cut t (31 * (1 : Fin 4).val) 31 ++ b.drop (32 + 31)))).cell? ⟨w.heap.size, 63, none⟩ = some v := by
        rw [cell_of_row _ _ _ _ _ _ hg2]; exact ⟨_, Array.getElem?_eq_getElem (by rw [hv_size]; simp only [List.length_append, List.length_take, List.length_drop, hcl]; omega)⟩
      have f1 : (W.setRow w.heap.size (hv (b.take 32 ++ cut t (31 * (1 : Fin 4).val) 31 ++ b.drop (32 + 31)))).frozen? ⟨w.heap.size, 63, none⟩ = false := frozen_of_row _ _ _ _ _ hg2
      have HF : Hid (((W.setRow w.heap.size (hv (b.take 32 ++ cut t (31 * (1 : Fin 4).val) 31 ++ b.drop (32 + 31)))).setCell ⟨w.heap.size, 63, none⟩ (.int .u8 165)).heap[w.heap.size]? = some (.cells (hv (putM t b 1)) 83 (0, 0))) := by
        show _ = _
        rw [heap_set_same hg2]
        have := hv_set (b.take 32 ++ cut t (31 * (1 : Fin 4).val) 31 ++ b.drop (32 + 31)) 63 165
        exact congrArg (fun z => some (Obj.cells z 83 (0, 0))) this
      have HK : Hid (KeepsOthers W ((W.setRow w.heap.size (hv (b.take 32 ++ cut t (31 * (1 : Fin 4).val) 31 ++ b.drop (32 + 31)))).setCell ⟨w.heap.size, 63, none⟩ (.int .u8 165))) := (keeps_setRow _ _ _).trans (KeepsOthers.setCell _ _ _)
      have HP : Hid (KeepB (w.heap.size + 1) W ((W.setRow w.heap.size (hv (b.take 32 ++ cut t (31 * (1 : Fin 4).val) 31 ++ b.drop (32 + 31)))).setCell ⟨w.heap.size, 63, none⟩ (.int .u8 165))) := by
        show _ = _
        rw [Below.heap_setCell _ _ _ _ (by simp), heap_setRow_ne (by omega)]
      have HB : Hid (Below w.heap.size w ((W.setRow w.heap.size (hv (b.take 32 ++ cut t (31 * (1 : Fin 4).val) 31 ++ b.drop (32 + 31)))).setCell ⟨w.heap.size, 63, none⟩ (.int .u8 165))) := (below_setRow hB (Nat.le_refl _) _).setCell (p := ⟨w.heap.size, 63, none⟩) (Nat.le_refl _) _
      clear hg2 hg hB hcl hgo hl
      generalize hv (b.take 32 ++ cut t (31 * (1 : Fin 4).val) 31 ++ b.drop (32 + 31)) = Y at *
      generalize putM t b 1 = R at *
      generalize cut t (31 * (1 : Fin 4).val) 31 = P at *
      rw [show (((1 : Fin 4).val : Nat) : Int) = 1 from rfl]
      gi_wp2
      exact ⟨HK.out, HP.out, by rw [HSn.out]; exact HF.out, HB.out⟩
    · have hcl := cut_length t (31 * (2 : Fin 4).val) 31 (by rw [v2]; omega)
      have hcp := run_copy_string_min (P := Tryd.prog) W 44 9 3 5 w.heap.size 64 64 64 (cut t (31 * (2 : Fin 4).val) 31) (hv b) (hv (b.take 64 ++ cut t (31 * (2 : Fin 4).val) 31 ++ b.drop (64 + 31))) _ Tryd.underlying44 info_u8s hg 31 (by rw [hcl]; rfl) (by rw [hv_size, hl]; omega) (hv_mid _ _ _ _ hcl)
      have hgo : goInt ((31 : Nat) : Int) = .int .i64 31 := rfl
      rw [hgo] at hcp
      have hg2 := heap_setRow_same (ds := hv (b.take 64 ++ cut t (31 * (2 : Fin 4).val) 31 ++ b.drop (64 + 31))) hg
      obtain ⟨v0, c1⟩ : ∃ v, (W.setRow w.heap.size (hv (b.take 64 ++ cut t (31 * (2 : Fin 4).val) 31 ++ b.drop (64 + 31)))).cell? ⟨w.heap.size, 95, none⟩ = some v := by
        rw [cell_of_row _ _ _ _ _ _ hg2]; exact ⟨_, Array.getElem?_eq_getElem (by rw [hv_size]; simp only [List.length_append, List.length_take, List.length_drop, hcl]; omega)⟩
      have f1 : (W.setRow w.heap.size (hv (b.take 64 ++ cut t (31 * (2 : Fin 4).val) 31 ++ b.drop (64 + 31)))).frozen? ⟨w.heap.size, 95, none⟩ = false := frozen_of_row _ _ _ _ _ hg2
      have HF : Hid (((W.setRow w.heap.size (hv (b.take 64 ++ cut t (31 * (2 : Fin 4).val) 31 ++ b.drop (64 + 31)))).setCell ⟨w.heap.size, 95, none⟩ (.int .u8 165)).heap[w.heap.size]? = some (.cells (hv (putM t b 2)) 83 (0, 0))) := by
        show _ = _
        rw [heap_set_same hg2]
        have := hv_set (b.take 64 ++ cut t (31 * (2 : Fin 4).val) 31 ++ b.drop (64 + 31)) 95 165
        exact congrArg (fun z => some (Obj.cells z 83 (0, 0))) this
      have HK : Hid (KeepsOthers W ((W.setRow w.heap.size (hv (b.take 64 ++ cut t (31 * (2 : Fin 4).val) 31 ++ b.drop (64 + 31)))).setCell ⟨w.heap.size, 95, none⟩ (.int .u8 165))) := (keeps_setRow _ _ _).trans (KeepsOthers.setCell _ _ _)
      have HP : Hid (KeepB (w.heap.size + 1) W ((W.setRow w.heap.size (hv (b.take 64 ++ cut t (31 * (2 : Fin 4).val) 31 ++ b.drop (64 + 31)))).setCell ⟨w.heap.size, 95, none⟩ (.int .u8 165))) := by
        show _ = _
        rw [Below.heap_setCell _ _ _ _ (by simp), heap_setRow_ne (by omega)]
      have HB : Hid (Below w.heap.size w ((W.setRow w.heap.size (hv (b.take 64 ++ cut t (31 * (2 : Fin 4).val) 31 ++ b.drop (64 + 31)))).setCell ⟨w.heap.size, 95, none⟩ (.int .u8 165))) := (below_setRow hB (Nat.le_refl _) _).setCell (p := ⟨w.heap.size, 95, none⟩) (Nat.le_refl _) _
      clear hg2 hg hB hcl hgo hl
      generalize hv (b.take 64 ++ cut t (31 * (2 : Fin 4).val) 31 ++ b.drop (64 + 31)) = Y at *
      generalize putM t b 2 = R at *
      generalize cut t (31 * (2 : Fin 4).val) 31 = P at *
      rw [show (((2 : Fin 4).val : Nat) : Int) = 2 from rfl]
      gi_wp2
      exact ⟨HK.out, HP.out, by rw [HSn.out]; exact HF.out, HB.out⟩
    · have hcl := cut_length t (31 * (3 : Fin 4).val) 31 (by rw [v3]; omega)
      have hcp := run_copy_string_min (P := Tryd.prog) W 44 9 3 5 w.heap.size 96 32 32 (cut t (31 * (3 : Fin 4).val) 31) (hv b) (hv (b.take 96 ++ cut t (31 * (3 : Fin 4).val) 31 ++ b.drop (96 + 31))) _ Tryd.underlying44 info_u8s hg 31 (by rw [hcl]; rfl) (by rw [hv_size, hl]; omega) (hv_mid _ _ _ _ hcl)
      have hgo : goInt ((31 : Nat) : Int) = .int .i64 31 := rfl
      rw [hgo] at hcp
      have hg2 := heap_setRow_same (ds := hv (b.take 96 ++ cut t (31 * (3 : Fin 4).val) 31 ++ b.drop (96 + 31))) hg
      obtain ⟨v0, c1⟩ : ∃ v, (W.setRow w.heap.size (hv (b.take 96 ++ cut t (31 * (3 : Fin 4).val) 31 ++ b.drop (96 + 31)))).cell? ⟨w.heap.size, 127, none⟩ = some v := by
        rw [cell_of_row _ _ _ _ _ _ hg2]; exact ⟨_, Array.getElem?_eq_getElem (by rw [hv_size]; simp only [List.length_append, List.length_take, List.length_drop, hcl]; omega)⟩
      have f1 : (W.setRow w.heap.size (hv (b.take 96 ++ cut t (31 * (3 : Fin 4).val) 31 ++ b.drop (96 + 31)))).frozen? ⟨w.heap.size, 127, none⟩ = false := frozen_of_row _ _ _ _ _ hg2
      have HF : Hid (((W.setRow w.heap.size (hv (b.take 96 ++ cut t (31 * (3 : Fin 4).val) 31 ++ b.drop (96 + 31)))).setCell ⟨w.heap.size, 127, none⟩ (.int .u8 165)).heap[w.heap.size]? = some (.cells (hv (putM t b 3)) 83 (0, 0))) := by
        show _ = _
        rw [heap_set_same hg2]
        have := hv_set (b.take 96 ++ cut t (31 * (3 : Fin 4).val) 31 ++ b.drop (96 + 31)) 127 165
        exact congrArg (fun z => some (Obj.cells z 83 (0, 0))) this
      have HK : Hid (KeepsOthers W ((W.setRow w.heap.size (hv (b.take 96 ++ cut t (31 * (3 : Fin 4).val) 31 ++ b.drop (96 + 31)))).setCell ⟨w.heap.size, 127, none⟩ (.int .u8 165))) := (keeps_setRow _ _ _).trans (KeepsOthers.setCell _ _ _)
      have HP : Hid (KeepB (w.heap.size + 1) W ((W.setRow w.heap.size (hv (b.take 96 ++ cut t (31 * (3 : Fin 4).val) 31 ++ b.drop (96 + 31)))).setCell ⟨w.heap.size, 127, none⟩ (.int .u8 165))) := by
        show _ = _
        rw [Below.heap_setCell _ _ _ _ (by simp), heap_setRow_ne (by omega)]
      have HB : Hid (Below w.heap.size w ((W.setRow w.heap.size (hv (b.take 96 ++ cut t (31 * (3 : Fin 4).val) 31 ++ b.drop (96 + 31)))).setCell ⟨w.heap.size, 127, none⟩ (.int .u8 165))) := (below_setRow hB (Nat.le_refl _) _).setCell (p := ⟨w.heap.size, 127, none⟩) (Nat.le_refl _) _
      clear hg2 hg hB hcl hgo hl
      generalize hv (b.take 96 ++ cut t (31 * (3 : Fin 4).val) 31 ++ b.drop (96 + 31)) = Y at *
      generalize putM t b 3 = R at *
      generalize cut t (31 * (3 : Fin 4).val) 31 = P at *
      rw [show (((3 : Fin 4).val : Nat) : Int) = 3 from rfl]
      gi_wp2
      exact ⟨HK.out, HP.out, by rw [HSn.out]; exact HF.out, HB.out⟩
  case done =>
    rintro D ys W hD rfl ⟨hg, hB⟩ hK
    rw [HRes.out] at hg
    have hln : (markL t).length = 128 := by rw [← HRes.out]; exact HLen.out _
    have hcv := conv_row (markL t) W w.heap.size 128 83 (0, 0) hg
    rw [hln] at hcv
    gi_wp2
    refine ⟨by simp, .inl ⟨_, _, rfl, run_takeDeferred hK, ?_⟩⟩
    exact ⟨_, results_tmp rfl _ _ _, rfl, hB.trans (belowK_b (w := w) (Nat.le_refl _) W D _ _ (by omega) hK rfl rfl)⟩
  case stop =>
    rintro D c pre W _ _ h _
    exact h.elim
theorem marked_any (t : List UInt8) (ht : t.length = 124) (w : World) :
    Calls Tryd.prog 40 #[.string (S t)] w fun e w' => e = .returned (.string (S (markL t))) ∧ Below w.heap.size w w' :=
  (callsIn_wide (n := 3)).1 (marked_in Fence.wide 3 trivial trivial trivial rfl (by omega) t ht w)
end Go.Proofs.YtalofhnjlmgloaaDoor
