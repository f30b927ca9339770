/- Contract of frames.Torn. -/
import Derived.Test.YtcbmcbcpclgciaaDoorFa
namespace Go.Proofs.YtcbmcbcpclgciaaDoor
open Go.RowKit Go.Shelf
attribute [local go_sem] Oper.semAt_some

theorem cell_one (W : World) (v : Value) (t : TypeId) : (W.alloc (.cells #[v] t)).cell? ⟨W.heap.size, 0, none⟩ = some v ∧ (W.alloc (.cells #[v] t)).frozen? ⟨W.heap.size, 0, none⟩ = false :=
  ⟨by rw [cell_of_row _ _ _ _ _ _ (World.alloc_heap_new W _)]; rfl, frozen_of_row _ _ _ _ _ (World.alloc_heap_new W _)⟩
theorem cell_more {W : World} {a : Addr} {v : Value} (o : Obj) (h : W.cell? a = some v) : (W.alloc o).cell? a = some v := cell_kept h (World.grownBy_alloc W o none) (fun r e => by cases e)
theorem frozen_more {W : World} {a : Addr} {v : Value} (o : Obj) (h : W.cell? a = some v) (hf : W.frozen? a = false) : (W.alloc o).frozen? a = false := (frozen_kept h (World.grownBy_alloc W o none) (fun r e => by cases e)).trans hf
theorem block_kept {W W' : World} {row : Option Nat} {b : Nat} {cs : Array Value} {t : TypeId} {fr : Nat × Nat} (h : W.heap[b]? = some (.cells cs t fr)) (hg : W.grownBy W' row) (hrow : ∀ r, row = some r → ∃ o : Obj, W.heap[r]? = some o ∧ o.isCells = false) : W'.heap[b]? = some (.cells cs t fr) :=
  (grownBy_keeps_cells hg hrow h rfl).trans h
theorem part_size (t : List UInt8) (z : Nat) (j : Fin 4) (ht : t.length = 4 * z) : (S (cut t (z * j.val) z)).size = z := by
  rw [S_size, cut_length]
  have := j.isLt
  have : z * j.val + z ≤ z * 4 := by
    rw [← Nat.mul_succ]; exact Nat.mul_le_mul_left z (by omega)
  omega
theorem part_last (t : List UInt8) (j : Fin 4) (h : 31 < (S (cut t (32 * j.val) 32)).size) : markB t j.val = decide ((((S (cut t (32 * j.val) 32))[31]'h).toNat : Int) = 165) := by
  unfold markB
  have h1 : (cut t (32 * j.val) 32)[31]? = t[32 * j.val + 31]? := by rw [cut_get, if_pos (by omega)]
  have hl : 31 < (cut t (32 * j.val) 32).length := by rw [S_size] at h; exact h
  rw [← h1, List.getElem?_eq_getElem hl]
  have e : ((S (cut t (32 * j.val) 32))[31]'h) = (cut t (32 * j.val) 32)[31] := rfl
  generalize ((S (cut t (32 * j.val) 32))[31]'h) = X at e
  rw [e, Bool.eq_iff_iff]
  simp only [beq_iff_eq, Option.some.injEq, decide_eq_true_eq]
  constructor
  · intro h; rw [h]; rfl
  · intro h; apply UInt8.toNat_inj.1; show _ = 165; omega
theorem torn_short (s : List UInt8) (w : World) (hl : s.length ≠ 128) :
    Calls Tryd.prog 14 #[.string (S s)] w fun e w' => e = .returned (.bool (lackB s)) ∧ Below w.heap.size w w' := by
  have ht : lackB s = false := by simp [lackB, hl]
  rw [ht]
  have hz : (((S s).size : Int) == 128) = false := by rw [S_size]; simp; omega
  clear ht hl
  generalize S s = A at *
  go_enter Tryd.func14, Tryd.ntmps14
  go_wp2
  refine bodyPost_ret (v := .bool false) (by simp [results, Tryd.f14, go_sem]) rfl ?_
  exact ⟨rfl, (Below.refl _ _).alloc (Nat.le_refl _) _⟩
set_option maxRecDepth 100000 in
set_option maxHeartbeats 2000000 in
theorem torn_in (F : Fence) (n : Nat) (h3 : F.fn 14) (h5 : F.fn 27) (h6 : F.fn 35) (hro : F.round = none) (hn : 3 ≤ n) (t : List UInt8) (ht : t.length = 128) (w : World) :
    CallsIn F n Tryd.prog 14 #[.string (S t)] w fun e W' => e = .returned (.bool (lackB t)) ∧ Below w.heap.size w W' := by
  have h1 : 1 ≤ n := by omega
  have hsz : (S t).size = 128 := by rw [S_size, ht]
  refine callsIn_of_wp_marks Tryd.func14 rfl h3 ?_ hro
  simp only [Tryd.ntmps14, List.size_toArray, List.length_cons, List.length_nil, Nat.reduceAdd, Nat.reduceSub, Array.replicate_succ, Array.replicate_zero, List.push_toArray, List.append_toArray, List.nil_append, List.cons_append]
  gi_wp2_with (gi_at_call 27; refine (parts_in F (n - 1) h5 hro _ _).mono ?_; rintro e w' ⟨rfl, rfl⟩)
  have c1 := cell_one w (.bool false) 4
  have hb : ((w.alloc (.cells #[.bool false] 4)).alloc (.cells #[.string (S t)] 9)).heap[w.heap.size + 1]? = some (.cells #[.string (S t)] 9 (0, 0)) := by
    have := World.alloc_heap_new (w.alloc (.cells #[.bool false] 4)) (.cells #[.string (S t)] 9); rwa [World.size_alloc] at this
  have hB0 : Below w.heap.size w ((w.alloc (.cells #[.bool false] 4)).alloc (.cells #[.string (S t)] 9)) := ((Below.refl _ w).alloc (Nat.le_refl _) _).alloc (by simp) _
  refine wpIn_rangeFunc_ownF hro h1 (gf := 35) (lb := #[.pointer (some ⟨w.heap.size + 1, 0, none⟩)]) rfl h6 (enters_of Tryd.func35 (by kernel_rfl) rfl)
    (parts128_stops F (n - 1) h6 hro (by omega) (w.heap.size + 1) t ht 9 _ hb) KeepB.t (KeepB.b (by simp)) (Below.refl _ _) (fun _ => rfl)
    (fun pre W => ((∀ j ∈ pre, markB t (j : Fin 4).val = true) ∧ W.cell? ⟨w.heap.size, 0, none⟩ = some (.bool false) ∧ W.frozen? ⟨w.heap.size, 0, none⟩ = false) ∧ Below w.heap.size w W)
    (fun c _ W => (c = .ret ∧ (∃ j : Fin 4, markB t j.val = false) ∧ W.cell? ⟨w.heap.size, 0, none⟩ = some (.bool true)) ∧ Below w.heap.size w W)
    (OwnFrom.and (Own.from (fun s A B row hs hg hr => ⟨hs.1, cell_kept hs.2.1 hg hr, (frozen_kept hs.2.1 hg hr).trans hs.2.2⟩) _) (ownFrom_below (Nat.le_refl _) (by simp; omega)))
    (fun c => OwnFrom.and (Own.from (fun s A B row hs hg hr => ⟨hs.1, hs.2.1, cell_kept hs.2.2 hg hr⟩) _) (ownFrom_below (Nat.le_refl _) (by simp; omega)))
    ⟨⟨by simp, cell_more _ c1.1, frozen_more _ c1.1 c1.2⟩, hB0⟩
    (fun x => { tmps := #[.string (S t), undef, .pointer (some ⟨w.heap.size, 0, none⟩), undef, .string (S (cut t (32 * x.val) 32)), .string (S t), .int .i64 128, .bool false, .string (S t), .func (.func 35) #[] #[.pointer (some ⟨w.heap.size + 1, 0, none⟩)], .int .i64 (x.val : Int), .string (S (cut t (32 * x.val) 32)), undef, undef, undef], defers := [] }) ?assign ?body ?done ?stop
  case assign =>
    intro l x W K hK
    dsimp only [partV]
    gi_wp2
    exact hK
  case body =>
    rintro l pre x W ⟨⟨hp, hcr, hfr⟩, hB⟩ _
    have hps := part_size t 32 x (by omega)
    have h31 : 31 < (S (cut t (32 * x.val) 32)).size := by omega
    have hml := part_last t x h31
    generalize S (cut t (32 * x.val) 32) = P at *
    by_cases hm : ((P[31]'h31).toNat : Int) = 165
    · have hmt : Hid (markB t x.val = true) := by show _ = _; rw [hml]; exact decide_eq_true hm
      clear hml
      gi_wp2
      exact ⟨KeepsOthers.refl _, rfl, ⟨fun y hy => (List.mem_append.1 hy).elim (hp y) (fun e => by simp at e; subst e; exact hmt.out), hcr, hfr⟩, hB⟩
    · have hmt : Hid (markB t x.val = false) := by show _ = _; rw [hml]; exact decide_eq_false hm
      have hm2 : (((P[31]'h31).toNat : Int) == 165) = false := by simpa using hm
      clear hml hm
      gi_wp2
      exact ⟨KeepsOthers.setCell _ _ _, ⟨rfl, ⟨x, hmt.out⟩, World.cell?_setCell_same' _ _ _ (by rw [hcr]; rfl)⟩, hB.setCell (p := ⟨w.heap.size, 0, none⟩) (Nat.le_refl _) _⟩
  case done =>
    rintro D ys W hD rfl ⟨⟨hall, hcr, hfr⟩, hB⟩ hK
    have hr : lackB t = false := by
      have m0 : markB t 0 = true := hall 0 (by simp)
      have m1 : markB t 1 = true := hall 1 (by simp)
      have m2 : markB t 2 = true := hall 2 (by simp)
      have m3 : markB t 3 = true := hall 3 (by simp)
      unfold lackB
      rw [m0, m1, m2, m3]; simp
    gi_wp2
    have hK' := (KeepsOthers.setCell W ⟨w.heap.size, 0, none⟩ (.bool false)).same D _ hK rfl
    refine ⟨by simp, .inl ⟨_, _, rfl, run_takeDeferred hK', ?_⟩⟩
    have hc5 := cell_kept (World.cell?_setCell_same' W ⟨w.heap.size, 0, none⟩ (.bool false) (by rw [hcr]; rfl)) (grownBy_putObj' _ D (.deferred none)) (fun r e => by cases e; exact ⟨_, hK', rfl⟩)
    refine ⟨.bool false, ?_, by rw [hr], (hB.setCell (p := ⟨w.heap.size, 0, none⟩) (Nat.le_refl _) _).trans (belowK_b (w := w) (Nat.le_refl _) _ D _ _ (by simp at hD; omega) hK' rfl rfl)⟩
    simp [results, Tryd.f14, go_sem, hc5]
  case stop =>
    rintro D c pre W hD hpre ⟨⟨rfl, ⟨j, hj⟩, hcr⟩, hB⟩ hK
    have hr : lackB t = true := torn_of ht j.isLt hj
    gi_wp2
    refine ⟨by simp, .inl ⟨_, _, rfl, run_takeDeferred hK, ?_⟩⟩
    have hc5 := cell_kept hcr (grownBy_putObj' _ D (.deferred none)) (fun r e => by cases e; exact ⟨_, hK, rfl⟩)
    refine ⟨.bool true, ?_, by rw [hr], hB.trans (belowK_b (w := w) (Nat.le_refl _) W D _ _ (by simp at hD; omega) hK rfl rfl)⟩
    simp [results, Tryd.f14, go_sem, hc5]
/-- Torn, for every text. -/
theorem lack_any (s : List UInt8) (w : World) :
    Calls Tryd.prog 14 #[.string (S s)] w fun e w' => e = .returned (.bool (lackB s)) ∧ Below w.heap.size w w' := by
  by_cases hl : s.length = 128
  · exact (callsIn_wide (n := 3)).1 (torn_in Fence.wide 3 trivial trivial trivial rfl (by omega) s hl w)
  · exact torn_short s w hl
end Go.Proofs.YtcbmcbcpclgciaaDoor
