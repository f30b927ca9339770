/- Contract of the state's behind: the state behind one more block. -/
import Derived.Test.YtficmbaffkkfhaaDoorSb
import Derived.Deep.QuietTactic
import Derived.Deep.RegionLaw
import Derived.BigQuiet
namespace Go.Proofs.YtficmbaffkkfhaaDoor
open Go.RowKit

/-- The table of the rounds' words lies in its block. -/
def TabK (w : World) : Prop := ∃ t fr, w.heap[2]? = some (.cells (cf 64 kk) t fr)
theorem TabK.lt {w : World} (h : TabK w) : 2 < w.heap.size := by
  obtain ⟨t, fr, h⟩ := h
  rcases Nat.lt_or_ge 2 w.heap.size with h1 | h1
  · exact h1
  · rw [Array.getElem?_eq_none h1] at h; cases h
theorem TabK.below {w w' : World} {n : Nat} (h : TabK w) (hb : Below n w w') (hn : 2 < n) : TabK w' := by
  obtain ⟨t, fr, h⟩ := h
  exact ⟨t, fr, by rw [hb.block _ hn]; exact h⟩
/-- What lies in memory while the rounds are gone. -/
structure InB (w : World) (p : Nat) (s v : Nat → W32) (l : List UInt8) (wr : World) : Prop where
  hp : w.heap.size + 3 ≤ p
  below : Below w.heap.size w wr
  bs : wr.heap[w.heap.size]? = some (.cells (cf 8 s) 77 (0, 0))
  br : wr.heap[w.heap.size + 1 + 1]? = some (.cells (cf 8 fun _ => 0) 77 (0, 0))
  bw : wr.heap[p]? = some (.cells (cf 64 (sch l)) 85 (0, 0))
  bv : wr.heap[p + 1]? = some (.cells (cf 8 v) 77 (0, 0))
theorem InB.cells {w : World} {p : Nat} {s v : Nat → W32} {l : List UInt8} {wr : World} (h : InB w p s v l wr) :
    wr.cell? ⟨p + 1, 0, none⟩ = some (.int .u32 (iw (v 0))) ∧ wr.cell? ⟨p + 1, 1, none⟩ = some (.int .u32 (iw (v 1))) ∧ wr.cell? ⟨p + 1, 2, none⟩ = some (.int .u32 (iw (v 2))) ∧ wr.cell? ⟨p + 1, 3, none⟩ = some (.int .u32 (iw (v 3))) ∧
    wr.cell? ⟨p + 1, 4, none⟩ = some (.int .u32 (iw (v 4))) ∧ wr.cell? ⟨p + 1, 5, none⟩ = some (.int .u32 (iw (v 5))) ∧ wr.cell? ⟨p + 1, 6, none⟩ = some (.int .u32 (iw (v 6))) ∧ wr.cell? ⟨p + 1, 7, none⟩ = some (.int .u32 (iw (v 7))) := by
  refine ⟨?_, ?_, ?_, ?_, ?_, ?_, ?_, ?_⟩ <;> (rw [cell_of_row _ _ _ _ _ _ h.bv]; exact cf_get _ (by decide))
theorem InB.drewN {w : World} {p : Nat} {s v : Nat → W32} {l : List UInt8} {wr : World} (h : InB w p s v l wr) (n : Nat) : InB w p s v l (wr.drewN n) :=
  ⟨h.hp, below_drewN h.below n, h.bs, h.br, h.bw, h.bv⟩
theorem InB.drew {w : World} {p : Nat} {s v : Nat → W32} {l : List UInt8} {wr : World} (h : InB w p s v l wr) : InB w p s v l wr.drew :=
  ⟨h.hp, h.below.drew, h.bs, h.br, h.bw, h.bv⟩
theorem InB.setv {w : World} {p : Nat} {s v : Nat → W32} {l : List UInt8} {wr : World} (h : InB w p s v l wr) {i : Nat} (hi : i < 8) (x : W32) : InB w p s (upd v i x) l (wr.setCell ⟨p + 1, i, none⟩ (.int .u32 (iw x))) where
  hp := h.hp
  below := h.below.setCell (by show w.heap.size ≤ p + 1; have := h.hp; omega) _
  bs := by rw [Below.heap_setCell _ _ _ _ (by show _ ≠ p + 1; have := h.hp; omega)]; exact h.bs
  br := by rw [Below.heap_setCell _ _ _ _ (by show _ ≠ p + 1; have := h.hp; omega)]; exact h.br
  bw := by rw [Below.heap_setCell _ _ _ _ (by show _ ≠ p + 1; omega)]; exact h.bw
  bv := by rw [heap_set_same h.bv, cf_set _ _ hi]
theorem InB.sets {w : World} {p : Nat} {s v : Nat → W32} {l : List UInt8} {wr : World} (h : InB w p s v l wr) {i : Nat} (hi : i < 8) (x : W32) : InB w p (upd s i x) v l (wr.setCell ⟨w.heap.size, i, none⟩ (.int .u32 (iw x))) where
  hp := h.hp
  below := h.below.setCell (by show w.heap.size ≤ w.heap.size; omega) _
  bs := by rw [heap_set_same h.bs, cf_set _ _ hi]
  br := by rw [Below.heap_setCell _ _ _ _ (by show _ ≠ w.heap.size; omega)]; exact h.br
  bw := by rw [Below.heap_setCell _ _ _ _ (by show _ ≠ w.heap.size; have := h.hp; omega)]; exact h.bw
  bv := by rw [Below.heap_setCell _ _ _ _ (by show _ ≠ w.heap.size; have := h.hp; omega)]; exact h.bv
/-- All one place on. -/
def shft (v : Nat → W32) : Nat → W32 := fun j => if j = 0 then v 0 else v (j - 1)
theorem InB.shift {w : World} {p : Nat} {s v : Nat → W32} {l : List UInt8} {wr : World} (h : InB w p s v l wr) : InB w p s (shft v) l (wr.setRow (p + 1) (cf 8 (shft v))) where
  hp := h.hp
  below := below_setRow h.below (by have := h.hp; omega) _
  bs := by rw [heap_setRow_ne (by have := h.hp; omega)]; exact h.bs
  br := by rw [heap_setRow_ne (by have := h.hp; omega)]; exact h.br
  bw := by rw [heap_setRow_ne (by omega)]; exact h.bw
  bv := heap_setRow_same h.bv
theorem turn_eq (v : Nat → W32) (k w : W32) : upd (upd (shft v) 4 (v 3 + tOne v k w)) 0 (tOne v k w + tTwo v) = turn v k w := by
  funext j
  unfold upd turn shft
  by_cases h0 : j = 0
  · simp [h0]
  · by_cases h4 : j = 4 <;> simp [h0, h4]
theorem cf8 (v : Nat → W32) : cf 8 v = #[.int .u32 (iw (v 0)), .int .u32 (iw (v 1)), .int .u32 (iw (v 2)), .int .u32 (iw (v 3)), .int .u32 (iw (v 4)), .int .u32 (iw (v 5)), .int .u32 (iw (v 6)), .int .u32 (iw (v 7))] := rfl
/-- copy(v[1:], v[:7]), as one step. -/
theorem step_shift {ops : Array Oper} {o : Oper} {a : Act} {w : World} {K : Act → World → Prop} {Q : Exit → Act → World → Prop} {E : Prop} (hgd : o.guard = none) (d s : Operand) (dT sT : TypeId)
    (ho : o.op = .call { callee := .builtin .copy, args := #[d, s], argTypes := #[dT, sT] }) (elem : TypeId) (hu : Tryd.prog.underlying dT = some (.slice elem)) (hsz : (Tryd.prog.info? elem).map (·.size) = some 1)
    (g dCap sCap : Nat) (hd : a.eval d = .slice (some ⟨g, 1, none⟩) 7 dCap) (hs : a.eval s = .slice (some ⟨g, 0, none⟩) 7 sCap)
    (v : Nat → W32) (t : TypeId) (hg : w.heap[g]? = some (.cells (cf 8 v) t (0, 0)))
    (h : K (a.put o.dst (.int .i64 7)) (w.setRow g (cf 8 (shft v)))) :
    if Region.wanted o (yielded ops a.tmps) = true then Oper.wp Tryd.prog o a w K Q else E := by
  have hw : Region.wanted o (yielded ops a.tmps) = true := by simp [Region.wanted, hgd]
  rw [if_pos hw]
  have hc : ∀ j, w.cell? ((⟨g, 0, none⟩ : Addr).add j) = (cf 8 v)[j]? := by
    intro j
    rw [show (⟨g, 0, none⟩ : Addr).add j = ⟨g, j, none⟩ by unfold Addr.add; split <;> simp_all, cell_of_row _ _ _ _ _ _ hg]
  have hrun := run_copy_row (P := Tryd.prog) w dT sT o.type elem g 1 7 dCap ⟨g, 0, none⟩ 7 sCap (cf 8 v) t ((cf 8 v).toList.take 7) hu hsz hg (by rw [cf8]; rfl) (by
    intro j x hj
    rw [hc]
    rw [List.getElem?_take] at hj
    by_cases h7 : j < 7
    · rw [if_pos h7] at hj; simpa using hj
    · rw [if_neg h7] at hj; cases hj) (by rw [cf8]; simp) (by
    intro x hx
    have h1 := cf_one 8 v
    rw [Array.all_eq_true'] at h1
    exact h1 x (by simpa using List.mem_of_mem_take hx))
  have e : ((cf 8 v).toList.take 1 ++ (cf 8 v).toList.take 7 ++ (cf 8 v).toList.drop (1 + ((cf 8 v).toList.take 7).length)).toArray = cf 8 (shft v) := by
    rw [cf8, cf8]; rfl
  rw [e] at hrun
  unfold Oper.wp
  simp [execOp, ho, resolve, invoke, builtin, hd, hs, hrun, Result.andThen]
  exact h
theorem tOne_raw (v : Nat → W32) (k w : W32) : ((iw (v 7) + iw (S1 (v 4)) + iw (chw (v 4) (v 5) (v 6)) + iw k) % 4294967296 + iw w) % 4294967296 = iw (tOne v k w) := by
  unfold tOne
  rw [← iw_add', ← iw_add', ← iw_add', ← iw_add']
  omega
theorem tTwo_raw (v : Nat → W32) : (iw (S0 (v 0)) + iw (maw (v 0) (v 1) (v 2))) % 4294967296 = iw (tTwo v) := iw_add' _ _
theorem zero_w8 : cf 8 (fun _ => 0) = #[.int .u32 0, .int .u32 0, .int .u32 0, .int .u32 0, .int .u32 0, .int .u32 0, .int .u32 0, .int .u32 0] := by kernel_rfl
theorem info_u32 : (Tryd.prog.info? 34).map (·.size) = some 1 := by kernel_rfl
theorem info_w8 : (Tryd.prog.info? 77).map (·.size) = some 8 := by kernel_rfl
theorem info_b64 : (Tryd.prog.info? 78).map (·.size) = some 64 := by kernel_rfl
theorem alloc3_mid (w : World) (x y z : Obj) : (((w.alloc x).alloc y).alloc z).heap[w.heap.size + 1]? = some y := by
  rw [Below.heap_alloc _ _ _ (by simp)]
  have := heap_alloc_last (w.alloc x) y
  simpa using this
theorem store_last1 {P : Program} {ops : Array Oper} {rest : List Oper} {o : Oper} {a : Act} {w : World} {ob : Obj} {Q : Exit → Act → World → Prop} (hgd : o.guard = none) (ty : TypeId) (x y : Operand) (ho : o.op = .store ty x y)
    (n : Nat) (t : TypeId) (old cs : Array Value) (hx : a.eval x = .pointer (some ⟨w.heap.size + 1, 0, none⟩)) (hy : a.eval y = .agg cs)
    (hi : (P.info? ty).map (·.size) = some n) (hold : old.size = n) (hn : cs.size = n) (h1 : cs.all (·.oneCell') = true)
    (h : wpList P ops Q rest (a.put o.dst undef) ((w.alloc ob).alloc (.cells cs t))) : wpList P ops Q (o :: rest) a ((w.alloc ob).alloc (.cells old t)) :=
  store_last hgd ty x y ho n t old cs (by rw [hx]; simp) hy hi hold hn h1 h
theorem inB_start (w w1 : World) (s : Nat → W32) (l : List UInt8) (hn : w.heap.size + 3 ≤ w1.heap.size) (hb : Below w.heap.size w w1) (g0 : w1.heap[w.heap.size]? = some (.cells (cf 8 s) 77 (0, 0))) (g2 : w1.heap[w.heap.size + 1 + 1]? = some (.cells (cf 8 fun _ => 0) 77 (0, 0))) :
    InB w w1.heap.size s s l ((w1.alloc (.cells (cf 64 (sch l)) 85)).alloc (.cells (cf 8 s) 77)) where
  hp := hn
  below := (hb.alloc (by omega) _).alloc (by simp; omega) _
  bs := by rw [Below.heap_alloc _ _ _ (by simp; omega), Below.heap_alloc _ _ _ (by omega)]; exact g0
  br := by rw [Below.heap_alloc _ _ _ (by simp; omega), Below.heap_alloc _ _ _ (by omega)]; exact g2
  bw := by rw [Below.heap_alloc _ _ _ (by simp)]; exact heap_alloc_last _ _
  bv := by
    have := heap_alloc_last (w1.alloc (.cells (cf 64 (sch l)) 85)) (.cells (cf 8 s) 77)
    simpa using this
/-- The first k words added. -/
def addTo (s v : Nat → W32) (k : Nat) : Nat → W32 := fun j => if j < k then s j + v j else s j
theorem addTo_succ (s v : Nat → W32) (k : Nat) : upd (addTo s v k) k (s k + v k) = addTo s v (k + 1) := by
  funext j
  unfold upd addTo
  by_cases h : j = k
  · subst h; simp
  · by_cases h1 : j < k
    · simp [h, h1, show j < k + 1 by omega]
    · simp [h, h1, show ¬ j < k + 1 by omega]
theorem addTo_at (s v : Nat → W32) (k : Nat) : addTo s v k k = s k := by simp [addTo]
set_option maxRecDepth 100000 in
set_option maxHeartbeats 1600000 in
theorem behind_any (s : Nat → W32) (l : List UInt8) (w : World) (hl : l.length = 64) (hK : TabK w) :
    Calls Tryd.prog 47 #[.agg (cf 8 s), .agg (hv l)] w fun e w' => e = .returned (.agg (cf 8 (bhd s l))) ∧ Below w.heap.size w w' := by
  have hz : (hv l).size = 64 := by rw [hv_size, hl]
  have hz8 : (cf 8 s).size = 8 := cf_size _ _
  have hk : Hid (∀ w : World, Calls Tryd.prog 53 #[.agg (hv l)] w fun e w' => e = .returned (.agg (cf 64 (sch l))) ∧ Below w.heap.size w w') := fun w => schedule_any l w hl
  have hs1 := cf_size 64 (sch l)
  have hs2 := cf_one 64 (sch l)
  have hs3 := cf_one 8 s
  have z8 : Hid ((cf 8 fun _ => 0).size = 8) := cf_size _ _
  have z64 : Hid ((cf 64 fun _ => 0).size = 64) := cf_size _ _
  rw [zero_w8] at z8
  rw [zero_w64] at z64
  have hst : Hid (∀ w1 : World, w.heap.size + 3 ≤ w1.heap.size → Below w.heap.size w w1 → w1.heap[w.heap.size]? = some (.cells (cf 8 s) 77 (0, 0)) → w1.heap[w.heap.size + 1 + 1]? = some (.cells #[.int .u32 0, .int .u32 0, .int .u32 0, .int .u32 0, .int .u32 0, .int .u32 0, .int .u32 0, .int .u32 0] 77 (0, 0)) → InB w w1.heap.size s s l ((w1.alloc (.cells (cf 64 (sch l)) 85)).alloc (.cells (cf 8 s) 77))) := fun w1 a b c d => inB_start w w1 s l a b c (by rw [zero_w8]; exact d)
  generalize cf 64 (sch l) = D at *
  generalize hv l = C at *
  generalize cf 8 s = Z at *
  go_enter Tryd.func47, Tryd.ntmps47
  go_wp2_with (refine wpList_load_row rfl 78 _ rfl (w.heap.size + 1) rfl _ C (0, 0) _ (alloc3_mid _ _ _ _) Tryd.underlying78 rfl (by rw [info_b64, hz]) ?_)
  refine (hk.out _).mono ?_
  rintro e w1 ⟨rfl, b1⟩
  have hn1 : w.heap.size + 3 ≤ w1.heap.size := by have := b1.size; simp at this; omega
  have g0 : w1.heap[w.heap.size]? = some (.cells Z 77 (0, 0)) := by
    rw [b1.block _ (by simp; omega), Below.heap_alloc _ _ _ (by simp; omega), Below.heap_alloc _ _ _ (by simp)]; exact heap_alloc_last _ _
  have g2 : w1.heap[w.heap.size + 1 + 1]? = some (.cells #[.int .u32 0, .int .u32 0, .int .u32 0, .int .u32 0, .int .u32 0, .int .u32 0, .int .u32 0, .int .u32 0] 77 (0, 0)) := by
    rw [b1.block _ (by simp)]
    have := heap_alloc_last ((w.alloc (.cells Z 77)).alloc (.cells C 78)) (.cells #[.int .u32 0, .int .u32 0, .int .u32 0, .int .u32 0, .int .u32 0, .int .u32 0, .int .u32 0, .int .u32 0] 77)
    simpa using this
  have g0' : Hid ((w1.alloc (.cells D 85)).heap[w.heap.size]? = some (.cells Z 77 (0, 0))) := by
    show _ = _; rw [Below.heap_alloc _ _ _ (by omega)]; exact g0
  have G0 : Hid _ := g0
  have G2 : Hid _ := g2
  clear g0 g2
  go_wp2_with (first | (refine store_last rfl 85 _ _ rfl 64 _ _ D rfl rfl info_w64 z64.out hs1 hs2 ?_) | (refine wpList_load_row rfl 77 _ rfl w.heap.size rfl _ Z (0, 0) _ g0'.out Tryd.underlying77 rfl (by rw [info_w8, hz8]) ?_) | (refine store_last1 rfl 77 _ _ rfl 8 _ _ Z rfl rfl info_w8 z8.out hz8 hs3 ?_))
  have HST : Hid _ := hst.out w1 hn1 ((((Below.refl w.heap.size w).alloc (Nat.le_refl _) _).alloc (by simp) _).alloc (by simp; omega) _ |>.trans (b1.mono (by simp; omega))) G0.out G2.out
  clear hst b1 hk z8 z64 hs1 hs2 hz g0' G0 G2
  go_loopw [14] (fun i wr => ∃ k : Nat, k ≤ 64 ∧ i = .int .i64 k ∧ InB w w1.heap.size s (turns (sch l) s k) l wr) (fun i _ => 64 - (intOf i).toNat)
  case atStart => exact ⟨0, Nat.zero_le _, rfl, HST.out⟩
  case round =>
    obtain ⟨k, hk, rfl, hI⟩ := hrel
    clear HST
    by_cases hlt : k < 64
    · obtain ⟨tk, fr, cK⟩ := hK.below hI.below hK.lt
      have ck : wr.cell? ⟨2, k, none⟩ = some (.int .u32 (iw (kk k))) := by rw [cell_of_row _ _ _ _ _ _ cK]; exact cf_get _ hlt
      have cw : wr.cell? ⟨w1.heap.size, k, none⟩ = some (.int .u32 (iw (sch l k))) := by rw [cell_of_row _ _ _ _ _ _ hI.bw]; exact cf_get _ hlt
      have htv : turns (sch l) s (k + 1) = turn (turns (sch l) s k) (kk k) (sch l k) := rfl
      generalize turns (sch l) s k = v at *
      have HTv : Hid _ := htv
      clear htv
      obtain ⟨c0, c1, c2, c3, c4, c5, c6, c7⟩ := hI.cells
      have k4 : Hid (∀ w : World, Calls Tryd.prog 54 #[.int .u32 (iw (v 4))] w fun e w' => e = .returned (.int .u32 (iw (S1 (v 4)))) ∧ w' = w) := sum1_any _
      have k5 : Hid (∀ w : World, Calls Tryd.prog 55 #[.int .u32 (iw (v 4)), .int .u32 (iw (v 5)), .int .u32 (iw (v 6))] w fun e w' => e = .returned (.int .u32 (iw (chw (v 4) (v 5) (v 6)))) ∧ w' = w) := choice_any _ _ _
      have k6 : Hid (∀ w : World, Calls Tryd.prog 56 #[.int .u32 (iw (v 0))] w fun e w' => e = .returned (.int .u32 (iw (S0 (v 0)))) ∧ w' = w) := sum0_any _
      have k7 : Hid (∀ w : World, Calls Tryd.prog 57 #[.int .u32 (iw (v 0)), .int .u32 (iw (v 1)), .int .u32 (iw (v 2))] w fun e w' => e = .returned (.int .u32 (iw (maw (v 0) (v 1) (v 2)))) ∧ w' = w) := majority_any _ _ _
      have i1 : (k : Int) < 64 := by omega
      have i0 : (0 : Int) ≤ (k : Int) := by omega
      go_wp2
      go_quiet (first | (go_at_call 54; exact Calls.quiet_of_same (k4.out _)) | (go_at_call 55; exact Calls.quiet_of_same (k5.out _)))
      go_wp2
      have hI2 := hI.drewN nq
      clear c0 c1 c2 c3 c4 c5 c6 c7 ck cw cK hI
      generalize wr.drewN nq = wq at *
      obtain ⟨c0, c1, c2, c3, c4, c5, c6, c7⟩ := hI2.cells
      go_quiet (first | (go_at_call 56; exact Calls.quiet_of_same (k6.out _)) | (go_at_call 57; exact Calls.quiet_of_same (k7.out _)))
      go_wp2
      have r1 : Hid _ := tOne_raw v (kk k) (sch l k)
      have r2 : Hid _ := tTwo_raw v
      rw [r1.out, r2.out]
      have hI2' := hI2.drewN nq
      clear hI2
      clear c0 c1 c2 c3 c4 c5 c6 c7
      generalize wq.drewN nq = wu at *
      have hI3 : Hid (InB w w1.heap.size s (shft v) l (wu.drew.setRow (w1.heap.size + 1) (cf 8 (shft v)))) := hI2'.drew.shift
      have hg3 : Hid (wu.drew.heap[w1.heap.size + 1]? = some (.cells (cf 8 v) 77 (0, 0))) := hI2'.bv
      go_region_law (refine step_shift rfl (.tmp 50) (.tmp 51) 91 91 rfl 34 Tryd.underlying91 info_u32 (w1.heap.size + 1) 7 8 rfl rfl v _ hg3.out ?_)
      generalize wu.drew.setRow (w1.heap.size + 1) (cf 8 (shft v)) = wz at *
      have c4 : wz.cell? ⟨w1.heap.size + 1, 4, none⟩ = some (.int .u32 (iw (v 3))) := by rw [cell_of_row _ _ _ _ _ _ hI3.out.bv]; exact cf_get _ (by decide)
      have f4 : wz.frozen? ⟨w1.heap.size + 1, 4, none⟩ = false := frozen_of_row _ _ _ _ _ hI3.out.bv
      have hI4 : Hid (InB w w1.heap.size s (turn v (kk k) (sch l k)) l ((wz.setCell ⟨w1.heap.size + 1, 4, none⟩ (.int .u32 (iw (v 3 + tOne v (kk k) (sch l k))))).setCell ⟨w1.heap.size + 1, 0, none⟩ (.int .u32 (iw (tOne v (kk k) (sch l k) + tTwo v))))) := by
        have := (hI3.out.setv (i := 4) (by decide) (v 3 + tOne v (kk k) (sch l k))).setv (i := 0) (by decide) (tOne v (kk k) (sch l k) + tTwo v)
        rw [turn_eq] at this
        exact this
      have r3 : Hid ((iw (v 3) + iw (tOne v (kk k) (sch l k))) % 4294967296 = iw (v 3 + tOne v (kk k) (sch l k))) := iw_add' _ _
      have r4 : Hid ((iw (tOne v (kk k) (sch l k)) + iw (tTwo v)) % 4294967296 = iw (tOne v (kk k) (sch l k) + tTwo v)) := iw_add' _ _
      have f0 : ∀ x, (wz.setCell ⟨w1.heap.size + 1, 4, none⟩ x).frozen? ⟨w1.heap.size + 1, 0, none⟩ = false := fun x => frozen_of_row _ _ _ _ _ (heap_set_same hI3.out.bv)
      have c0 : ∀ x, (wz.setCell ⟨w1.heap.size + 1, 4, none⟩ x).cell? ⟨w1.heap.size + 1, 0, none⟩ = some (.int .u32 (iw (v 0))) := fun x => by rw [cell_set_ne (by decide), cell_of_row _ _ _ _ _ _ hI3.out.bv]; exact cf_get _ (by decide)
      have HT : Hid (turns (sch l) s (k + 1) = turn v (kk k) (sch l k)) := HTv.out
      clear hI2' hI3 r1 r2 hg3 k4 k5 k6 k7
      generalize turn v (kk k) (sch l k) = tv at *
      generalize iw (v 3 + tOne v (kk k) (sch l k)) = X3 at *
      generalize iw (tOne v (kk k) (sch l k) + tTwo v) = X0 at *
      generalize iw (tOne v (kk k) (sch l k)) = T1 at *
      generalize iw (tTwo v) = T2 at *
      go_wp2
      go_roundw
      case rel =>
        rw [r3.out, r4.out]
        first
        | exact ⟨k + 1, by omega, by go_num, by rw [HT.out]; exact hI4.out⟩
        | ((repeat apply Exists.intro); exact ⟨⟨k + 1, by omega, by go_num, by rw [HT.out]; exact hI4.out⟩, rfl⟩)
      case measure => simp [intOf]; omega
    · obtain rfl : k = 64 := by omega
      have hF : Hid (cf 8 (addTo s (turns (sch l) s 64) 8) = cf 8 (bhd s l)) := cf_congr fun i hi => by simp [addTo, bhd, hi]
      generalize turns (sch l) s 64 = V at *
      go_wp2
      go_loopw [63] (fun i wr => ∃ k : Nat, k ≤ 8 ∧ i = .int .i64 k ∧ InB w w1.heap.size (addTo s V k) V l wr) (fun i _ => 8 - (intOf i).toNat)
      case atStart => exact ⟨0, Nat.zero_le _, rfl, hI⟩
      case round =>
        obtain ⟨k, hk, rfl, hJ⟩ := hrel
        clear hI
        by_cases hlt : k < 8
        · have cs : wr.cell? ⟨w.heap.size, k, none⟩ = some (.int .u32 (iw (s k))) := by rw [cell_of_row _ _ _ _ _ _ hJ.bs, cf_get _ hlt, addTo_at]
          have cv : wr.cell? ⟨w1.heap.size + 1, k, none⟩ = some (.int .u32 (iw (V k))) := by rw [cell_of_row _ _ _ _ _ _ hJ.bv]; exact cf_get _ hlt
          have fs : wr.frozen? ⟨w.heap.size, k, none⟩ = false := frozen_of_row _ _ _ _ _ hJ.bs
          have hJ' : Hid (InB w w1.heap.size (addTo s V (k + 1)) V l (wr.setCell ⟨w.heap.size, k, none⟩ (.int .u32 (iw (s k + V k)))).drew) := by
            have := (hJ.sets (i := k) hlt (s k + V k)).drew
            rw [addTo_succ] at this
            exact this
          have r : Hid ((iw (s k) + iw (V k)) % 4294967296 = iw (s k + V k)) := iw_add' _ _
          have i1 : (k : Int) < 8 := by omega
          clear hJ
          generalize iw (s k + V k) = X at *
          generalize iw (s k) = A at *
          generalize iw (V k) = B at *
          go_wp2
          go_region
          go_wp2
          go_roundw
          case rel =>
            rw [r.out]
            first
            | exact ⟨k + 1, by omega, by go_num, hJ'.out⟩
            | ((repeat apply Exists.intro); exact ⟨⟨k + 1, by omega, by go_num, hJ'.out⟩, rfl⟩)
          case measure => simp [intOf]; omega
        · obtain rfl : k = 8 := by omega
          have hb := hJ.bs
          rw [hF.out] at hb
          have hb0 : Hid _ := hb
          have hb2 : Hid (wr.heap[w.heap.size + 1 + 1]? = some (.cells (cf 8 fun _ => 0) 77 (0, 0))) := hJ.br
          have hbe : Hid (Below w.heap.size w wr) := hJ.below
          have e1 := cf_size 8 (bhd s l)
          have e2 := cf_one 8 (bhd s l)
          have e3 : Hid ((cf 8 fun _ => 0).size = 8) := cf_size _ _
          clear hJ hb hF
          generalize hE : cf 8 (bhd s l) = E at *
          have HE : Hid (cf 8 (bhd s l) = E) := hE
          clear hE
          generalize (cf 8 fun _ => 0) = O at *
          go_wp2_with (first | (refine wpList_load_row rfl 77 _ rfl w.heap.size rfl _ E (0, 0) _ hb0.out Tryd.underlying77 rfl (by rw [info_w8, e1]) ?_) | (refine wpList_store_row rfl 77 _ _ rfl (w.heap.size + 1 + 1) E rfl rfl _ O hb2.out (by rw [info_w8, e1]) (by rw [e3.out, e1]) e2 ?_))
          refine bodyPost_ret (v := .agg E) (results_cell1 (p := 4) Tryd.results47 _ _ (w.heap.size + 1 + 1) 8 77 34 E (0, 0) rfl (heap_setRow_same hb2.out) Tryd.underlying77 info_w8 e1) rfl ⟨by rw [HE.out], below_setRow hbe.out (by omega) _⟩
end Go.Proofs.YtficmbaffkkfhaaDoor
