/- Contracts of New, of a device that runs, and of its Clone. -/
import Derived.Test.YtdjjhiamiaialaaDoorKk
namespace Go.Proofs.YtdjjhiamiaialaaDoor
open Go.RowKit

theorem info_block : ∃ i, Tryd.prog.info? 50 = some i ∧ i.zero = some (.agg (bc blank).toArray) ∧ i.size = 129 ∧ i.bytes = 136 := by
  have h : (Tryd.prog.info? 50).map (fun i => (i.zero, i.size, i.bytes)) = some (some (.agg (bc blank).toArray), 129, 136) := by kernel_rfl
  cases hq : Tryd.prog.info? 50 with
  | none => rw [hq] at h; cases h
  | some i =>
    rw [hq] at h
    simp only [Option.map_some, Option.some.injEq, Prod.mk.injEq] at h
    exact ⟨i, rfl, h.1, h.2.1, h.2.2⟩
theorem made_blocks (n : Nat) : (madeCells (bc blank).toArray (n * 129)).toList = rc (List.replicate n blank) := by
  apply List.ext_getElem?
  intro k
  by_cases hk : k < n * 129
  · have h1 : (rc (List.replicate n blank))[k / 129 * 129 + k % 129]? = (bc blank)[k % 129]? := rc_get _ (k / 129) (k % 129) blank (by rw [List.getElem?_replicate, if_pos (by omega)]) (by omega)
    rw [show k / 129 * 129 + k % 129 = k by omega] at h1
    rw [h1]
    have hs : k % (bc blank).toArray.size < (bc blank).toArray.size := by rw [bcA_size]; omega
    unfold madeCells
    rw [Array.getElem?_toList, Array.getElem?_map, Array.getElem?_range, if_pos hk]
    show some ((bc blank).toArray[k % (bc blank).toArray.size]!) = _
    have e := getElem!_pos (bc blank).toArray (k % (bc blank).toArray.size) hs
    rw [e, ← Array.getElem?_eq_getElem hs, bcA_size, List.getElem?_toArray]
  · rw [List.getElem?_eq_none (by rw [Array.length_toList, size_madeCells]; omega), List.getElem?_eq_none (by simp; omega)]
theorem nil_blocks (a : Option Addr) (n c : Nat) (w : World) : (binOp .eql 47 (.slice a n c) (.slice none 0 0)).run Tryd.prog w = .ok (.bool a.isNone) w := by
  cases a <;> kernel_rfl
set_option maxRecDepth 100000 in
theorem clone_blocks {w : World} {g c : Nat} {l : List Blk} (h : Rw w g 50 (rc l)) (hl : l.length ≤ 512) (hp : 0 < l.length) :
    Calls Tryd.prog 34 #[.slice (some ⟨g, 0, none⟩) l.length c] w fun e w' => ∃ g' c', e = .returned (.slice (some ⟨g', 0, none⟩) l.length c') ∧ Rw w' g' 50 (rc l) ∧ w.heap.size ≤ g' ∧ Below w.heap.size w w' := by
  obtain ⟨ia, i1, i2, i3, i4⟩ := info_block
  have HIA : Hid (Tryd.prog.info? 50 = some ia ∧ ia.zero = some (.agg (bc blank).toArray) ∧ ia.size = 129 ∧ ia.bytes = 136) := ⟨i1, i2, i3, i4⟩
  have HZ : Hid ((Value.agg (bc blank).toArray).cells.size = 129) := bcA_size _
  have hlt := h.lt
  have HN : Hid (∀ j u, (rc l)[j]? = some u → (w.alloc (.cells #[] 50)).cell? ((⟨g, 0, none⟩ : Addr).add j) = some u) := fun j u hj => by
    have hc := h.cell j u hj
    rw [Addr.add_mid, Nat.zero_add, World.cell?_alloc_some _ _ _ (by rw [hc]; rfl)]
    exact hc
  have HO : Hid ((w.alloc (.cells #[] 50)).ownsRow w.heap.size 50 129 (.slice (some ⟨w.heap.size, 0, none⟩) 0 0) 0 []) := World.ownsRow_made w #[] 0 (Nat.le_refl _) (by simp [maxLen]) (by simp)
  have HM : Hid ((rc l).length = l.length * 129) := rc_length l
  have H1 : Hid (∀ u ∈ rc l, u.oneCell' = true) := fun u hu => by
    unfold rc at hu
    obtain ⟨b, _, hb⟩ := List.mem_flatMap.1 hu
    exact bc_one b u hb
  have HL : Hid (l.length ≤ 512) := hl
  have HP : Hid (0 < l.length) := hp
  clear i1 i2 i3 i4 h hl hp
  have hq := nil_blocks (some ⟨g, 0, none⟩) l.length c
  simp only [Option.isNone_some] at hq
  generalize rc l = cs at *
  generalize (bc blank).toArray = Z at *
  go_enter Tryd.func34, Tryd.ntmps34
  go_wp2_with (refine wpList_append_own _ rfl _ _ 47 rfl w.heap.size 50 ia (.agg Z) 129 136 Tryd.underlying47 HIA.out.1 HIA.out.2.1 HIA.out.2.2.1 HIA.out.2.2.2 HZ.out (by omega) (.slice (some ⟨w.heap.size, 0, none⟩) 0 0) 0 [] rfl HO.out ⟨g, 0, none⟩ l.length c cs rfl HM.out HN.out H1.out (by have := HL.out; simp only [maxLen]; omega) (by have := HL.out; omega) (by simp) ?_; intro v' w1 r1 r2 r3; have HR : Hid (w1.ownsRow w.heap.size 50 129 v' l.length cs ∧ Below w.heap.size w w1) := ⟨by simpa using r1, ((Below.refl w.heap.size w).alloc (Nat.le_refl _) _).grown r2 (by simp) (fun k hk => by simp [Value.ownBlock] at hk; omega)⟩; clear r1 r2 r3)
  go_ret
  obtain ⟨hr, hb⟩ := HR.out
  have hp := HP.out
  rcases hr.2 with ⟨_, h2⟩ | ⟨g', cap, cur, e, hB, hg, _, _, _, htk⟩
  · omega
  · subst e
    refine ⟨g', cap, rfl, ⟨cur, hg, cur.toList.drop (l.length * 129), ?_⟩, hB, hb⟩
    rw [← htk, List.take_append_drop]
/-- A device that has these blocks, surely, and runs. -/
def runD (l : List Blk) : Dv := ⟨l, l, [], true, 0, none⟩
theorem built_dev (a b : Addr) (n c c' : Nat) : Tryd.prog.built 59 [(0, Value.slice (some a) n c), (1, .slice (some b) n c'), (3, .bool true)] = some #[.slice (some a) n c, .slice (some b) n c', .slice none 0 0, .bool true, .int .i64 0, .pointer none] := by kernel_rfl
set_option maxRecDepth 100000 in
theorem running_any {w : World} {g c : Nat} {l : List Blk} (h : Rw w g 50 (rc l)) (hl : l.length ≤ 512) (hp : 0 < l.length) :
    Calls Tryd.prog 19 #[.slice (some ⟨g, 0, none⟩) l.length c] w fun e w' => ∃ p, e = .returned (.pointer (some ⟨p, 0, none⟩)) ∧ Dev w' p (runD l) (fun k => k = g ∨ (w.heap.size ≤ k ∧ k < w'.heap.size)) ∧ Below w.heap.size w w' ∧ w.heap.size ≤ p := by
  have HC : Hid (Calls Tryd.prog 34 #[.slice (some ⟨g, 0, none⟩) l.length c] w fun e w' => ∃ g' c', e = .returned (.slice (some ⟨g', 0, none⟩) l.length c') ∧ Rw w' g' 50 (rc l) ∧ w.heap.size ≤ g' ∧ Below w.heap.size w w') := clone_blocks h hl hp
  have HR : Hid (∀ (w1 : World) (g' c' : Nat), Rw w1 g' 50 (rc l) → w.heap.size ≤ g' → Below w.heap.size w w1 → ∀ W, W = w1.alloc (.cells #[.slice (some ⟨g, 0, none⟩) l.length c, .slice (some ⟨g', 0, none⟩) l.length c', .slice none 0 0, .bool true, .int .i64 0, .pointer none] 59) → Dev W w1.heap.size (runD l) (fun k => k = g ∨ (w.heap.size ≤ k ∧ k < W.heap.size)) ∧ Below w.heap.size w W) := fun w1 g' c' h1 h2 h3 W hW => by
    have hs := h3.size
    have hlt := h.lt
    have hlt' := h1.lt
    have old : ∀ k, k < w1.heap.size → W.heap[k]? = w1.heap[k]? := fun k hk => by rw [hW, Below.heap_alloc _ _ _ hk]
    have hsz : W.heap.size = w1.heap.size + 1 := by rw [hW]; simp
    refine ⟨⟨g, g', c, c', .slice none 0 0, .pointer none, .slice none 0 0, { cells := ?_, sure := (h.same (h3.block g hlt)).same (old g (by omega)), told := h1.same (old g' hlt'), len := rfl, pos := hp, small := hl, acts := World.ownsRow_nil _ _ _ _, inr := fun x hx => ?_, fail := ⟨rfl, rfl⟩, left := fun n k e => ?_, nodup := ?_, own := fun k hk => ?_ }⟩, ?_⟩
    · rw [hW]; exact heap_alloc_last _ _
    · simp [runD] at hx
    · simp [runD] at e
    · simp [blocks, Value.ownBlock, ptrB]; omega
    · simp only [blocks, Value.ownBlock, ptrB, Option.toList, List.append_nil, List.mem_cons, List.not_mem_nil, or_false] at hk
      rcases hk with hk | hk | hk
      · exact ⟨.inr ⟨by omega, by omega⟩, by omega⟩
      · exact ⟨.inl hk, by omega⟩
      · exact ⟨.inr ⟨by omega, by omega⟩, by omega⟩
    · rw [hW]; exact h3.alloc (by omega) _
  clear h hl hp
  go_enter Tryd.func19, Tryd.ntmps19
  go_wp2_with fail
  refine HC.out.mono ?_
  rintro e w1 ⟨g', c', rfl, h1, h2, h3⟩
  have HR1 : Hid (∀ W, W = w1.alloc (.cells #[.slice (some ⟨g, 0, none⟩) l.length c, .slice (some ⟨g', 0, none⟩) l.length c', .slice none 0 0, .bool true, .int .i64 0, .pointer none] 59) → Dev W w1.heap.size (runD l) (fun k => k = g ∨ (w.heap.size ≤ k ∧ k < W.heap.size)) ∧ Below w.heap.size w W) := HR.out w1 g' c' h1 h2 h3
  have HS1 : Hid (w.heap.size ≤ w1.heap.size) := h3.size
  have HBu : Hid (∀ w : World, (Instr.build 59 #[(0, .slice (some ⟨g, 0, none⟩) l.length c), (1, .slice (some ⟨g', 0, none⟩) l.length c'), (3, .bool true)]).run Tryd.prog w = .ok (.agg #[.slice (some ⟨g, 0, none⟩) l.length c, .slice (some ⟨g', 0, none⟩) l.length c', .slice none 0 0, .bool true, .int .i64 0, .pointer none]) w) := fun w => run_build w _ _ _ (built_dev _ _ _ _ _)
  clear h1 h2 h3 HR HC
  go_wp2_with (refine wpList_build rfl 59 #[(0, .tmp 3), (1, .tmp 5), (3, .const (.bool true))] rfl #[(0, .slice (some ⟨g, 0, none⟩) l.length c), (1, .slice (some ⟨g', 0, none⟩) l.length c'), (3, .bool true)] (by kernel_rfl) _ (HBu.out _) ?_)
  go_ret
  have := HR1.out _ rfl
  exact ⟨_, rfl, this.1, this.2, HS1.out⟩
end Go.Proofs.YtdjjhiamiaialaaDoor
