/- The document's device: Clone. -/
import Derived.Test.YthlaackalmgfnaaHb
/- The document's device: New. -/
namespace Go.Proofs.Ythlaackalmgfnaa
open Go.RowKit

/-- The document's new device. -/
def rnewD (n : Nat) : Rv := ⟨List.replicate n 0, List.replicate n [], [], false, 0, false, 0, []⟩
theorem built_rdev (a b : Option Addr) (n c m d : Nat) : Try.prog.built 35 [(0, .slice a n c), (1, .slice b m d)] = some #[.slice a n c, .slice b m d, .slice none 0 0, .bool false, .int .i64 0, .bool false, .int .i64 0, .slice none 0 0] := by kernel_rfl
theorem made_strs (n : Nat) : madeCells #[Value.string ⟨#[]⟩] n = (sv (List.replicate n [])).toArray := by
  apply Array.ext_getElem?
  intro i
  by_cases hi : i < n
  · have e2 : (sv (List.replicate n [])).toArray[i]? = some (.string ⟨#[]⟩) := by
      unfold sv
      rw [List.getElem?_toArray, List.getElem?_map, List.getElem?_replicate, if_pos hi]; rfl
    rw [e2]
    unfold madeCells
    rw [Array.getElem?_map, Array.getElem?_range, if_pos hi]
    have e : i % (#[Value.string ⟨#[]⟩] : Array Value).size = 0 := by simp [Nat.mod_one]
    show some (#[Value.string ⟨#[]⟩][i % (#[Value.string ⟨#[]⟩] : Array Value).size]!) = _
    rw [e]; rfl
  · rw [Array.getElem?_eq_none (by rw [size_madeCells]; omega), Array.getElem?_eq_none (by simp [sv]; omega)]
theorem mk_strs (n : Nat) (hn : n ≤ 1000000) (w : World) : (Instr.makeSlice 32 (.int .i64 (n : Int)) (.int .i64 (n : Int))).run Try.prog w = .ok (.slice (some ⟨w.heap.size, 0, none⟩) n n) (w.alloc (.cells (sv (List.replicate n [])).toArray 9)) := by
  rw [← made_strs]
  exact run_make_row' 32 9 (.string ⟨#[]⟩) 16 Try.underlying32 (by kernel_rfl) rfl .i64 .i64 n (by omega) (by omega) w
theorem ref_fresh {W : World} {q a b ca cb : Nat} {O : Nat → Prop} {st : List Int} {da : List (List UInt8)}
    (hq : W.heap[q]? = some (.cells #[.slice (some ⟨a, 0, none⟩) st.length ca, .slice (some ⟨b, 0, none⟩) st.length cb, .slice none 0 0, .bool false, .int .i64 0, .bool false, .int .i64 0, .slice none 0 0] 35 (0, 0)))
    (ha : Rw W a 3 (st.map (Value.int .i64))) (hb : Rw W b 9 (sv da)) (hl : da.length = st.length) (h0 : 0 < st.length) (h5 : st.length ≤ 512) (n1 : q ≠ a) (n2 : q ≠ b) (n3 : a ≠ b) (oq : O q) (oa : O a) (ob : O b) : Ref W q ⟨st, da, [], false, 0, false, 0, []⟩ O := by
  refine ⟨a, b, ca, cb, .slice none 0 0, .slice none 0 0, hq, ha, hb, hl, h0, h5, World.ownsRow_nil _ _ _ _, by simp, ⟨none, 0, rfl, fun i n hi => by simp at hi⟩, by show (-9223372036854775808 : Int) < 0; decide, by show (0 : Int) < 9223372036854775808; decide, by simp [rblocks, Value.ownBlock, n1, n2, n3], fun k hk => ?_⟩
  simp only [rblocks, Value.ownBlock, Option.toList, List.append_nil, List.mem_cons, List.not_mem_nil, or_false] at hk
  rcases hk with rfl | rfl | rfl
  · exact ⟨oq, row_lt hq⟩
  · exact ⟨oa, ha.lt⟩
  · exact ⟨ob, hb.lt⟩
theorem new_end1 {w W1 W2 W3 : World} (n : Nat) (h4 : 4 ≤ n) (h5 : n ≤ 512) (hb : Below w.heap.size w W1) (h2 : W1.alloc (.cells (iv (List.replicate n 0)) 3) = W2) (h3 : W2.alloc (.cells (sv (List.replicate n [])).toArray 9) = W3) :
    Ref (W3.alloc (.cells #[.slice (some ⟨W1.heap.size, 0, none⟩) n n, .slice (some ⟨W2.heap.size, 0, none⟩) n n, .slice none 0 0, .bool false, .int .i64 0, .bool false, .int .i64 0, .slice none 0 0] 35)) W3.heap.size (rnewD n) (fun k => w.heap.size ≤ k ∧ k < (W3.alloc (.cells #[.slice (some ⟨W1.heap.size, 0, none⟩) n n, .slice (some ⟨W2.heap.size, 0, none⟩) n n, .slice none 0 0, .bool false, .int .i64 0, .bool false, .int .i64 0, .slice none 0 0] 35)).heap.size) ∧ Below w.heap.size w (W3.alloc (.cells #[.slice (some ⟨W1.heap.size, 0, none⟩) n n, .slice (some ⟨W2.heap.size, 0, none⟩) n n, .slice none 0 0, .bool false, .int .i64 0, .bool false, .int .i64 0, .slice none 0 0] 35)) := by
  have s1 := hb.size
  have e2 : W2.heap.size = W1.heap.size + 1 := by rw [← h2]; simp
  have e3 : W3.heap.size = W2.heap.size + 1 := by rw [← h3]; simp
  have b2 : W3.heap[W1.heap.size]? = some (.cells (iv (List.replicate n 0)) 3) := by rw [← h3, Below.heap_alloc _ _ _ (by omega), ← h2]; exact heap_alloc_last _ _
  have b3 : W3.heap[W2.heap.size]? = some (.cells (sv (List.replicate n [])).toArray 9) := by rw [← h3]; exact heap_alloc_last _ _
  have hbel : Below w.heap.size w (W3.alloc (.cells #[.slice (some ⟨W1.heap.size, 0, none⟩) n n, .slice (some ⟨W2.heap.size, 0, none⟩) n n, .slice none 0 0, .bool false, .int .i64 0, .bool false, .int .i64 0, .slice none 0 0] 35)) := by
    rw [← h3, ← h2]
    exact ((hb.alloc s1 _).alloc (by simp; omega) _).alloc (by simp; omega) _
  refine ⟨?_, hbel⟩
  refine ref_fresh (st := List.replicate n 0) (da := List.replicate n []) (a := W1.heap.size) (b := W2.heap.size) (ca := n) (cb := n) ?_ ?_ ?_ (by simp) (by simp; omega) (by simp; omega) (by omega) (by omega) (by omega) ⟨by omega, by simp⟩ ⟨by omega, by simp; omega⟩ ⟨by omega, by simp; omega⟩
  · rw [heap_alloc_last]; simp
  · exact ⟨_, (Below.heap_alloc _ _ _ (by omega)).trans b2, [], by simp [iv]⟩
  · exact ⟨_, (Below.heap_alloc _ _ _ (by omega)).trans b3, [], by simp⟩
theorem new_end2 {w W1 W2 W3 : World} (n : Nat) (h4 : 4 ≤ n) (h5 : n ≤ 512) (hb : Below w.heap.size w W1) (h2 : W1.alloc (.cells (sv (List.replicate n [])).toArray 9) = W2) (h3 : W2.alloc (.cells (iv (List.replicate n 0)) 3) = W3) :
    Ref (W3.alloc (.cells #[.slice (some ⟨W2.heap.size, 0, none⟩) n n, .slice (some ⟨W1.heap.size, 0, none⟩) n n, .slice none 0 0, .bool false, .int .i64 0, .bool false, .int .i64 0, .slice none 0 0] 35)) W3.heap.size (rnewD n) (fun k => w.heap.size ≤ k ∧ k < (W3.alloc (.cells #[.slice (some ⟨W2.heap.size, 0, none⟩) n n, .slice (some ⟨W1.heap.size, 0, none⟩) n n, .slice none 0 0, .bool false, .int .i64 0, .bool false, .int .i64 0, .slice none 0 0] 35)).heap.size) ∧ Below w.heap.size w (W3.alloc (.cells #[.slice (some ⟨W2.heap.size, 0, none⟩) n n, .slice (some ⟨W1.heap.size, 0, none⟩) n n, .slice none 0 0, .bool false, .int .i64 0, .bool false, .int .i64 0, .slice none 0 0] 35)) := by
  have s1 := hb.size
  have e2 : W2.heap.size = W1.heap.size + 1 := by rw [← h2]; simp
  have e3 : W3.heap.size = W2.heap.size + 1 := by rw [← h3]; simp
  have b2 : W3.heap[W1.heap.size]? = some (.cells (sv (List.replicate n [])).toArray 9) := by rw [← h3, Below.heap_alloc _ _ _ (by omega), ← h2]; exact heap_alloc_last _ _
  have b3 : W3.heap[W2.heap.size]? = some (.cells (iv (List.replicate n 0)) 3) := by rw [← h3]; exact heap_alloc_last _ _
  have hbel : Below w.heap.size w (W3.alloc (.cells #[.slice (some ⟨W2.heap.size, 0, none⟩) n n, .slice (some ⟨W1.heap.size, 0, none⟩) n n, .slice none 0 0, .bool false, .int .i64 0, .bool false, .int .i64 0, .slice none 0 0] 35)) := by
    rw [← h3, ← h2]
    exact ((hb.alloc s1 _).alloc (by simp; omega) _).alloc (by simp; omega) _
  refine ⟨?_, hbel⟩
  refine ref_fresh (st := List.replicate n 0) (da := List.replicate n []) (a := W2.heap.size) (b := W1.heap.size) (ca := n) (cb := n) ?_ ?_ ?_ (by simp) (by simp; omega) (by simp; omega) (by omega) (by omega) (by omega) ⟨by omega, by simp⟩ ⟨by omega, by simp; omega⟩ ⟨by omega, by simp; omega⟩
  · rw [heap_alloc_last]; simp
  · exact ⟨_, (Below.heap_alloc _ _ _ (by omega)).trans b3, [], by simp [iv]⟩
  · exact ⟨_, (Below.heap_alloc _ _ _ (by omega)).trans b2, [], by simp⟩
theorem rnew_bad (n : Int) (hn : n < 4 ∨ 512 < n) (w : World) : Calls Try.prog 11 #[.int .i64 n] w fun e w' => e = .returned (.tuple #[.pointer none, .int .i64 2]) ∧ w' = w := by
  by_cases h : n < 4
  · go_enter Try.func11, Try.ntmps11
    go_wp2
    go_ret2
    exact ⟨rfl, rfl⟩
  · have h2 : 512 < n := by omega
    clear hn
    go_enter Try.func11, Try.ntmps11
    go_wp2
    go_ret2
    exact ⟨rfl, rfl⟩
set_option linter.unusedSimpArgs false in
set_option maxRecDepth 100000 in
set_option maxHeartbeats 3200000 in
theorem rnew_ok (n : Nat) (h4 : 4 ≤ n) (h5 : n ≤ 512) (w : World) : Calls Try.prog 11 #[.int .i64 (n : Int)] w fun e w' => ∃ q, e = .returned (.tuple #[.pointer (some ⟨q, 0, none⟩), .int .i64 0]) ∧ Ref w' q (rnewD n) (fun k => w.heap.size ≤ k ∧ k < w'.heap.size) ∧ Below w.heap.size w w' := by
  have t1 : ¬ (n : Int) < 4 := by omega
  have t2 : ¬ (512 : Int) < (n : Int) := by omega
  have HB1 : Hid (Below w.heap.size w w.drew) := (Below.refl _ _).drew
  go_enter Try.func11, Try.ntmps11
  go_wp2
  refine wp_region_held (S := fun _ => True) (by kernel_rfl) ?_
  change wpAnyH _ _ _ _ _ _ _ _ (World.drew _)
  generalize w.drew = W1 at *
  refine wpAnyH_take (i := 0) (v := .int .i64 (n : Int)) rfl (by kernel_rfl) (by kernel_rfl) (by kernel_rfl) (fun _ _ _ h => h) (Or.inl ⟨by rfl, by intro w _; go_simp⟩) trivial ?_
  simp only [List.getElem_toArray, List.getElem_cons_succ, List.getElem_cons_zero, Act.put, List.setIfInBounds_toArray, List.set_cons_zero, List.set_cons_succ]
  refine wpAnyH_take (i := 2) (v := .int .i64 (n : Int)) rfl (by kernel_rfl) (by kernel_rfl) (by kernel_rfl) (fun _ _ _ h => h) (Or.inl ⟨by rfl, by intro w _; go_simp⟩) trivial ?_
  simp only [List.getElem_toArray, List.getElem_cons_succ, List.getElem_cons_zero, Act.put, List.setIfInBounds_toArray, List.set_cons_zero, List.set_cons_succ]
  refine wpAnyH_ready (rs := [1, 3]) (by kernel_rfl) (by simp) (AllReadyH.cons (by simp only [List.getElem?_toArray, List.getElem?_cons_succ, List.getElem?_cons_zero]; rfl) (fun K hK => ?_) (AllReadyH.cons (by simp only [List.getElem?_toArray, List.getElem?_cons_succ, List.getElem?_cons_zero]; rfl) (fun K hK => ?_) AllReadyH.nil))

  · have hm1 := mk_ints n (by omega) W1
    refine step_plain rfl ?_
    go_simp
    refine hK.out _ _ trivial (fun _ => ?_)
    clear hK K
    try simp only [List.getElem_toArray, List.getElem_cons_succ, List.getElem_cons_zero, Act.put, List.setIfInBounds_toArray, List.set_cons_zero, List.set_cons_succ]
    clear hm1
    obtain ⟨W2, hW2⟩ : ∃ W2, W1.alloc (.cells (iv (List.replicate n 0)) 3) = W2 := ⟨_, rfl⟩
    rw [hW2]
    have HW2 : Hid _ := hW2
    clear hW2
    refine wpAnyH_ready (rs := [3]) (by kernel_rfl) (by simp) (AllReadyH.cons (by simp only [List.getElem?_toArray, List.getElem?_cons_succ, List.getElem?_cons_zero]; rfl) (fun K hK => ?_) AllReadyH.nil)
    have hm2 := mk_strs n (by omega) W2
    refine step_plain rfl ?_
    go_simp
    refine hK.out _ _ trivial (fun _ => ?_)
    clear hK K
    try simp only [List.getElem_toArray, List.getElem_cons_succ, List.getElem_cons_zero, Act.put, List.setIfInBounds_toArray, List.set_cons_zero, List.set_cons_succ]
    clear hm2
    obtain ⟨W3, hW3⟩ : ∃ W3, W2.alloc (.cells (sv (List.replicate n [])).toArray 9) = W3 := ⟨_, rfl⟩
    rw [hW3]
    have HW3 : Hid _ := hW3
    clear hW3
    have hbu := built_rdev (some ⟨W1.heap.size, 0, none⟩) (some ⟨W2.heap.size, 0, none⟩) n n n n
    refine wpAnyH_take (i := 4) (v := .agg #[.slice (some ⟨W1.heap.size, 0, none⟩) n n, .slice (some ⟨W2.heap.size, 0, none⟩) n n, .slice none 0 0, .bool false, .int .i64 0, .bool false, .int .i64 0, .slice none 0 0]) rfl (by kernel_rfl) (by kernel_rfl) (by kernel_rfl) (fun _ _ _ h => h) (Or.inl ⟨by rfl, by intro w _; go_simp⟩) trivial ?_
    simp only [List.getElem_toArray, List.getElem_cons_succ, List.getElem_cons_zero, Act.put, List.setIfInBounds_toArray, List.set_cons_zero, List.set_cons_succ]
    clear hbu
    refine wpAnyH_ready (rs := [5]) (by kernel_rfl) (by simp) (AllReadyH.cons (by simp only [List.getElem?_toArray, List.getElem?_cons_succ, List.getElem?_cons_zero]; rfl) (fun K hK => ?_) AllReadyH.nil)
    refine step_plain rfl ?_
    go_simp
    refine hK.out _ _ trivial (fun _ => ?_)
    clear hK K
    try simp only [List.getElem_toArray, List.getElem_cons_succ, List.getElem_cons_zero, Act.put, List.setIfInBounds_toArray, List.set_cons_zero, List.set_cons_succ]
    refine wpAnyH_take (i := 6) (v := .pointer (some ⟨W3.heap.size, 0, none⟩)) rfl (by kernel_rfl) (by kernel_rfl) (by kernel_rfl) (fun _ _ _ h => h) (Or.inl ⟨by rfl, by intro w _; go_simp⟩) trivial ?_
    simp only [List.getElem_toArray, List.getElem_cons_succ, List.getElem_cons_zero, Act.put, List.setIfInBounds_toArray, List.set_cons_zero, List.set_cons_succ]
    refine wpAnyH_take (i := 7) (v := .int .i64 0) rfl (by kernel_rfl) (by kernel_rfl) (by kernel_rfl) (fun _ _ _ h => h) (Or.inl ⟨by rfl, by intro w _; go_simp⟩) trivial ?_
    simp only [List.getElem_toArray, List.getElem_cons_succ, List.getElem_cons_zero, Act.put, List.setIfInBounds_toArray, List.set_cons_zero, List.set_cons_succ]
    refine wpAnyH_done (by kernel_rfl) ?_ _
    have HE : Hid _ := new_end1 n h4 h5 HB1.out HW2.out HW3.out
    clear HW2 HW3 HB1
    go_wp2
    go_ret2
    exact ⟨_, rfl, HE.out⟩
  · have hm1 := mk_strs n (by omega) W1
    refine step_plain rfl ?_
    go_simp
    refine hK.out _ _ trivial (fun _ => ?_)
    clear hK K
    try simp only [List.getElem_toArray, List.getElem_cons_succ, List.getElem_cons_zero, Act.put, List.setIfInBounds_toArray, List.set_cons_zero, List.set_cons_succ]
    clear hm1
    obtain ⟨W2, hW2⟩ : ∃ W2, W1.alloc (.cells (sv (List.replicate n [])).toArray 9) = W2 := ⟨_, rfl⟩
    rw [hW2]
    have HW2 : Hid _ := hW2
    clear hW2
    refine wpAnyH_ready (rs := [1]) (by kernel_rfl) (by simp) (AllReadyH.cons (by simp only [List.getElem?_toArray, List.getElem?_cons_succ, List.getElem?_cons_zero]; rfl) (fun K hK => ?_) AllReadyH.nil)
    have hm2 := mk_ints n (by omega) W2
    refine step_plain rfl ?_
    go_simp
    refine hK.out _ _ trivial (fun _ => ?_)
    clear hK K
    try simp only [List.getElem_toArray, List.getElem_cons_succ, List.getElem_cons_zero, Act.put, List.setIfInBounds_toArray, List.set_cons_zero, List.set_cons_succ]
    clear hm2
    obtain ⟨W3, hW3⟩ : ∃ W3, W2.alloc (.cells (iv (List.replicate n 0)) 3) = W3 := ⟨_, rfl⟩
    rw [hW3]
    have HW3 : Hid _ := hW3
    clear hW3
    have hbu := built_rdev (some ⟨W2.heap.size, 0, none⟩) (some ⟨W1.heap.size, 0, none⟩) n n n n
    refine wpAnyH_take (i := 4) (v := .agg #[.slice (some ⟨W2.heap.size, 0, none⟩) n n, .slice (some ⟨W1.heap.size, 0, none⟩) n n, .slice none 0 0, .bool false, .int .i64 0, .bool false, .int .i64 0, .slice none 0 0]) rfl (by kernel_rfl) (by kernel_rfl) (by kernel_rfl) (fun _ _ _ h => h) (Or.inl ⟨by rfl, by intro w _; go_simp⟩) trivial ?_
    simp only [List.getElem_toArray, List.getElem_cons_succ, List.getElem_cons_zero, Act.put, List.setIfInBounds_toArray, List.set_cons_zero, List.set_cons_succ]
    clear hbu
    refine wpAnyH_ready (rs := [5]) (by kernel_rfl) (by simp) (AllReadyH.cons (by simp only [List.getElem?_toArray, List.getElem?_cons_succ, List.getElem?_cons_zero]; rfl) (fun K hK => ?_) AllReadyH.nil)
    refine step_plain rfl ?_
    go_simp
    refine hK.out _ _ trivial (fun _ => ?_)
    clear hK K
    try simp only [List.getElem_toArray, List.getElem_cons_succ, List.getElem_cons_zero, Act.put, List.setIfInBounds_toArray, List.set_cons_zero, List.set_cons_succ]
    refine wpAnyH_take (i := 6) (v := .pointer (some ⟨W3.heap.size, 0, none⟩)) rfl (by kernel_rfl) (by kernel_rfl) (by kernel_rfl) (fun _ _ _ h => h) (Or.inl ⟨by rfl, by intro w _; go_simp⟩) trivial ?_
    simp only [List.getElem_toArray, List.getElem_cons_succ, List.getElem_cons_zero, Act.put, List.setIfInBounds_toArray, List.set_cons_zero, List.set_cons_succ]
    refine wpAnyH_take (i := 7) (v := .int .i64 0) rfl (by kernel_rfl) (by kernel_rfl) (by kernel_rfl) (fun _ _ _ h => h) (Or.inl ⟨by rfl, by intro w _; go_simp⟩) trivial ?_
    simp only [List.getElem_toArray, List.getElem_cons_succ, List.getElem_cons_zero, Act.put, List.setIfInBounds_toArray, List.set_cons_zero, List.set_cons_succ]
    refine wpAnyH_done (by kernel_rfl) ?_ _
    have HE : Hid _ := new_end2 n h4 h5 HB1.out HW2.out HW3.out
    clear HW2 HW3 HB1
    go_wp2
    go_ret2
    exact ⟨_, rfl, HE.out⟩
end Go.Proofs.Ythlaackalmgfnaa

namespace Go.Proofs.Ythlaackalmgfnaa
open Go.RowKit

theorem owns_some {w : World} {B : Nat} {e : TypeId} {v : Value} {n : Nat} {xs : List Value} {s : Nat} (h : w.ownsRow B e s v n xs) (hn : 0 < n) : ∃ g c, v = .slice (some ⟨g, 0, none⟩) n c := by
  rcases h.2 with ⟨q1, q2⟩ | ⟨g, cap, cur, q1, _⟩
  · omega
  · exact ⟨_, _, q1⟩
/-- A row of another kind stays. -/
theorem owns_diff {w w' : World} {B B' : Nat} {e e' : TypeId} (hne : e ≠ e') {v v' : Value} {n n' s s' : Nat} {xs xs' : List Value} (h : w.ownsRow B e s v n xs) (h' : w.ownsRow B' e' s' v' n' xs') (hg : w.grownBy w' v.ownBlock) : w'.ownsRow B' e' s' v' n' xs' := by
  refine World.ownsRow.kept h' hg ?_
  rcases h.2 with ⟨q1, _⟩ | ⟨g, _, cur, q1, _, hc, _⟩
  · rcases h'.2 with ⟨p1, _⟩ | ⟨g', _, cur', p1, _, hc', _⟩
    · rw [p1]; exact .inl rfl
    · rw [p1, q1]; exact .inr (by simp [Value.ownBlock])
  · rcases h'.2 with ⟨p1, _⟩ | ⟨g', _, cur', p1, _, hc', _⟩
    · rw [p1]; exact .inl rfl
    · rw [p1, q1]
      refine .inr fun e2 => ?_
      have : g' = g := by simpa [Value.ownBlock] using e2
      subst this
      rw [hc] at hc'
      simp at hc'
      exact hne hc'.2
theorem owns_rw {w : World} {B : Nat} {e : TypeId} {n c g : Nat} {xs : List Value} (h : w.ownsRow B e 1 (.slice (some ⟨g, 0, none⟩) n c) n xs) : Rw w g e xs := by
  rcases h.2 with ⟨q1, _⟩ | ⟨g', _, cur, q1, _, hc, _, _, _, ht⟩
  · cases q1
  · have : g' = g := by simp at q1; exact q1.1.symm
    subst this
    refine ⟨cur, hc, cur.toList.drop (n * 1), ?_⟩
    rw [← ht, List.take_append_drop]
theorem clone_end {w W : World} {r : Rv} {n gA gB cA cB : Nat} (hn : r.st.length = n) (hl : r.da.length = r.st.length) (h0 : 0 < n) (h5 : n ≤ 512) (hb : Below w.heap.size w W) (hA : W.ownsRow w.heap.size 3 1 (.slice (some ⟨gA, 0, none⟩) n cA) n (r.st.map (Value.int .i64))) (hB : W.ownsRow w.heap.size 9 1 (.slice (some ⟨gB, 0, none⟩) n cB) n (sv r.da)) :
    Ref (W.alloc (.cells #[.slice (some ⟨gA, 0, none⟩) n cA, .slice (some ⟨gB, 0, none⟩) n cB, .slice none 0 0, .bool false, .int .i64 0, .bool false, .int .i64 0, .slice none 0 0] 35)) W.heap.size (rcloneD r) (fun k => w.heap.size ≤ k ∧ k < (W.alloc (.cells #[.slice (some ⟨gA, 0, none⟩) n cA, .slice (some ⟨gB, 0, none⟩) n cB, .slice none 0 0, .bool false, .int .i64 0, .bool false, .int .i64 0, .slice none 0 0] 35)).heap.size) ∧ Below w.heap.size w (W.alloc (.cells #[.slice (some ⟨gA, 0, none⟩) n cA, .slice (some ⟨gB, 0, none⟩) n cB, .slice none 0 0, .bool false, .int .i64 0, .bool false, .int .i64 0, .slice none 0 0] 35)) := by
  refine ⟨?_, hb.alloc hb.size _⟩
  have lA := World.ownsRow.lt hA gA rfl
  have lB := World.ownsRow.lt hB gB rfl
  have s := hb.size
  have rA := owns_rw hA
  have rB := owns_rw hB
  have hne : gA ≠ gB := fun e => by
    subst e
    obtain ⟨c1, e1, _⟩ := rA
    obtain ⟨c2, e2, _⟩ := rB
    rw [e1] at e2
    simp at e2
  refine ref_fresh (st := r.st) (da := r.da) (a := gA) (b := gB) (ca := cA) (cb := cB) (by rw [heap_alloc_last, hn]) (rA.same (Below.heap_alloc _ _ _ (by omega))) (rB.same (Below.heap_alloc _ _ _ (by omega))) hl (by omega) (by omega) (by omega) (by omega) hne ⟨s, by simp⟩ ⟨lA.1, by simp; omega⟩ ⟨lB.1, by simp; omega⟩
set_option linter.unusedSimpArgs false in
set_option maxRecDepth 100000 in
set_option maxHeartbeats 3200000 in
theorem rclone_any {w : World} {q : Nat} {r : Rv} {O : Nat → Prop} (h : Ref w q r O) : Calls Try.prog 18 #[.pointer (some ⟨q, 0, none⟩)] w fun e w' => ∃ q', e = .returned (.pointer (some ⟨q', 0, none⟩)) ∧ Ref w' q' (rcloneD r) (fun k => w.heap.size ≤ k ∧ k < w'.heap.size) ∧ Below w.heap.size w w' := by
  obtain ⟨a, b, ca, cb, cv, kv, h⟩ := h
  obtain ⟨n, hn⟩ : ∃ n, r.st.length = n := ⟨_, rfl⟩
  have HN : Hid (r.st.length = n) := hn
  have HLd : Hid (r.da.length = r.st.length) := h.len
  have HPos : Hid (0 < n) := by rw [← hn]; exact h.pos
  have hn5 : n ≤ 512 := by rw [← hn]; exact h.small
  have HQ : Hid (∀ w', Below w.heap.size w w' → w'.cell? ⟨q, 0, none⟩ = some (.slice (some ⟨a, 0, none⟩) n ca)) := fun w' hb => by rw [← hn]; exact (h.below hb).c.1
  have HQ1 : Hid (∀ w', Below w.heap.size w w' → w'.cell? ⟨q, 1, none⟩ = some (.slice (some ⟨b, 0, none⟩) n cb)) := fun w' hb => by rw [← hn]; exact (h.below hb).c.2.1
  have HNI : Hid (∀ w', Below w.heap.size w w' → ∀ j u, (r.st.map (Value.int .i64))[j]? = some u → w'.cell? ((⟨a, 0, none⟩ : Addr).add j) = some u) := fun w' hb j u hj => by
    have := (h.below hb).st.cell j u hj
    rw [Addr.add_mid, Nat.zero_add]; exact this
  have HNT : Hid (∀ w', Below w.heap.size w w' → ∀ j u, (sv r.da)[j]? = some u → w'.cell? ((⟨b, 0, none⟩ : Addr).add j) = some u) := fun w' hb j u hj => by
    have := (h.below hb).da.cell j u hj
    rw [Addr.add_mid, Nat.zero_add]; exact this
  have HLI : Hid ((r.st.map (Value.int .i64)).length = n * 1) := by show _ = _; simp [hn]
  have HLT : Hid ((sv r.da).length = n * 1) := by show _ = _; simp [sv, h.len, hn]
  have HOI : Hid (∀ u ∈ r.st.map (Value.int .i64), u.oneCell' = true) := fun u hu => by
    simp only [List.mem_map] at hu
    obtain ⟨x, _, rfl⟩ := hu
    rfl
  have HOT : Hid (∀ u ∈ sv r.da, u.oneCell' = true) := fun u hu => by
    simp only [sv, List.mem_map] at hu
    obtain ⟨x, _, rfl⟩ := hu
    rfl
  obtain ⟨ia, i1, i2, i3, i4⟩ := info_int
  have HIA : Hid (Try.prog.info? 3 = some ia ∧ ia.zero = some (.int .i64 0) ∧ ia.size = 1 ∧ ia.bytes = 8) := ⟨i1, i2, i3, i4⟩
  obtain ⟨ib, k1, k2, k3, k4⟩ := info_string
  have HIB : Hid (Try.prog.info? 9 = some ib ∧ ib.zero = some (.string ⟨#[]⟩) ∧ ib.size = 1 ∧ ib.bytes = 16) := ⟨k1, k2, k3, k4⟩
  have HB0 : Hid (Below w.heap.size w w.drew) := (Below.refl _ _).drew
  clear h hn i1 i2 i3 i4 k1 k2 k3 k4
  go_enter Try.func18, Try.ntmps18
  go_wp2
  refine wp_region_held (S := fun w' => Below w.heap.size w w') (by kernel_rfl) ?_
  change wpAnyH _ _ _ _ _ _ _ _ (World.drew _)
  generalize w.drew = W0 at *
  refine wpAnyH_take (i := 1) (v := .pointer (some ⟨q, 0, none⟩)) rfl (by kernel_rfl) (by kernel_rfl) (by kernel_rfl) (fun _ _ _ h => h) (Or.inl ⟨by rfl, by intro w _; go_simp⟩) HB0.out ?_
  simp only [List.getElem_toArray, List.getElem_cons_succ, List.getElem_cons_zero, Act.put, List.setIfInBounds_toArray, List.set_cons_zero, List.set_cons_succ]
  refine wpAnyH_take (i := 2) (v := .pointer (some ⟨q, 0, none⟩)) rfl (by kernel_rfl) (by kernel_rfl) (by kernel_rfl) (fun _ _ _ h => h) (Or.inl ⟨by rfl, by intro w _; go_simp⟩) HB0.out ?_
  simp only [List.getElem_toArray, List.getElem_cons_succ, List.getElem_cons_zero, Act.put, List.setIfInBounds_toArray, List.set_cons_zero, List.set_cons_succ]
  refine wpAnyH_take (i := 3) (v := .pointer (some ⟨q, 0, none⟩)) rfl (by kernel_rfl) (by kernel_rfl) (by kernel_rfl) (fun _ _ _ h => h) (Or.inl ⟨by rfl, by intro w _; go_simp⟩) HB0.out ?_
  simp only [List.getElem_toArray, List.getElem_cons_succ, List.getElem_cons_zero, Act.put, List.setIfInBounds_toArray, List.set_cons_zero, List.set_cons_succ]
  refine wpAnyH_take (i := 4) (v := .slice (some ⟨a, 0, none⟩) n ca) rfl (by kernel_rfl) (by kernel_rfl) (by kernel_rfl) (fun _ _ _ h => h) (Or.inl ⟨by rfl, by intro w' hw; have hw1 := HQ.out w' hw; have hw2 := HQ1.out w' hw; go_simp⟩) HB0.out ?_
  simp only [List.getElem_toArray, List.getElem_cons_succ, List.getElem_cons_zero, Act.put, List.setIfInBounds_toArray, List.set_cons_zero, List.set_cons_succ]
  refine wpAnyH_take (i := 7) (v := .pointer (some ⟨q, 0, none⟩)) rfl (by kernel_rfl) (by kernel_rfl) (by kernel_rfl) (fun _ _ _ h => h) (Or.inl ⟨by rfl, by intro w _; go_simp⟩) HB0.out ?_
  simp only [List.getElem_toArray, List.getElem_cons_succ, List.getElem_cons_zero, Act.put, List.setIfInBounds_toArray, List.set_cons_zero, List.set_cons_succ]
  refine wpAnyH_take (i := 8) (v := .pointer (some ⟨q, 0, none⟩)) rfl (by kernel_rfl) (by kernel_rfl) (by kernel_rfl) (fun _ _ _ h => h) (Or.inl ⟨by rfl, by intro w _; go_simp⟩) HB0.out ?_
  simp only [List.getElem_toArray, List.getElem_cons_succ, List.getElem_cons_zero, Act.put, List.setIfInBounds_toArray, List.set_cons_zero, List.set_cons_succ]
  refine wpAnyH_take (i := 9) (v := .pointer (some ⟨q, 1, none⟩)) rfl (by kernel_rfl) (by kernel_rfl) (by kernel_rfl) (fun _ _ _ h => h) (Or.inl ⟨by rfl, by intro w _; go_simp⟩) HB0.out ?_
  simp only [List.getElem_toArray, List.getElem_cons_succ, List.getElem_cons_zero, Act.put, List.setIfInBounds_toArray, List.set_cons_zero, List.set_cons_succ]
  refine wpAnyH_take (i := 10) (v := .slice (some ⟨b, 0, none⟩) n cb) rfl (by kernel_rfl) (by kernel_rfl) (by kernel_rfl) (fun _ _ _ h => h) (Or.inl ⟨by rfl, by intro w' hw; have hw1 := HQ.out w' hw; have hw2 := HQ1.out w' hw; go_simp⟩) HB0.out ?_
  simp only [List.getElem_toArray, List.getElem_cons_succ, List.getElem_cons_zero, Act.put, List.setIfInBounds_toArray, List.set_cons_zero, List.set_cons_succ]
  refine wpAnyH_ready (rs := [0, 6]) (by kernel_rfl) (by simp) (AllReadyH.cons (by simp only [List.getElem?_toArray, List.getElem?_cons_succ, List.getElem?_cons_zero]; rfl) (fun K hK => ?_) (AllReadyH.cons (by simp only [List.getElem?_toArray, List.getElem?_cons_succ, List.getElem?_cons_zero]; rfl) (fun K hK => ?_) AllReadyH.nil))

  · refine step_plain rfl ?_
    go_simp
    have HB1 : Hid (Below w.heap.size w (W0.alloc (.cells #[] 3))) := HB0.out.alloc HB0.out.size _
    have HMI : Hid ((W0.alloc (.cells #[] 3)).ownsRow w.heap.size 3 1 (.slice (some ⟨W0.heap.size, 0, none⟩) 0 0) 0 []) := World.ownsRow_made W0 #[] 0 HB0.out.size (by simp [maxLen]) (by simp)
    refine hK.out _ _ HB1.out (fun _ => ?_)
    clear hK K
    try simp only [List.getElem_toArray, List.getElem_cons_succ, List.getElem_cons_zero, Act.put, List.setIfInBounds_toArray, List.set_cons_zero, List.set_cons_succ]
    obtain ⟨EI, hEI⟩ : ∃ E, W0.heap.size = E := ⟨_, rfl⟩
    rw [hEI] at HMI
    rw [hEI]
    clear hEI
    obtain ⟨W1, hW1⟩ : ∃ X, W0.alloc (.cells #[] 3) = X := ⟨_, rfl⟩
    rw [hW1] at HB1 HMI 
    rw [hW1]
    clear hW1
    refine wpAnyH_ready (rs := [5, 6]) (by kernel_rfl) (by simp) (AllReadyH.cons (by simp only [List.getElem?_toArray, List.getElem?_cons_succ, List.getElem?_cons_zero]; rfl) (fun K hK => ?_) (AllReadyH.cons (by simp only [List.getElem?_toArray, List.getElem?_cons_succ, List.getElem?_cons_zero]; rfl) (fun K hK => ?_) AllReadyH.nil))

    · refine step_plain rfl (wp_append_own _ _ _ 31 rfl w.heap.size 3 ia (.int .i64 0) 1 8 Try.underlying31 HIA.out.1 HIA.out.2.1 HIA.out.2.2.1 HIA.out.2.2.2 rfl (by omega) (.slice (some ⟨EI, 0, none⟩) 0 0) 0 [] rfl HMI.out ⟨a, 0, none⟩ n ca (r.st.map (Value.int .i64)) rfl HLI.out (HNI.out W1 HB1.out) HOI.out (by simp only [maxLen]; omega) (by omega) HB1.out.size ?_)
      intro vI W6 r1 r2 r3
      have HB6 : Hid (Below w.heap.size w W6) := HB1.out.grown r2 HB1.out.size (fun k hk => (World.ownsRow.lt HMI.out k hk).1)
      have HVI : Hid (W6.ownsRow w.heap.size 3 1 vI n (r.st.map (Value.int .i64))) := by have := r1; rw [Nat.zero_add, List.nil_append] at this; exact this
      clear r1 r2 r3
      refine hK.out _ _ HB6.out (fun _ => ?_)
      clear hK K
      try simp only [List.getElem_toArray, List.getElem_cons_succ, List.getElem_cons_zero, Act.put, List.setIfInBounds_toArray, List.set_cons_zero, List.set_cons_succ]
      refine wpAnyH_ready (rs := [6]) (by kernel_rfl) (by simp) (AllReadyH.cons (by simp only [List.getElem?_toArray, List.getElem?_cons_succ, List.getElem?_cons_zero]; rfl) (fun K hK => ?_) AllReadyH.nil)
      refine step_plain rfl ?_
      go_simp
      have HB7 : Hid (Below w.heap.size w (W6.alloc (.cells #[] 9))) := HB6.out.alloc HB6.out.size _
      have HMT : Hid ((W6.alloc (.cells #[] 9)).ownsRow w.heap.size 9 1 (.slice (some ⟨W6.heap.size, 0, none⟩) 0 0) 0 []) := World.ownsRow_made W6 #[] 0 HB6.out.size (by simp [maxLen]) (by simp)
      replace HVI : Hid _ := owns_below HVI.out (((Below.refl _ W6).alloc (Nat.le_refl _) (.cells #[] 9)))
      refine hK.out _ _ HB7.out (fun _ => ?_)
      clear hK K
      try simp only [List.getElem_toArray, List.getElem_cons_succ, List.getElem_cons_zero, Act.put, List.setIfInBounds_toArray, List.set_cons_zero, List.set_cons_succ]
      obtain ⟨ET, hET⟩ : ∃ E, W6.heap.size = E := ⟨_, rfl⟩
      rw [hET] at HMT
      rw [hET]
      clear hET
      obtain ⟨W7, hW7⟩ : ∃ X, W6.alloc (.cells #[] 9) = X := ⟨_, rfl⟩
      rw [hW7] at HB7 HMT HVI
      rw [hW7]
      clear hW7
      refine wpAnyH_ready (rs := [11]) (by kernel_rfl) (by simp) (AllReadyH.cons (by simp only [List.getElem?_toArray, List.getElem?_cons_succ, List.getElem?_cons_zero]; rfl) (fun K hK => ?_) AllReadyH.nil)
      refine step_plain rfl (wp_append_own _ _ _ 32 rfl w.heap.size 9 ib (.string ⟨#[]⟩) 1 16 Try.underlying32 HIB.out.1 HIB.out.2.1 HIB.out.2.2.1 HIB.out.2.2.2 rfl (by omega) (.slice (some ⟨ET, 0, none⟩) 0 0) 0 [] rfl HMT.out ⟨b, 0, none⟩ n cb (sv r.da) rfl HLT.out (HNT.out W7 HB7.out) HOT.out (by simp only [maxLen]; omega) (by omega) HB7.out.size ?_)
      intro vT W8 r1 r2 r3
      have HB8 : Hid (Below w.heap.size w W8) := HB7.out.grown r2 HB7.out.size (fun k hk => (World.ownsRow.lt HMT.out k hk).1)
      have HVT : Hid (W8.ownsRow w.heap.size 9 1 vT n (sv r.da)) := by have := r1; rw [Nat.zero_add, List.nil_append] at this; exact this
      replace HVI : Hid _ := owns_diff (by decide) HMT.out HVI.out r2
      clear r1 r2 r3
      refine hK.out _ _ HB8.out (fun _ => ?_)
      clear hK K
      try simp only [List.getElem_toArray, List.getElem_cons_succ, List.getElem_cons_zero, Act.put, List.setIfInBounds_toArray, List.set_cons_zero, List.set_cons_succ]
      obtain ⟨gA, cA', eA⟩ := owns_some HVI.out HPos.out
      obtain ⟨gB, cB', eB⟩ := owns_some HVT.out HPos.out
      subst eA
      subst eB
      have hbu := built_rdev (some ⟨gA, 0, none⟩) (some ⟨gB, 0, none⟩) n cA' n cB'
      refine wpAnyH_take (i := 12) (v := .agg #[.slice (some ⟨gA, 0, none⟩) n cA', .slice (some ⟨gB, 0, none⟩) n cB', .slice none 0 0, .bool false, .int .i64 0, .bool false, .int .i64 0, .slice none 0 0]) rfl (by kernel_rfl) (by kernel_rfl) (by kernel_rfl) (fun _ _ _ h => h) (Or.inl ⟨by rfl, by intro w _; go_simp⟩) HB8.out ?_
      simp only [List.getElem_toArray, List.getElem_cons_succ, List.getElem_cons_zero, Act.put, List.setIfInBounds_toArray, List.set_cons_zero, List.set_cons_succ]
      clear hbu
      refine wpAnyH_ready (rs := [13]) (by kernel_rfl) (by simp) (AllReadyH.cons (by simp only [List.getElem?_toArray, List.getElem?_cons_succ, List.getElem?_cons_zero]; rfl) (fun K hK => ?_) AllReadyH.nil)
      refine step_plain rfl ?_
      go_simp
      refine hK.out _ _ (HB8.out.alloc HB8.out.size _) (fun _ => ?_)
      clear hK K
      try simp only [List.getElem_toArray, List.getElem_cons_succ, List.getElem_cons_zero, Act.put, List.setIfInBounds_toArray, List.set_cons_zero, List.set_cons_succ]
      refine wpAnyH_take (i := 14) (v := .pointer (some ⟨W8.heap.size, 0, none⟩)) rfl (by kernel_rfl) (by kernel_rfl) (by kernel_rfl) (fun _ _ _ h => h) (Or.inl ⟨by rfl, by intro w _; go_simp⟩) (HB8.out.alloc HB8.out.size _) ?_
      simp only [List.getElem_toArray, List.getElem_cons_succ, List.getElem_cons_zero, Act.put, List.setIfInBounds_toArray, List.set_cons_zero, List.set_cons_succ]
      refine wpAnyH_done (by kernel_rfl) ?_ _
      have HE : Hid _ := clone_end HN.out HLd.out HPos.out hn5 HB8.out HVI.out HVT.out
      clear HVI HVT
      go_wp2
      go_ret
      exact ⟨_, rfl, HE.out⟩
    · refine step_plain rfl ?_
      go_simp
      have HB2 : Hid (Below w.heap.size w (W1.alloc (.cells #[] 9))) := HB1.out.alloc HB1.out.size _
      have HMT : Hid ((W1.alloc (.cells #[] 9)).ownsRow w.heap.size 9 1 (.slice (some ⟨W1.heap.size, 0, none⟩) 0 0) 0 []) := World.ownsRow_made W1 #[] 0 HB1.out.size (by simp [maxLen]) (by simp)
      replace HMI : Hid _ := owns_below HMI.out (((Below.refl _ W1).alloc (Nat.le_refl _) (.cells #[] 9)))
      refine hK.out _ _ HB2.out (fun _ => ?_)
      clear hK K
      try simp only [List.getElem_toArray, List.getElem_cons_succ, List.getElem_cons_zero, Act.put, List.setIfInBounds_toArray, List.set_cons_zero, List.set_cons_succ]
      obtain ⟨ET, hET⟩ : ∃ E, W1.heap.size = E := ⟨_, rfl⟩
      rw [hET] at HMT
      rw [hET]
      clear hET
      obtain ⟨W2, hW2⟩ : ∃ X, W1.alloc (.cells #[] 9) = X := ⟨_, rfl⟩
      rw [hW2] at HB2 HMT HMI
      rw [hW2]
      clear hW2
      refine wpAnyH_ready (rs := [5]) (by kernel_rfl) (by simp) (AllReadyH.cons (by simp only [List.getElem?_toArray, List.getElem?_cons_succ, List.getElem?_cons_zero]; rfl) (fun K hK => ?_) AllReadyH.nil)
      refine step_plain rfl (wp_append_own _ _ _ 31 rfl w.heap.size 3 ia (.int .i64 0) 1 8 Try.underlying31 HIA.out.1 HIA.out.2.1 HIA.out.2.2.1 HIA.out.2.2.2 rfl (by omega) (.slice (some ⟨EI, 0, none⟩) 0 0) 0 [] rfl HMI.out ⟨a, 0, none⟩ n ca (r.st.map (Value.int .i64)) rfl HLI.out (HNI.out W2 HB2.out) HOI.out (by simp only [maxLen]; omega) (by omega) HB2.out.size ?_)
      intro vI W3 r1 r2 r3
      have HB3 : Hid (Below w.heap.size w W3) := HB2.out.grown r2 HB2.out.size (fun k hk => (World.ownsRow.lt HMI.out k hk).1)
      have HVI : Hid (W3.ownsRow w.heap.size 3 1 vI n (r.st.map (Value.int .i64))) := by have := r1; rw [Nat.zero_add, List.nil_append] at this; exact this
      replace HMT : Hid _ := owns_diff (by decide) HMI.out HMT.out r2
      clear r1 r2 r3
      refine hK.out _ _ HB3.out (fun _ => ?_)
      clear hK K
      try simp only [List.getElem_toArray, List.getElem_cons_succ, List.getElem_cons_zero, Act.put, List.setIfInBounds_toArray, List.set_cons_zero, List.set_cons_succ]
      refine wpAnyH_ready (rs := [11]) (by kernel_rfl) (by simp) (AllReadyH.cons (by simp only [List.getElem?_toArray, List.getElem?_cons_succ, List.getElem?_cons_zero]; rfl) (fun K hK => ?_) AllReadyH.nil)
      refine step_plain rfl (wp_append_own _ _ _ 32 rfl w.heap.size 9 ib (.string ⟨#[]⟩) 1 16 Try.underlying32 HIB.out.1 HIB.out.2.1 HIB.out.2.2.1 HIB.out.2.2.2 rfl (by omega) (.slice (some ⟨ET, 0, none⟩) 0 0) 0 [] rfl HMT.out ⟨b, 0, none⟩ n cb (sv r.da) rfl HLT.out (HNT.out W3 HB3.out) HOT.out (by simp only [maxLen]; omega) (by omega) HB3.out.size ?_)
      intro vT W4 r1 r2 r3
      have HB4 : Hid (Below w.heap.size w W4) := HB3.out.grown r2 HB3.out.size (fun k hk => (World.ownsRow.lt HMT.out k hk).1)
      have HVT : Hid (W4.ownsRow w.heap.size 9 1 vT n (sv r.da)) := by have := r1; rw [Nat.zero_add, List.nil_append] at this; exact this
      replace HVI : Hid _ := owns_diff (by decide) HMT.out HVI.out r2
      clear r1 r2 r3
      refine hK.out _ _ HB4.out (fun _ => ?_)
      clear hK K
      try simp only [List.getElem_toArray, List.getElem_cons_succ, List.getElem_cons_zero, Act.put, List.setIfInBounds_toArray, List.set_cons_zero, List.set_cons_succ]
      obtain ⟨gA, cA', eA⟩ := owns_some HVI.out HPos.out
      obtain ⟨gB, cB', eB⟩ := owns_some HVT.out HPos.out
      subst eA
      subst eB
      have hbu := built_rdev (some ⟨gA, 0, none⟩) (some ⟨gB, 0, none⟩) n cA' n cB'
      refine wpAnyH_take (i := 12) (v := .agg #[.slice (some ⟨gA, 0, none⟩) n cA', .slice (some ⟨gB, 0, none⟩) n cB', .slice none 0 0, .bool false, .int .i64 0, .bool false, .int .i64 0, .slice none 0 0]) rfl (by kernel_rfl) (by kernel_rfl) (by kernel_rfl) (fun _ _ _ h => h) (Or.inl ⟨by rfl, by intro w _; go_simp⟩) HB4.out ?_
      simp only [List.getElem_toArray, List.getElem_cons_succ, List.getElem_cons_zero, Act.put, List.setIfInBounds_toArray, List.set_cons_zero, List.set_cons_succ]
      clear hbu
      refine wpAnyH_ready (rs := [13]) (by kernel_rfl) (by simp) (AllReadyH.cons (by simp only [List.getElem?_toArray, List.getElem?_cons_succ, List.getElem?_cons_zero]; rfl) (fun K hK => ?_) AllReadyH.nil)
      refine step_plain rfl ?_
      go_simp
      refine hK.out _ _ (HB4.out.alloc HB4.out.size _) (fun _ => ?_)
      clear hK K
      try simp only [List.getElem_toArray, List.getElem_cons_succ, List.getElem_cons_zero, Act.put, List.setIfInBounds_toArray, List.set_cons_zero, List.set_cons_succ]
      refine wpAnyH_take (i := 14) (v := .pointer (some ⟨W4.heap.size, 0, none⟩)) rfl (by kernel_rfl) (by kernel_rfl) (by kernel_rfl) (fun _ _ _ h => h) (Or.inl ⟨by rfl, by intro w _; go_simp⟩) (HB4.out.alloc HB4.out.size _) ?_
      simp only [List.getElem_toArray, List.getElem_cons_succ, List.getElem_cons_zero, Act.put, List.setIfInBounds_toArray, List.set_cons_zero, List.set_cons_succ]
      refine wpAnyH_done (by kernel_rfl) ?_ _
      have HE : Hid _ := clone_end HN.out HLd.out HPos.out hn5 HB4.out HVI.out HVT.out
      clear HVI HVT
      go_wp2
      go_ret
      exact ⟨_, rfl, HE.out⟩
  · refine step_plain rfl ?_
    go_simp
    have HB9 : Hid (Below w.heap.size w (W0.alloc (.cells #[] 9))) := HB0.out.alloc HB0.out.size _
    have HMT : Hid ((W0.alloc (.cells #[] 9)).ownsRow w.heap.size 9 1 (.slice (some ⟨W0.heap.size, 0, none⟩) 0 0) 0 []) := World.ownsRow_made W0 #[] 0 HB0.out.size (by simp [maxLen]) (by simp)
    refine hK.out _ _ HB9.out (fun _ => ?_)
    clear hK K
    try simp only [List.getElem_toArray, List.getElem_cons_succ, List.getElem_cons_zero, Act.put, List.setIfInBounds_toArray, List.set_cons_zero, List.set_cons_succ]
    obtain ⟨ET, hET⟩ : ∃ E, W0.heap.size = E := ⟨_, rfl⟩
    rw [hET] at HMT
    rw [hET]
    clear hET
    obtain ⟨W9, hW9⟩ : ∃ X, W0.alloc (.cells #[] 9) = X := ⟨_, rfl⟩
    rw [hW9] at HB9 HMT 
    rw [hW9]
    clear hW9
    refine wpAnyH_ready (rs := [0]) (by kernel_rfl) (by simp) (AllReadyH.cons (by simp only [List.getElem?_toArray, List.getElem?_cons_succ, List.getElem?_cons_zero]; rfl) (fun K hK => ?_) AllReadyH.nil)
    refine step_plain rfl ?_
    go_simp
    have HB10 : Hid (Below w.heap.size w (W9.alloc (.cells #[] 3))) := HB9.out.alloc HB9.out.size _
    have HMI : Hid ((W9.alloc (.cells #[] 3)).ownsRow w.heap.size 3 1 (.slice (some ⟨W9.heap.size, 0, none⟩) 0 0) 0 []) := World.ownsRow_made W9 #[] 0 HB9.out.size (by simp [maxLen]) (by simp)
    replace HMT : Hid _ := owns_below HMT.out (((Below.refl _ W9).alloc (Nat.le_refl _) (.cells #[] 3)))
    refine hK.out _ _ HB10.out (fun _ => ?_)
    clear hK K
    try simp only [List.getElem_toArray, List.getElem_cons_succ, List.getElem_cons_zero, Act.put, List.setIfInBounds_toArray, List.set_cons_zero, List.set_cons_succ]
    obtain ⟨EI, hEI⟩ : ∃ E, W9.heap.size = E := ⟨_, rfl⟩
    rw [hEI] at HMI
    rw [hEI]
    clear hEI
    obtain ⟨W10, hW10⟩ : ∃ X, W9.alloc (.cells #[] 3) = X := ⟨_, rfl⟩
    rw [hW10] at HB10 HMI HMT
    rw [hW10]
    clear hW10
    refine wpAnyH_ready (rs := [5]) (by kernel_rfl) (by simp) (AllReadyH.cons (by simp only [List.getElem?_toArray, List.getElem?_cons_succ, List.getElem?_cons_zero]; rfl) (fun K hK => ?_) AllReadyH.nil)
    refine step_plain rfl (wp_append_own _ _ _ 31 rfl w.heap.size 3 ia (.int .i64 0) 1 8 Try.underlying31 HIA.out.1 HIA.out.2.1 HIA.out.2.2.1 HIA.out.2.2.2 rfl (by omega) (.slice (some ⟨EI, 0, none⟩) 0 0) 0 [] rfl HMI.out ⟨a, 0, none⟩ n ca (r.st.map (Value.int .i64)) rfl HLI.out (HNI.out W10 HB10.out) HOI.out (by simp only [maxLen]; omega) (by omega) HB10.out.size ?_)
    intro vI W11 r1 r2 r3
    have HB11 : Hid (Below w.heap.size w W11) := HB10.out.grown r2 HB10.out.size (fun k hk => (World.ownsRow.lt HMI.out k hk).1)
    have HVI : Hid (W11.ownsRow w.heap.size 3 1 vI n (r.st.map (Value.int .i64))) := by have := r1; rw [Nat.zero_add, List.nil_append] at this; exact this
    replace HMT : Hid _ := owns_diff (by decide) HMI.out HMT.out r2
    clear r1 r2 r3
    refine hK.out _ _ HB11.out (fun _ => ?_)
    clear hK K
    try simp only [List.getElem_toArray, List.getElem_cons_succ, List.getElem_cons_zero, Act.put, List.setIfInBounds_toArray, List.set_cons_zero, List.set_cons_succ]
    refine wpAnyH_ready (rs := [11]) (by kernel_rfl) (by simp) (AllReadyH.cons (by simp only [List.getElem?_toArray, List.getElem?_cons_succ, List.getElem?_cons_zero]; rfl) (fun K hK => ?_) AllReadyH.nil)
    refine step_plain rfl (wp_append_own _ _ _ 32 rfl w.heap.size 9 ib (.string ⟨#[]⟩) 1 16 Try.underlying32 HIB.out.1 HIB.out.2.1 HIB.out.2.2.1 HIB.out.2.2.2 rfl (by omega) (.slice (some ⟨ET, 0, none⟩) 0 0) 0 [] rfl HMT.out ⟨b, 0, none⟩ n cb (sv r.da) rfl HLT.out (HNT.out W11 HB11.out) HOT.out (by simp only [maxLen]; omega) (by omega) HB11.out.size ?_)
    intro vT W12 r1 r2 r3
    have HB12 : Hid (Below w.heap.size w W12) := HB11.out.grown r2 HB11.out.size (fun k hk => (World.ownsRow.lt HMT.out k hk).1)
    have HVT : Hid (W12.ownsRow w.heap.size 9 1 vT n (sv r.da)) := by have := r1; rw [Nat.zero_add, List.nil_append] at this; exact this
    replace HVI : Hid _ := owns_diff (by decide) HMT.out HVI.out r2
    clear r1 r2 r3
    refine hK.out _ _ HB12.out (fun _ => ?_)
    clear hK K
    try simp only [List.getElem_toArray, List.getElem_cons_succ, List.getElem_cons_zero, Act.put, List.setIfInBounds_toArray, List.set_cons_zero, List.set_cons_succ]
    obtain ⟨gA, cA', eA⟩ := owns_some HVI.out HPos.out
    obtain ⟨gB, cB', eB⟩ := owns_some HVT.out HPos.out
    subst eA
    subst eB
    have hbu := built_rdev (some ⟨gA, 0, none⟩) (some ⟨gB, 0, none⟩) n cA' n cB'
    refine wpAnyH_take (i := 12) (v := .agg #[.slice (some ⟨gA, 0, none⟩) n cA', .slice (some ⟨gB, 0, none⟩) n cB', .slice none 0 0, .bool false, .int .i64 0, .bool false, .int .i64 0, .slice none 0 0]) rfl (by kernel_rfl) (by kernel_rfl) (by kernel_rfl) (fun _ _ _ h => h) (Or.inl ⟨by rfl, by intro w _; go_simp⟩) HB12.out ?_
    simp only [List.getElem_toArray, List.getElem_cons_succ, List.getElem_cons_zero, Act.put, List.setIfInBounds_toArray, List.set_cons_zero, List.set_cons_succ]
    clear hbu
    refine wpAnyH_ready (rs := [13]) (by kernel_rfl) (by simp) (AllReadyH.cons (by simp only [List.getElem?_toArray, List.getElem?_cons_succ, List.getElem?_cons_zero]; rfl) (fun K hK => ?_) AllReadyH.nil)
    refine step_plain rfl ?_
    go_simp
    refine hK.out _ _ (HB12.out.alloc HB12.out.size _) (fun _ => ?_)
    clear hK K
    try simp only [List.getElem_toArray, List.getElem_cons_succ, List.getElem_cons_zero, Act.put, List.setIfInBounds_toArray, List.set_cons_zero, List.set_cons_succ]
    refine wpAnyH_take (i := 14) (v := .pointer (some ⟨W12.heap.size, 0, none⟩)) rfl (by kernel_rfl) (by kernel_rfl) (by kernel_rfl) (fun _ _ _ h => h) (Or.inl ⟨by rfl, by intro w _; go_simp⟩) (HB12.out.alloc HB12.out.size _) ?_
    simp only [List.getElem_toArray, List.getElem_cons_succ, List.getElem_cons_zero, Act.put, List.setIfInBounds_toArray, List.set_cons_zero, List.set_cons_succ]
    refine wpAnyH_done (by kernel_rfl) ?_ _
    have HE : Hid _ := clone_end HN.out HLd.out HPos.out hn5 HB12.out HVI.out HVT.out
    clear HVI HVT
    go_wp2
    go_ret
    exact ⟨_, rfl, HE.out⟩
end Go.Proofs.Ythlaackalmgfnaa
