/- Contracts of New, Clone, States. -/
import Derived.Test.YthlaackalmgfnaaDp
namespace Go.Proofs.Ythlaackalmgfnaa
open Go.RowKit

theorem new_bad (n : Int) (hn : n < 4 ∨ 512 < n) (w : World) : Calls Try.prog 10 #[.int .i64 n] w fun e w' => e = .returned (.tuple #[.pointer none, .int .i64 2]) ∧ w' = w := by
  by_cases h : n < 4
  · go_enter Try.func10, Try.ntmps10
    go_wp2
    go_ret2
    exact ⟨rfl, rfl⟩
  · have h2 : 512 < n := by omega
    clear hn
    go_enter Try.func10, Try.ntmps10
    go_wp2
    go_ret2
    exact ⟨rfl, rfl⟩
set_option maxRecDepth 100000 in
theorem new_ok (n : Nat) (h4 : 4 ≤ n) (h5 : n ≤ 512) (w : World) : Calls Try.prog 10 #[.int .i64 (n : Int)] w fun e w' => ∃ p, e = .returned (.tuple #[.pointer (some ⟨p, 0, none⟩), .int .i64 0]) ∧ Dev w' p (newD n) (fun k => w.heap.size ≤ k ∧ k < w'.heap.size) ∧ Below w.heap.size w w' := by
  obtain ⟨ia, i1, i2, i3, i4⟩ := info_block
  have hmk0 := run_makeSlice (P := Try.prog) w 53 89 ia (.agg (bc blank).toArray) Try.underlying53 i1 i2 .i64 .i64 n n (by omega) (by omega) (by rw [i3, Int.toNat_natCast]; omega) (by rw [i4]; omega) (by omega)
  rw [i3, Int.toNat_natCast] at hmk0
  obtain ⟨Z, hZ⟩ : ∃ Z, madeCells (bc blank).toArray (n * 129) = Z := ⟨_, rfl⟩
  have hmk : (Instr.makeSlice 53 (.int .i64 (n : Int)) (.int .i64 (n : Int))).run Try.prog w = .ok (.slice (some ⟨w.heap.size, 0, none⟩) n n) (w.alloc (.cells Z 89)) := by rw [← hZ]; exact hmk0
  have hR : Rw (w.alloc (.cells Z 89)) w.heap.size 89 (rc (List.replicate n blank)) := ⟨Z, heap_alloc_last _ _, [], by rw [← hZ, made_blocks, List.append_nil]⟩
  have hrun := running_any (c := n) hR (by simpa using h5) (by simp; omega)
  simp only [List.length_replicate] at hrun
  have HRun : Hid (Calls Try.prog 36 #[.slice (some ⟨w.heap.size, 0, none⟩) n n] (w.alloc (.cells Z 89)) fun e w' => ∃ p, e = .returned (.pointer (some ⟨p, 0, none⟩)) ∧ Dev w' p (newD n) (fun k => w.heap.size ≤ k ∧ k < w'.heap.size) ∧ Below w.heap.size w w') := by
    refine hrun.mono ?_
    rintro e w' ⟨p, rfl, h1, h2, _⟩
    have hs := h2.size
    simp at hs
    refine ⟨p, rfl, h1.mono fun k hk => ?_, ((Below.refl _ _).alloc (Nat.le_refl _) _).trans (h2.mono (by simp))⟩
    rcases hk with hk | hk
    · subst hk; exact ⟨Nat.le_refl _, by omega⟩
    · have := hk.1; simp at this; exact ⟨by omega, hk.2⟩
  clear hrun hR i1 i2 i3 i4 hZ hmk0
  have t1 : ¬ (n : Int) < 4 := by omega
  have t2 : ¬ (512 : Int) < (n : Int) := by omega
  clear h4 h5
  go_enter Try.func10, Try.ntmps10
  go_wp2_with fail
  refine HRun.out.mono ?_
  rintro e w1 ⟨p, rfl, h1⟩
  have H1 : Hid _ := h1
  clear h1 HRun hmk
  go_wp2
  go_ret2
  exact ⟨p, rfl, H1.out⟩
set_option maxRecDepth 100000 in
theorem clone_dev {w : World} {p : Nat} {d : Dv} {O : Nat → Prop} (h : Dev w p d O) : Calls Try.prog 17 #[.pointer (some ⟨p, 0, none⟩)] w fun e w' => ∃ q, e = .returned (.pointer (some ⟨q, 0, none⟩)) ∧ Dev w' q (runD d.sure) (fun k => w.heap.size ≤ k ∧ k < w'.heap.size) ∧ Below w.heap.size w w' := by
  have hn := isNone_dev h
  obtain ⟨a, b, ca, cb, cv, fv, kv, h⟩ := h
  obtain ⟨c0, -⟩ := h.c
  have HC : Hid (Calls Try.prog 50 #[.slice (some ⟨a, 0, none⟩) d.sure.length ca] w fun e w' => ∃ g' c', e = .returned (.slice (some ⟨g', 0, none⟩) d.sure.length c') ∧ Rw w' g' 89 (rc d.sure) ∧ w.heap.size ≤ g' ∧ Below w.heap.size w w') := clone_blocks h.sure h.small h.pos
  have HRu : Hid (∀ (w1 : World) (g c : Nat), Rw w1 g 89 (rc d.sure) → Calls Try.prog 36 #[.slice (some ⟨g, 0, none⟩) d.sure.length c] w1 fun e w' => ∃ p, e = .returned (.pointer (some ⟨p, 0, none⟩)) ∧ Dev w' p (runD d.sure) (fun k => k = g ∨ (w1.heap.size ≤ k ∧ k < w'.heap.size)) ∧ Below w1.heap.size w1 w' ∧ w1.heap.size ≤ p) := fun w1 g c hg => running_any hg h.small h.pos
  clear h
  go_enter Try.func17, Try.ntmps17
  go_wp2_with (go_at_call 49; refine hn.mono ?_; rintro e w' ⟨rfl, rfl⟩)
  refine HC.out.mono ?_
  rintro e w1 ⟨g', c', rfl, h1, h2, h3⟩
  have hlt := h1.lt
  have HRu1 : Hid (Calls Try.prog 36 #[.slice (some ⟨g', 0, none⟩) d.sure.length c'] w1 fun e w2 => ∃ p, e = .returned (.pointer (some ⟨p, 0, none⟩)) ∧ Dev w2 p (runD d.sure) (fun k => w'.heap.size ≤ k ∧ k < w2.heap.size) ∧ Below w'.heap.size w' w2) := by
    refine (HRu.out w1 g' c' h1).mono ?_
    rintro e w2 ⟨p, rfl, q1, q2, _⟩
    have s1 := h3.size
    have s2 := q2.size
    refine ⟨p, rfl, q1.mono fun k hk => ?_, h3.trans (q2.mono (by omega))⟩
    rcases hk with hk | hk
    · exact ⟨by omega, by omega⟩
    · exact ⟨by omega, hk.2⟩
  clear HC HRu h1 h2 h3 hlt c0
  go_wp2_with fail
  refine HRu1.out.mono ?_
  rintro e w2 ⟨q, rfl, h4⟩
  have H4 : Hid _ := h4
  clear h4 HRu1
  go_wp2
  go_ret
  exact ⟨q, rfl, H4.out⟩
/-- Numbers as cells. -/
def iv (l : List Int) : Array Value := (l.map (Value.int .i64)).toArray
theorem iv_size (l : List Int) : (iv l).size = l.length := by simp [iv]
theorem iv_get (l : List Int) (i : Nat) (n : Int) (h : l[i]? = some n) : (iv l)[i]? = some (.int .i64 n) := by
  unfold iv
  rw [List.getElem?_toArray, List.getElem?_map, h]; rfl
theorem iv_set (l : List Int) (i : Nat) (n : Int) : (iv l).setIfInBounds i (.int .i64 n) = iv (l.set i n) := by
  unfold iv
  simp [List.setIfInBounds_toArray, List.map_set]
theorem ints_row {w : World} {g : Nat} {l : List Int} {c : Nat} {t : TypeId} (h : w.heap[g]? = some (.cells (iv l) t (0, 0))) : IntsAt w (.slice (some ⟨g, 0, none⟩) l.length c) l :=
  ⟨_, _, rfl, fun i n hi => ⟨g, 0, rfl, by rw [cell_of_row _ _ _ _ _ _ h, Nat.zero_add]; exact iv_get l i n hi⟩⟩
theorem zeros_made (n : Nat) : madeCells #[Value.int .i64 0] n = iv (List.replicate n 0) := by
  apply Array.ext_getElem?
  intro i
  by_cases hi : i < n
  · rw [iv_get _ i 0 (by rw [List.getElem?_replicate, if_pos hi])]
    unfold madeCells
    rw [Array.getElem?_map, Array.getElem?_range, if_pos hi]
    have e : i % (#[Value.int .i64 0] : Array Value).size = 0 := by simp [Nat.mod_one]
    show some (#[Value.int .i64 0][i % (#[Value.int .i64 0] : Array Value).size]!) = _
    rw [e]; rfl
  · rw [Array.getElem?_eq_none (by rw [size_madeCells]; omega), Array.getElem?_eq_none (by rw [iv_size]; simp; omega)]
theorem mk_ints (n : Nat) (hn : n ≤ 1000000) (w : World) : (Instr.makeSlice 31 (.int .i64 (n : Int)) (.int .i64 (n : Int))).run Try.prog w = .ok (.slice (some ⟨w.heap.size, 0, none⟩) n n) (w.alloc (.cells (iv (List.replicate n 0)) 3)) := by
  rw [← zeros_made]
  exact run_make_row' 31 3 (.int .i64 0) 8 Try.underlying31 (by kernel_rfl) rfl .i64 .i64 n (by omega) (by omega) w
/-- What all blocks are told to be. -/
def statesD (d : Dv) : List Int := d.told.map fun b => (b.st : Int)
theorem statesD_len (d : Dv) : (statesD d).length = d.told.length := by simp [statesD]
theorem fill_set (l : List Int) (n m : Nat) (x : Int) (hl : l.length = n) (h : l[m]? = some x) : (l.take m ++ List.replicate (n - m) 0).set m x = l.take (m + 1) ++ List.replicate (n - (m + 1)) 0 := by
  have hm := (List.getElem?_eq_some_iff.1 h).1
  rw [List.set_append_right _ _ (by simp; omega), List.length_take, Nat.min_eq_left (by omega), Nat.sub_self, List.take_add_one, h, show n - m = (n - (m + 1)) + 1 by omega, List.replicate_succ]
  simp
set_option maxRecDepth 100000 in
theorem states_dev {w : World} {p : Nat} {d : Dv} {O : Nat → Prop} (h : Dev w p d O) : Calls Try.prog 24 #[.pointer (some ⟨p, 0, none⟩)] w fun e w' => ∃ v, e = .returned v ∧ IntsAt w' v (statesD d) ∧ (∀ i, v.ownBlock = some i → w.heap.size ≤ i ∧ i < w'.heap.size) ∧ Below w.heap.size w w' := by
  have hn := isNone_dev h
  obtain ⟨a, b, ca, cb, cv, fv, kv, h⟩ := h
  obtain ⟨-, c1, -⟩ := h.c
  have hsm := h.small
  have hpl := (h.own p (by simp [blocks])).2
  have hbl := (h.own b (by simp [blocks])).2
  have hmk := mk_ints d.sure.length (by omega) w
  obtain ⟨L, hL⟩ : ∃ L, statesD d = L := ⟨_, rfl⟩
  have hLl : L.length = d.sure.length := by rw [← hL, statesD_len, h.len]
  have HC : Hid (∀ (m : Nat) (x : Int), L[m]? = some x → ∀ wr : World, Below w.heap.size w wr → wr.cell? ⟨b, m * 129, none⟩ = some (.int .i64 x)) := fun m x hx wr hb => by
    rw [World.cell?_of_block (hb.block b hbl)]
    rw [← hL] at hx
    unfold statesD at hx
    rw [List.getElem?_map] at hx
    cases hq : d.told[m]? with
    | none => rw [hq] at hx; cases hx
    | some y =>
      rw [hq] at hx
      have e : (y.st : Int) = x := by simpa using hx
      refine h.told.cell _ _ ?_
      have := rc_get d.told m 0 y hq (by omega)
      rw [Nat.add_zero] at this
      rw [this, ← e]; rfl
  have HP : Hid (∀ wr : World, Below w.heap.size w wr → wr.cell? ⟨p, 1, none⟩ = some (.slice (some ⟨b, 0, none⟩) d.sure.length cb)) := fun wr hb => by
    rw [World.cell?_of_block (hb.block p hpl)]; exact c1
  have HST : Hid (Below w.heap.size w (w.alloc (.cells (iv (List.replicate d.sure.length 0)) 3)) ∧ (w.alloc (.cells (iv (List.replicate d.sure.length 0)) 3)).heap[w.heap.size]? = some (.cells (iv (L.take 0 ++ List.replicate (d.sure.length - 0) 0)) 3 (0, 0))) := ⟨(Below.refl _ _).alloc (Nat.le_refl _) _, by simpa using heap_alloc_last w _⟩
  rw [hL]
  clear h hL
  generalize d.sure.length = n at *
  go_enter Try.func24, Try.ntmps24
  go_wp2_with (go_at_call 49; refine hn.mono ?_; rintro e w' ⟨rfl, rfl⟩)
  clear hmk hn
  go_loopw [15] (fun i wr => ∃ m : Nat, m ≤ n ∧ i = .int .i64 m ∧ Below w'.heap.size w' wr ∧ wr.heap[w'.heap.size]? = some (.cells (iv (L.take m ++ List.replicate (n - m) 0)) 3 (0, 0))) (fun i _ => n - (intOf i).toNat)
  case atStart => exact ⟨0, by omega, rfl, HST.out⟩
  case round =>
    obtain ⟨m, hm, rfl, hB, hG⟩ := hrel
    clear HST c1
    by_cases hlt : m < n
    · have hx : L[m]? = some (L[m]'(by omega)) := List.getElem?_eq_getElem _
      have c0 := HC.out m _ hx wr hB
      have cp := HP.out wr hB
      obtain ⟨v0, c1⟩ : ∃ v, wr.cell? ⟨w'.heap.size, m, none⟩ = some v := by
        rw [cell_of_row _ _ _ _ _ _ hG]; exact ⟨_, Array.getElem?_eq_getElem (by rw [iv_size]; simp; omega)⟩
      have f1 : wr.frozen? ⟨w'.heap.size, m, none⟩ = false := frozen_of_row _ _ _ _ _ hG
      have hlt2 : (m : Int) < (n : Int) := by omega
      have HN : Hid (Below w'.heap.size w' (wr.setCell ⟨w'.heap.size, m, none⟩ (.int .i64 (L[m]'(by omega)))) ∧ (wr.setCell ⟨w'.heap.size, m, none⟩ (.int .i64 (L[m]'(by omega)))).heap[w'.heap.size]? = some (.cells (iv (L.take (m + 1) ++ List.replicate (n - (m + 1)) 0)) 3 (0, 0))) :=
        ⟨hB.setCell (Nat.le_refl _) _, by rw [heap_set_same hG, iv_set, fill_set L n m _ hLl hx]⟩
      clear hB hG hx
      generalize L[m]'(by omega) = xm at *
      go_wp2
      go_roundw
      case rel => exact ⟨m + 1, by omega, by go_num, HN.out⟩
      case measure => simp [intOf]; omega
    · obtain rfl : m = n := by omega
      have HG : Hid (wr.heap[w'.heap.size]? = some (.cells (iv L) 3 (0, 0))) := by
        have := hG
        rw [List.take_of_length_le (by omega), Nat.sub_self, List.replicate_zero, List.append_nil] at this
        exact this
      have HB : Hid _ := hB
      clear hB hG HC HP
      go_wp2
      go_ret
      refine ⟨_, rfl, ?_, fun i hi => ?_, HB.out⟩
      · have := ints_row (c := m) HG.out
        rw [hLl] at this
        exact this
      · simp [Value.ownBlock] at hi
        subst hi
        exact ⟨Nat.le_refl _, (Array.getElem?_eq_some_iff.1 HG.out).1⟩
end Go.Proofs.Ythlaackalmgfnaa
