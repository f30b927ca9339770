/- The law's states (layer 7); a list of numbers of one's own. -/
import Derived.Test.YtbnfhhjgalphgaaZi
namespace Go.Proofs.Ytbnfhhjgalphgaa
open Go.RowKit

/-- Small numbers that a slice holds. -/
def U8At (w : World) (v : Value) (l : List Int) : Prop := (∀ x ∈ l, 0 ≤ x ∧ x < 256) ∧ ∃ a c, v = .slice a l.length c ∧ ∀ i n, l[i]? = some n → ∃ b o, a = some ⟨b, o, none⟩ ∧ w.cell? ⟨b, o + i, none⟩ = some (.int .u8 n)
theorem U8At.below {w w' : World} {v : Value} {l : List Int} (h : U8At w v l) (hb : Below w.heap.size w w') : U8At w' v l := by
  obtain ⟨h0, a, c, e, hh⟩ := h
  refine ⟨h0, a, c, e, fun i r hi => ?_⟩
  obtain ⟨b, o, ea, h1⟩ := hh i r hi
  exact ⟨b, o, ea, cell_stays h1 hb⟩
/-- Blank or written, by numbers. -/
def stL (l : List Int) : List Int := l.map (· % 2)
theorem stL_length (l : List Int) : (stL l).length = l.length := by simp [stL]
/-- Numbers as cells. -/
def niv (l : List Int) : List Value := l.map (.int .i64)
theorem niv_length (l : List Int) : (niv l).length = l.length := by simp [niv]
theorem niv_snoc (l : List Int) (x : Int) : niv (l ++ [x]) = niv l ++ [.int .i64 x] := by simp [niv]
theorem info_num : ∃ i, Try.prog.info? 3 = some i ∧ i.zero = some (.int .i64 0) ∧ i.size = 1 ∧ i.bytes = 8 := by
  have h : (Try.prog.info? 3).map (fun i => (i.zero, i.size, i.bytes)) = some (some (.int .i64 0), 1, 8) := by kernel_rfl
  cases hq : Try.prog.info? 3 with
  | none => rw [hq] at h; cases h
  | some i =>
    rw [hq] at h
    simp at h
    exact ⟨i, rfl, h.1, h.2.1, h.2.2⟩
/-- A list of numbers of one's own. -/
structure Nu (w0 : World) (B : Nat) (v : Value) (M : List Int) (w : World) : Prop where
  below : Below B w0 w
  le : B ≤ w0.heap.size
  owns : w.ownsRow B 3 1 v M.length (niv M)
section
variable {w0 w w' : World} {B : Nat} {v v' : Value} {M N : List Int}
theorem Nu.size (h : Nu w0 B v M w) : B ≤ w.heap.size := Nat.le_trans h.le h.below.size
theorem Nu.next (h : Nu w0 B v M w) (hb : Below w.heap.size w w') : Nu w0 B v M w' := ⟨h.below.trans (hb.mono h.size), h.le, rowns_below h.owns hb⟩
theorem Nu.alloc (h : Nu w0 B v M w) (o : Obj) : Nu w0 B v M (w.alloc o) := h.next ((Below.refl _ _).alloc (Nat.le_refl _) _)
theorem Nu.grow (h : Nu w0 B v M w) (hg : w.grownBy w' v.ownBlock) (ho : w'.ownsRow B 3 1 v' N.length (niv N)) : Nu w0 B v' N w' :=
  ⟨h.below.grown hg h.size (fun j hj => (World.ownsRow.lt h.owns j hj).1), h.le, ho⟩
theorem Nu.slice (h : Nu w0 B v M w) : ∃ a c, v = .slice a M.length c ∧ M.length ≤ c := rowns_slice h.owns
theorem Nu.nums (h : Nu w0 B v M w) : NumsAt w v M := by
  obtain ⟨_, hh⟩ := h.owns
  rcases hh with ⟨h1, h2⟩ | ⟨g, cap, cur, h1, _, hg, _, _, _, htk⟩
  · refine ⟨none, 0, by rw [h1, h2], fun i n hi => ?_⟩
    have := (List.getElem?_eq_some_iff.1 hi).1
    omega
  · refine ⟨_, _, h1, fun i r hi => ⟨g, 0, rfl, ?_⟩⟩
    have hl := (List.getElem?_eq_some_iff.1 hi).1
    have g1 : (niv M)[i]? = some (.int .i64 r) := by rw [niv, List.getElem?_map, hi]; rfl
    rw [← htk, List.getElem?_take, if_pos (by omega)] at g1
    rw [cell_of_row _ _ _ _ _ _ hg, Nat.zero_add, ← Array.getElem?_toList]
    exact g1
end
theorem num_news (x : Int) {w : World} : ∀ j u, [Value.int .i64 x][j]? = some u → (w.alloc (.cells #[.int .i64 x] 3)).cell? ((⟨w.heap.size, 0, none⟩ : Addr).add j) = some u := fun j u hj => by
  have hj0 : j = 0 := by have := (List.getElem?_eq_some_iff.1 hj).1; simpa using this
  subst hj0
  obtain rfl := Option.some.inj hj
  exact (cell_of_row _ _ _ _ _ _ (heap_alloc_last w _)).trans rfl
theorem num_cell (x : Int) : ∀ u ∈ [Value.int .i64 x], u.oneCell' = true := fun u hu => by obtain rfl := List.mem_singleton.1 hu; rfl
set_option maxRecDepth 100000 in
set_option maxHeartbeats 2000000 in
theorem states_any {w : World} {v : Value} {l : List Int} (h : U8At w v l) (hl : l.length ≤ 1000) :
    Calls Try.prog 23 #[v] w fun e w' => ∃ a c, e = .returned (.slice a l.length c) ∧ Nu w w.heap.size (.slice a l.length c) (stL l) w' := by
  obtain ⟨h0, a, q, rfl, hc⟩ := h
  have HL : Hid (∀ i x, l[i]? = some x → (0 ≤ x ∧ x < 256) ∧ ∃ b o, a = some ⟨b, o, none⟩ ∧ ∀ w', Below w.heap.size w w' → w'.cell? ⟨b, o + i, none⟩ = some (.int .u8 x)) := fun i x hi => by
    obtain ⟨b, o, rfl, h1⟩ := hc i x hi
    exact ⟨h0 x (List.mem_of_getElem? hi), b, o, rfl, fun w' hb => cell_stays h1 hb⟩
  have HN0 : Hid (Nu w w.heap.size (.slice none 0 0) [] w) := ⟨Below.refl _ _, Nat.le_refl _, World.ownsRow_nil _ _ _ _⟩
  obtain ⟨ia, i1, i2, i3, i4⟩ := info_num
  have HIA : Hid (Try.prog.info? 3 = some ia ∧ ia.zero = some (.int .i64 0) ∧ ia.size = 1 ∧ ia.bytes = 8) := ⟨i1, i2, i3, i4⟩
  clear h0 hc i1 i2 i3 i4
  go_enter Try.func23, Try.ntmps23
  go_wp2
  go_loopw [3, 4] (fun ov iv wr => ∃ m : Nat, m ≤ l.length ∧ iv = .int .i64 m ∧ ∃ xa xc, ov = .slice xa m xc ∧ Nu w w.heap.size (.slice xa m xc) (stL (l.take m)) wr) (fun _ iv _ => l.length - (intOf iv).toNat)
  case atStart => exact ⟨0, Nat.zero_le _, rfl, none, 0, rfl, HN0.out⟩
  case round =>
    obtain ⟨m, hm, rfl, xa, xc, rfl, hM⟩ := hrel
    by_cases hlt : m < l.length
    rotate_left
    · obtain rfl : m = l.length := by omega
      rw [List.take_of_length_le (Nat.le_refl _)] at hM
      have hlt2 : ¬ ((l.length : Nat) : Int) < (l.length : Int) := by omega
      have HM : Hid _ := hM
      clear hM HN0
      go_wp2
      go_ret
      exact ⟨xa, xc, rfl, HM.out⟩
    obtain ⟨x, hx⟩ : ∃ x, l[m]? = some x := ⟨_, List.getElem?_eq_getElem hlt⟩
    obtain ⟨⟨x0, x1⟩, b, o, rfl, hk⟩ := HL.out m x hx
    have c1 := hk wr (hM.below)
    have hlt2 : (m : Int) < (l.length : Int) := by omega
    have hst : Hid (stL (l.take m) ++ [x % 2] = stL (l.take (m + 1))) := by show _ = _; rw [List.take_add_one, hx]; simp [stL]
    have hln : Hid ((stL (l.take m)).length = m) := by show _ = _; rw [stL_length, List.length_take]; omega
    obtain ⟨z, hz⟩ : ∃ z, x.tmod 2 = z := ⟨_, rfl⟩
    have hz2 : z = x % 2 := by rw [← hz]; exact Int.tmod_eq_emod_of_nonneg x0
    have z0 : 0 ≤ z ∧ z < 2 := by omega
    rw [← hz2] at hst
    have HY := hM.alloc (.cells #[.int .i64 z] 3)
    have hb : w.heap.size ≤ wr.heap.size := hM.below.size
    have HM : Hid (wr.alloc (.cells #[.int .i64 z] 3) = wr.alloc (.cells #[.int .i64 z] 3)) := rfl
    clear hM hx hk hz2 HN0
    go_wp2_with (first | (refine wpList_append_own _ rfl (.tmp 11) (.tmp 18) 35 rfl w.heap.size 3 ia (.int .i64 0) 1 8 Try.underlying35 HIA.out.1 HIA.out.2.1 HIA.out.2.2.1 HIA.out.2.2.2 rfl (by omega) (.slice xa m xc) m (niv (stL (l.take m))) rfl (by have := HY.owns; rwa [hln.out] at this) ⟨wr.heap.size, 0, none⟩ 1 1 [.int .i64 z] rfl rfl (num_news z) (num_cell z) (by simp only [maxLen]; omega) (by omega) HY.size ?_; intro v' w3 r1 r2 _; obtain ⟨ya, yc, rfl, _⟩ := rowns_slice r1; have HZ : Hid (Nu w w.heap.size (.slice ya (m + 1) yc) (stL (l.take (m + 1))) w3) := HY.grow r2 (by rw [← hst.out, niv_snoc, List.length_append, hln.out]; exact r1); clear r1 r2 HY c1) | fail)
    go_roundw
    case rel => exact ⟨m + 1, by omega, by go_num, ya, yc, rfl, HZ.out⟩
    case measure => simp [intOf]; omega
theorem has_take {l : List Rn} {m : Nat} {x : Rn} (hx : l[m]? = some x) (k : Int) : hasB (l.take (m + 1)) k = (hasB (l.take m) k || inB x k) := by
  rw [List.take_add_one, hx, hasB_append]
  simp [hasB]
theorem has_in {l : List Rn} {m : Nat} {x : Rn} (hx : l[m]? = some x) {k : Int} (h : inB x k = true) : hasB l k = true := List.any_eq_true.2 ⟨x, List.mem_of_getElem? hx, h⟩
end Go.Proofs.Ytbnfhhjgalphgaa
