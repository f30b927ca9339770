/- find over numbers; the program's Free (layer 7). -/
import Derived.Test.YtbnfhhjgalphgaaY1
namespace Go.Proofs.Ytbnfhhjgalphgaa
open Go.RowKit

/-- Where the first one that is such stands, or the length. -/
def findI (P : Int → Bool) : List Int → Nat
  | [] => 0
  | x :: l => if P x then 0 else findI P l + 1
theorem findI_le (P : Int → Bool) : ∀ l, findI P l ≤ l.length
  | [] => Nat.le_refl _
  | x :: l => by
    have := findI_le P l
    unfold findI
    split
    · omega
    · simp; omega
theorem findI_skip {P : Int → Bool} : ∀ {l : List Int} {m : Nat}, m ≤ l.length → (∀ y ∈ l.take m, P y = false) → findI P l = m + findI P (l.drop m)
  | l, 0, _, _ => by simp
  | [], m + 1, hm, _ => by simp at hm
  | x :: l, m + 1, hm, h => by
    have hx := h x (by simp)
    have ih := findI_skip (l := l) (m := m) (by simpa using hm) (fun y hy => h y (by simp [hy]))
    rw [findI, hx]
    simp only [Bool.false_eq_true, if_false, List.drop_succ_cons]
    omega
theorem findI_at {P : Int → Bool} {l : List Int} {m : Nat} {x : Int} (h : ∀ y ∈ l.take m, P y = false) (hx : l[m]? = some x) (hp : P x = true) : findI P l = m := by
  have hlt := (List.getElem?_eq_some_iff.1 hx).1
  rw [findI_skip (by omega) h, List.drop_eq_getElem_cons hlt, (List.getElem?_eq_some_iff.1 hx).2, findI, if_pos hp]
  rfl
theorem findI_none {P : Int → Bool} {l : List Int} (h : ∀ y ∈ l, P y = false) : findI P l = l.length := by
  rw [findI_skip (Nat.le_refl _) (fun y hy => h y (List.mem_of_mem_take hy)), List.drop_length]
  rfl
theorem findI_before (P : Int → Bool) : ∀ (l : List Int), ∀ y ∈ l.take (findI P l), P y = false
  | [], y, hy => by simp at hy
  | x :: l, y, hy => by
    unfold findI at hy
    split at hy
    · simp at hy
    · rename_i hx
      simp only [List.take_succ_cons, List.mem_cons] at hy
      rcases hy with rfl | hy
      · simpa using hx
      · exact findI_before P l y hy
theorem findI_such (P : Int → Bool) : ∀ (l : List Int) (x : Int), l[findI P l]? = some x → P x = true
  | [], x, h => by simp [findI] at h
  | y :: l, x, h => by
    unfold findI at h
    split at h
    · rename_i hy
      obtain rfl : y = x := by simpa using h
      exact hy
    · exact findI_such P l x (by simpa using h)
set_option maxRecDepth 100000 in
set_option maxHeartbeats 1000000 in
theorem findI_any {w : World} {v : Value} {l : List Int} {P : Int → Bool} (F : FuncId) (h : NumsAt w v l) (hl : l.length ≤ 1000000) (heg : ∀ (args : Array Value) (w : World), (callFunc F args).run Try.prog w = .ok (.enter F args) w)
    (HCl : Hid (∀ (s : Int) (w1 : World), Calls Try.prog F #[.int .i64 s] w1 fun e w' => e = .returned (.bool (P s)) ∧ Below w1.heap.size w1 w')) :
    Calls Try.prog 32 #[v, .func (.func F) #[] #[]] w fun e w' => e = .returned (.int .i64 (findI P l)) ∧ Below w.heap.size w w' := by
  obtain ⟨a, q, rfl, -⟩ := id h
  have HL : Hid _ := h.cells.2
  clear h
  go_enter Try.func32, Try.ntmps32
  go_wp2
  go_loopw [9] (fun kv wr => ∃ m : Nat, m ≤ l.length ∧ kv = .int .i64 m ∧ (∀ y ∈ l.take m, P y = false) ∧ Below w.heap.size w wr) (fun kv _ => l.length - (intOf kv).toNat)
  case atStart => exact ⟨0, by omega, rfl, fun y hy => by simp at hy, Below.refl _ _⟩
  case round =>
    obtain ⟨m, hm, rfl, hno, hB⟩ := hrel
    by_cases hlt : m < l.length
    rotate_left
    · have hlt2 : ¬ (m : Int) < (l.length : Int) := by omega
      have HR : Hid (l.length = findI P l) := (findI_none (fun y hy => hno y (by rw [List.take_of_length_le (by omega)]; exact hy))).symm
      have HB : Hid _ := hB
      clear hno hB
      go_wp2
      go_ret
      exact ⟨by rw [← HR.out]; rfl, HB.out⟩
    obtain ⟨x, hx⟩ : ∃ x, l[m]? = some x := ⟨_, List.getElem?_eq_getElem hlt⟩
    obtain ⟨b, o, rfl, k1⟩ := HL.out m x hx
    have hlt2 : (m : Int) < (l.length : Int) := by omega
    have HR : Hid (P x = true → m = findI P l) := fun hp => (findI_at hno hx hp).symm
    have HN : Hid (P x = false → ∀ z ∈ l.take (m + 1), P z = false) := fun hp z hz => by
      rw [List.take_add_one, hx] at hz
      rcases List.mem_append.1 hz with hz | hz
      · exact hno z hz
      · simp at hz; rw [hz]; exact hp
    have c1 := k1 wr hB
    have HB : Hid (Below w.heap.size w wr) := hB
    have HT : Hid (Calls Try.prog F #[.int .i64 x] wr fun e w' => e = .returned (.bool (P x)) ∧ Below wr.heap.size wr w') := HCl.out x wr
    clear hB k1 hx hno
    generalize P x = p at *
    go_wp2_with fail
    refine HT.out.mono ?_
    rintro e w2 ⟨rfl, b2⟩
    have HB2 : Hid _ := HB.out.trans (b2.mono HB.out.size)
    clear b2 HT c1
    cases p with
    | true =>
      have HR2 : Hid _ := HR.out rfl
      go_wp2
      go_ret
      exact ⟨by rw [← HR2.out]; rfl, HB2.out⟩
    | false =>
      have HN2 : Hid _ := HN.out rfl
      go_wp2
      go_roundw
      case rel => exact ⟨m + 1, by omega, by go_num, HN2.out, HB2.out⟩
      case measure => simp [intOf]; omega
theorem eg_free1 : ∀ (args : Array Value) (w : World), (callFunc 33 args).run Try.prog w = .ok (.enter 33 args) w := fun args w => by
  simp [callFunc, Try.func33]
  rfl
theorem eg_free2 : ∀ (args : Array Value) (w : World), (callFunc 34 args).run Try.prog w = .ok (.enter 34 args) w := fun args w => by
  simp [callFunc, Try.func34]
  rfl
theorem free1_any (s : Int) (w : World) : Calls Try.prog 33 #[.int .i64 s] w fun e w' => e = .returned (.bool (s == 0)) ∧ Below w.heap.size w w' := by
  go_enter Try.func33, Try.ntmps33
  go_wp2
  go_ret
  exact ⟨rfl, Below.refl _ _⟩
theorem free2_any (s : Int) (w : World) : Calls Try.prog 34 #[.int .i64 s] w fun e w' => e = .returned (.bool (s != 0)) ∧ Below w.heap.size w w' := by
  go_enter Try.func34, Try.ntmps34
  go_wp2
  go_ret
  exact ⟨rfl, Below.refl _ _⟩
theorem free_skip {st : List Int} {a : Nat} : ∀ {n : Nat}, (∀ k, a ≤ k → k < a + n → blankB st k = false) → freeN st (a + n) = freeN st a
  | 0, _ => rfl
  | n + 1, h => by
    rw [← Nat.add_assoc, freeN, h (a + n) (by omega) (by omega)]
    exact free_skip fun k h1 h2 => h k h1 (by omega)
theorem free_run {st : List Int} {a : Nat} (h0 : a = 0 ∨ blankB st (a - 1) = false) : ∀ {n : Nat}, (∀ k, a ≤ k → k < a + (n + 1) → blankB st k = true) → freeN st (a + (n + 1)) = freeN st a ++ [⟨a, (n : Int) + 1⟩]
  | 0, h => by
    have hn : ¬ (0 < a ∧ blankB st (a - 1) = true) := by
      rintro ⟨h1, h2⟩
      rcases h0 with h0 | h0
      · omega
      · rw [h0] at h2; cases h2
    rw [Nat.zero_add, freeN, h a (by omega) (by omega), if_pos rfl, if_neg hn]
    rfl
  | n + 1, h => by
    have ih := free_run h0 (n := n) (fun k h1 h2 => h k h1 (by omega))
    rw [← Nat.add_assoc, freeN, h (a + (n + 1)) (by omega) (by omega), if_pos rfl, if_pos ⟨by omega, h _ (by omega) (by omega)⟩, ih, bump_snoc]
    congr 2
theorem blank_of {st : List Int} {a k : Nat} (h : ∀ y ∈ (st.drop a).take k, (y == 0) = false) : ∀ i, a ≤ i → i < a + k → blankB st i = false := fun i h1 h2 => by
  cases hx : st[i]? with
  | none => simp [blankB, hx]
  | some y =>
    have : y ∈ (st.drop a).take k := by
      have e : (st.drop a)[i - a]? = some y := by rw [List.getElem?_drop, show a + (i - a) = i by omega]; exact hx
      exact List.mem_of_getElem? (i := i - a) (by rw [List.getElem?_take, if_pos (by omega)]; exact e)
    have := h y this
    simp [blankB, hx]
    simpa using this
theorem blank_all {st : List Int} {a k : Nat} (hk : a + k ≤ st.length) (h : ∀ y ∈ (st.drop a).take k, (y != 0) = false) : ∀ i, a ≤ i → i < a + k → blankB st i = true := fun i h1 h2 => by
  cases hx : st[i]? with
  | none => rw [List.getElem?_eq_none_iff] at hx; omega
  | some y =>
    have : y ∈ (st.drop a).take k := by
      have e : (st.drop a)[i - a]? = some y := by rw [List.getElem?_drop, show a + (i - a) = i by omega]; exact hx
      exact List.mem_of_getElem? (i := i - a) (by rw [List.getElem?_take, if_pos (by omega)]; exact e)
    have := h y this
    simp [blankB, hx]
    simpa using this
/-- One round of Free, plainly. -/
theorem free_round {st : List Int} {a n c : Nat} (ha : a < st.length) (hinv : a = 0 ∨ blankB st a = false) (hn : n = findI (fun s => s == 0) (st.drop a)) (hc : c = findI (fun s => s != 0) (st.drop (a + n))) :
    a + n + c ≤ st.length ∧ a < a + n + c ∧ freeN st (a + n + c) = (if 0 < c then freeN st a ++ [⟨((a + n : Nat) : Int), c⟩] else freeN st a) ∧ (a + n + c = 0 ∨ blankB st (a + n + c) = false) := by
  have l1 := findI_le (fun s => s == 0) (st.drop a)
  have l2 := findI_le (fun s => s != 0) (st.drop (a + n))
  rw [← hn, List.length_drop] at l1
  rw [← hc, List.length_drop] at l2
  have hno : ∀ i, a ≤ i → i < a + n → blankB st i = false := blank_of (fun y hy => findI_before (fun s => s == 0) (st.drop a) y (hn ▸ hy))
  have hal : ∀ i, a + n ≤ i → i < a + n + c → blankB st i = true := blank_all (by omega) (fun y hy => findI_before (fun s => s != 0) (st.drop (a + n)) y (hc ▸ hy))
  have hsk := free_skip hno
  have hend : blankB st (a + n + c) = false := by
    cases hx : st[a + n + c]? with
    | none => simp [blankB, hx]
    | some y =>
      have e : (st.drop (a + n))[findI (fun s => s != 0) (st.drop (a + n))]? = some y := by rw [← hc, List.getElem?_drop]; exact hx
      have := findI_such (fun s => s != 0) _ y e
      simp [blankB, hx]
      simpa using this
  refine ⟨by omega, ?_, ?_, .inr hend⟩
  · by_cases h : a < a + n
    · omega
    · by_cases h2 : 0 < c
      · omega
      · exfalso
        have hn0 : n = 0 := by omega
        have hc0 : c = 0 := by omega
        cases hx : st[a]? with
        | none => rw [List.getElem?_eq_none_iff] at hx; omega
        | some y =>
          have e1 : (st.drop a)[findI (fun s => s == 0) (st.drop a)]? = some y := by rw [← hn, hn0, List.getElem?_drop]; exact hx
          have e2 : (st.drop (a + n))[findI (fun s => s != 0) (st.drop (a + n))]? = some y := by rw [← hc, hc0, hn0, List.getElem?_drop]; exact hx
          have k1 := findI_such (fun s => s == 0) _ y e1
          have k2 := findI_such (fun s => s != 0) _ y e2
          simp at k1 k2
          exact k2 k1
  · by_cases h2 : 0 < c
    · rw [if_pos h2]
      obtain ⟨m, rfl⟩ : ∃ m, c = m + 1 := ⟨c - 1, by omega⟩
      have h0 : a + n = 0 ∨ blankB st (a + n - 1) = false := by
        by_cases h : n = 0
        · subst h
          rcases hinv with h | h
          · exact .inl h
          · have := hal a (by omega) (by omega)
            rw [h] at this; cases this
        · exact .inr (hno _ (by omega) (by omega))
      rw [free_run h0 hal, hsk]
      rfl
    · rw [if_neg h2, show a + n + c = a + n by omega, hsk]
theorem NumsAt.rest {w : World} {b o n c : Nat} {l : List Int} (h : NumsAt w (.slice (some ⟨b, o, none⟩) n c) l) (i : Nat) (hi : i ≤ n) (hc : n ≤ c) : NumsAt w (.slice (if c = i then some ⟨b, o, none⟩ else some ⟨b, o + i, none⟩) (n - i) (c - i)) (l.drop i) := by
  obtain ⟨a', c', e, h⟩ := h
  simp at e
  obtain ⟨rfl, rfl, rfl⟩ := e
  refine ⟨_, _, by rw [List.length_drop], fun j s hj => ?_⟩
  have hl := (List.getElem?_eq_some_iff.1 hj).1
  rw [List.length_drop] at hl
  rw [List.getElem?_drop] at hj
  obtain ⟨b', o', e', hc⟩ := h (i + j) s hj
  simp at e'
  obtain ⟨rfl, rfl⟩ := e'
  refine ⟨_, o + i, by rw [if_neg (by omega)], ?_⟩
  rw [Nat.add_assoc]; exact hc
theorem NumsAt.below {w w' : World} {v : Value} {l : List Int} (h : NumsAt w v l) (hb : Below w.heap.size w w') : NumsAt w' v l := by
  obtain ⟨a, c, e, hh⟩ := h
  refine ⟨a, c, e, fun i r hi => ?_⟩
  obtain ⟨b, o, ea, h1⟩ := hh i r hi
  exact ⟨b, o, ea, cell_stays h1 hb⟩
end Go.Proofs.Ytbnfhhjgalphgaa
