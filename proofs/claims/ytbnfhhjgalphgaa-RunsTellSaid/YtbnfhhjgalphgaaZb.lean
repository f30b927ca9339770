/- The program's closures, and find over runs with any of them (layer 7). -/
import Derived.Test.YtbnfhhjgalphgaaZa
namespace Go.Proofs.Ytbnfhhjgalphgaa
open Go.RowKit

/-- Where the first one that is such stands, or the length. -/
def findN (P : Rn → Bool) : List Rn → Nat
  | [] => 0
  | x :: l => if P x then 0 else findN P l + 1
theorem findN_le (P : Rn → Bool) : ∀ l, findN P l ≤ l.length
  | [] => Nat.le_refl _
  | x :: l => by
    have := findN_le P l
    unfold findN
    split
    · omega
    · simp; omega
theorem findN_skip {P : Rn → Bool} : ∀ {l : List Rn} {m : Nat}, m ≤ l.length → (∀ y ∈ l.take m, P y = false) → findN P l = m + findN P (l.drop m)
  | l, 0, _, _ => by simp
  | [], m + 1, hm, _ => by simp at hm
  | x :: l, m + 1, hm, h => by
    have hx := h x (by simp)
    have ih := findN_skip (l := l) (m := m) (by simpa using hm) (fun y hy => h y (by simp [hy]))
    rw [findN, hx]
    simp only [Bool.false_eq_true, if_false, List.drop_succ_cons]
    omega
theorem findN_at {P : Rn → Bool} {l : List Rn} {m : Nat} {x : Rn} (h : ∀ y ∈ l.take m, P y = false) (hx : l[m]? = some x) (hp : P x = true) : findN P l = m := by
  have hlt := (List.getElem?_eq_some_iff.1 hx).1
  rw [findN_skip (by omega) h, List.drop_eq_getElem_cons hlt, (List.getElem?_eq_some_iff.1 hx).2, findN, if_pos hp]
  rfl
theorem findN_none {P : Rn → Bool} {l : List Rn} (h : ∀ y ∈ l, P y = false) : findN P l = l.length := by
  rw [findN_skip (Nat.le_refl _) (fun y hy => h y (List.mem_of_mem_take hy)), List.drop_length]
  rfl
theorem findN_before (P : Rn → Bool) : ∀ (l : List Rn), ∀ y ∈ l.take (findN P l), P y = false
  | [], y, hy => by simp at hy
  | x :: l, y, hy => by
    unfold findN at hy
    split at hy
    · simp at hy
    · rename_i hx
      simp only [List.take_succ_cons, List.mem_cons] at hy
      rcases hy with rfl | hy
      · simpa using hx
      · exact findN_before P l y hy
theorem findN_such (P : Rn → Bool) : ∀ (l : List Rn) (x : Rn), l[findN P l]? = some x → P x = true
  | [], x, h => by simp [findN] at h
  | y :: l, x, h => by
    unfold findN at h
    split at h
    · rename_i hy
      obtain rfl : y = x := by simpa using h
      exact hy
    · exact findN_such P l x (by simpa using h)
/-- A function value over runs, with one variable of its caller, that says P. -/
def FnSays (w : World) (fv : Value) (P : Rn → Bool) : Prop :=
  ∃ (F : FuncId) (B : Nat), fv = .func (.func F) #[] #[.pointer (some ⟨B, 0, none⟩)] ∧ (∀ (args : Array Value) (w : World), (callFunc F args).run Try.prog w = .ok (.enter F args) w) ∧
    ∀ (r : Rn) (w1 : World), (-9223372036854775808 ≤ r.s + r.c ∧ r.s + r.c < 9223372036854775808) → Below w.heap.size w w1 → Calls Try.prog F #[.agg #[.int .i64 r.s, .int .i64 r.c], .pointer (some ⟨B, 0, none⟩)] w1 fun e w' => e = .returned (.bool (P r)) ∧ Below w1.heap.size w1 w'
set_option maxRecDepth 100000 in
set_option maxHeartbeats 1000000 in
theorem find_any {w : World} {v fv : Value} {l : List Rn} {P : Rn → Bool} (h : RunsAt w v l) (hl : l.length ≤ 1000000) (hf : ∀ r ∈ l, -9223372036854775808 ≤ r.s + r.c ∧ r.s + r.c < 9223372036854775808) (hfn : FnSays w fv P) :
    Calls Try.prog 25 #[v, fv] w fun e w' => e = .returned (.int .i64 (findN P l)) ∧ Below w.heap.size w w' := by
  obtain ⟨a, q, rfl, -⟩ := id h
  obtain ⟨F, B, rfl, heg, HCl⟩ := hfn
  have HCl : Hid _ := HCl
  have HL : Hid _ := h.cells.2
  clear h
  go_enter Try.func25, Try.ntmps25
  go_wp2
  go_loopw [9] (fun kv wr => ∃ m : Nat, m ≤ l.length ∧ kv = .int .i64 m ∧ (∀ y ∈ l.take m, P y = false) ∧ Below w.heap.size w wr) (fun kv _ => l.length - (intOf kv).toNat)
  case atStart => exact ⟨0, by omega, rfl, fun y hy => by simp at hy, Below.refl _ _⟩
  case round =>
    obtain ⟨m, hm, rfl, hno, hB⟩ := hrel
    by_cases hlt : m < l.length
    rotate_left
    · have hlt2 : ¬ (m : Int) < (l.length : Int) := by omega
      have HR : Hid (l.length = findN P l) := (findN_none (fun y hy => hno y (by rw [List.take_of_length_le (by omega)]; exact hy))).symm
      have HB : Hid _ := hB
      clear hno hB
      go_wp2
      go_ret
      exact ⟨by rw [← HR.out]; rfl, HB.out⟩
    obtain ⟨x, hx⟩ : ∃ x, l[m]? = some x := ⟨_, List.getElem?_eq_getElem hlt⟩
    obtain ⟨b, o, rfl, k1⟩ := HL.out m x hx
    have hlt2 : (m : Int) < (l.length : Int) := by omega
    have HR : Hid (P x = true → m = findN P l) := fun hp => (findN_at hno hx hp).symm
    have HN : Hid (P x = false → ∀ z ∈ l.take (m + 1), P z = false) := fun hp z hz => by
      rw [List.take_add_one, hx] at hz
      rcases List.mem_append.1 hz with hz | hz
      · exact hno z hz
      · simp at hz; rw [hz]; exact hp
    have hxf := hf x (List.mem_of_getElem? hx)
    have c1 := (k1 wr hB).1
    have c2 := (k1 wr hB).2
    obtain ⟨w1, hw1⟩ : ∃ w1, (wr.alloc (.cells #[.int .i64 x.s, .int .i64 x.c] 24)) = w1 := ⟨_, rfl⟩
    have hbx : w1.heap[wr.heap.size]? = some (.cells #[.int .i64 x.s, .int .i64 x.c] 24 (0, 0)) := by rw [← hw1]; exact heap_alloc_last wr _
    have HB1 : Hid (Below w.heap.size w w1) := by rw [← hw1]; exact hB.alloc hB.size _
    have HT : Hid (Calls Try.prog F #[.agg #[.int .i64 x.s, .int .i64 x.c], .pointer (some ⟨B, 0, none⟩)] w1 fun e w' => e = .returned (.bool (P x)) ∧ Below w1.heap.size w1 w') := HCl.out x w1 hxf HB1.out
    have HB1s : Hid (w.heap.size ≤ w1.heap.size) := HB1.out.size
    clear hB k1 hx hno hxf
    generalize P x = p at *
    obtain ⟨xs, xc⟩ := x
    simp only at c1 c2 hbx hw1 HT
    go_wp2_with (first | (refine load_box rfl (.tmp 6) rfl wr.heap.size xs xc (0, 0) rfl hbx ?_) | fail)
    refine HT.out.mono ?_
    rintro e w2 ⟨rfl, b2⟩
    have HB2 : Hid _ := HB1.out.trans (b2.mono HB1s.out)
    clear b2 hw1 hbx HT
    cases p with
    | true =>
      have HR2 : Hid _ := HR.out rfl
      go_wp2
      go_ret
      exact ⟨by rw [← HR2.out]; rfl, HB2.out⟩
    | false =>
      have HN2 : Hid _ := HN.out rfl
      go_wp2
      go_roundw
      case rel => exact ⟨m + 1, by omega, by go_num, HN2.out, HB2.out⟩
      case measure => simp [intOf]; omega
theorem eg_take1 : ∀ (args : Array Value) (w : World), (callFunc 26 args).run Try.prog w = .ok (.enter 26 args) w := fun args w => by
  simp [callFunc, Try.func26]
  rfl
theorem eg_give1 : ∀ (args : Array Value) (w : World), (callFunc 28 args).run Try.prog w = .ok (.enter 28 args) w := fun args w => by
  simp [callFunc, Try.func28]
  rfl
theorem eg_give2 : ∀ (args : Array Value) (w : World), (callFunc 30 args).run Try.prog w = .ok (.enter 30 args) w := fun args w => by
  simp [callFunc, Try.func30]
  rfl
set_option maxRecDepth 100000 in
/-- Take's closure: has a run so many? -/
theorem take1_any {w : World} {B : Nat} {n : Int} (hc : w.cell? ⟨B, 0, none⟩ = some (.int .i64 n)) : FnSays w (.func (.func 26) #[] #[.pointer (some ⟨B, 0, none⟩)]) (fun r => decide (n ≤ r.c)) := by
  refine ⟨_, B, rfl, eg_take1, fun r w1 _ hb => ?_⟩
  have hc1 : w1.cell? ⟨B, 0, none⟩ = some (.int .i64 n) := by rw [World.cell?_of_block (hb.block B (World.block_lt_of_cell? w _ hc))]; exact hc
  obtain ⟨w2, hw2⟩ : ∃ w2, w1.alloc (.cells #[.int .i64 r.s, .int .i64 r.c] 24) = w2 := ⟨_, rfl⟩
  have hbx : w2.heap[w1.heap.size]? = some (.cells #[.int .i64 r.s, .int .i64 r.c] 24 (0, 0)) := by rw [← hw2]; exact heap_alloc_last w1 _
  have HB2 : Hid (Below w1.heap.size w1 w2) := by rw [← hw2]; exact (Below.refl _ _).alloc (Nat.le_refl _) _
  have c2 : w2.cell? ⟨w1.heap.size, 1, none⟩ = some (.int .i64 r.c) := by rw [cell_of_row _ _ _ _ _ _ hbx]; rfl
  have c3 : w2.cell? ⟨B, 0, none⟩ = some (.int .i64 n) := cell_stays hc1 HB2.out
  clear hbx hc hc1 hb
  obtain ⟨rs, rc⟩ := r
  simp only at c2 hw2
  simp only
  go_enter Try.func26, Try.ntmps26
  go_wp2
  all_goals go_ret
  all_goals exact ⟨by simp_all, HB2.out⟩
end Go.Proofs.Ytbnfhhjgalphgaa
