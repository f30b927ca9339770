/- slices.IndexFunc over acts, with Tamper's closure. -/
import Derived.Test.YthlaackalmgfnabDr
import Derived.Test.YthlaackalmgfnabDn
import Derived.Lib.SliceRun
namespace Go.Proofs.Ythlaackalmgfnab
open Go.RowKit

def fnV (B : Nat) : Value := .func (.func 42) #[] #[.pointer (some ⟨B, 0, none⟩)]
def isAt (i : Int) (y : Ac) : Bool := decide ((y.at_ : Int) = i)
/-- Where the first act on a block stands. -/
def idxA (L : List Ac) (i : Int) : Int := match L.findIdx? (isAt i) with | none => -1 | some k => (k : Int)
theorem eg1 : ∀ (args : Array Value) (w : World), (callFunc 42 args).run Try.prog w = .ok (.enter 42 args) w := fun args w => by
  simp [callFunc, Try.func42]
  rfl
theorem acts_cell {w : World} {x : Option Addr} {c : Nat} {L : List Ac} (h : w.ownsRow 0 79 1 (.slice x L.length c) L.length (L.map acV)) (m : Nat) (y : Ac) (hy : L[m]? = some y) : ∃ g, x = some ⟨g, 0, none⟩ ∧ g < w.heap.size ∧ w.cell? ⟨g, m, none⟩ = some (acV y) := by
  have hm := (List.getElem?_eq_some_iff.1 hy).1
  rcases h.2 with ⟨h1, h2⟩ | ⟨g, cap, cur, h1, _, h2, _, _, _, h6⟩
  · omega
  · have ex : x = some ⟨g, 0, none⟩ := by simp at h1; exact h1.1
    refine ⟨g, ex, (Array.getElem?_eq_some_iff.1 h2).1, ?_⟩
    have e : (L.map acV)[m]? = some (acV y) := by rw [List.getElem?_map, hy]; rfl
    rw [cell_of_row _ _ _ _ _ _ h2, ← Array.getElem?_toList]
    rw [← h6, List.getElem?_take] at e
    simpa [hm] using e
set_option maxRecDepth 100000 in
theorem index_any {w : World} {x : Option Addr} {c B : Nat} {i : Int} {L : List Ac} (h : w.ownsRow 0 79 1 (.slice x L.length c) L.length (L.map acV)) (hb : w.cell? ⟨B, 0, none⟩ = some (.int .i64 i)) (hl : L.length ≤ 9223372036854775807) :
    Calls Try.prog 50 #[.slice x L.length c, fnV B] w fun e w' => e = .returned (.int .i64 (idxA L i)) ∧ Below w.heap.size w w' := by
  have HL : Hid (∀ m y, L[m]? = some y → ∃ g, x = some ⟨g, 0, none⟩ ∧ ∀ wr, Below w.heap.size w wr → wr.cell? ⟨g, m, none⟩ = some (acV y)) := fun m y hy => by
    obtain ⟨g, h1, h2, h3⟩ := acts_cell h m y hy
    exact ⟨g, h1, fun wr hB => by rw [World.cell?_of_block (hB.block g h2)]; exact h3⟩
  have HB : Hid (∀ wr, Below w.heap.size w wr → wr.cell? ⟨B, 0, none⟩ = some (.int .i64 i)) := fun wr hB => by
    rw [World.cell?_of_block (hB.block B (World.block_lt_of_cell? w _ hb))]; exact hb
  have heg := eg1
  clear h hb
  unfold fnV
  go_enter Try.func50, Try.ntmps50
  go_wp2
  go_loopw [8] (fun kv wr => ∃ m : Nat, m ≤ L.length ∧ kv = .int .i64 m ∧ (∀ y ∈ L.take m, isAt i y = false) ∧ Below w.heap.size w wr) (fun kv _ => L.length - (intOf kv).toNat)
  case atStart => exact ⟨0, by omega, rfl, fun y hy => by simp at hy, Below.refl _ _⟩
  case round =>
    obtain ⟨m, hm, rfl, hno, hBw⟩ := hrel
    by_cases hlt : m < L.length
    · obtain ⟨y, hy⟩ : ∃ y, L[m]? = some y := ⟨_, List.getElem?_eq_getElem hlt⟩
      obtain ⟨g, rfl, hg⟩ := HL.out m y hy
      have cg := hg wr hBw
      have hlt2 : (m : Int) < (L.length : Int) := by omega
      have HT : Hid (Calls Try.prog 42 #[acV y, .pointer (some ⟨B, 0, none⟩)] wr fun e w' => e = .returned (.bool (isAt i y)) ∧ Below wr.heap.size wr w') := t1_any y i B wr (HB.out wr hBw)
      have HR : Hid (isAt i y = true → (m : Int) = idxA L i) := fun ht => by
        unfold idxA
        have : L.findIdx? (isAt i) = some m := by
          rw [List.findIdx?_eq_some_iff_getElem]
          refine ⟨hlt, ?_, fun j hj => ?_⟩
          · have : L[m] = y := by rw [List.getElem?_eq_getElem hlt] at hy; simpa using hy
            rw [this]; exact ht
          · have := hno (L[j]) (by rw [List.mem_take_iff_getElem]; exact ⟨j, by omega, rfl⟩)
            rw [this]; simp
        rw [this]
      have HN : Hid (isAt i y = false → ∀ z ∈ L.take (m + 1), isAt i z = false) := fun hf z hz => by
        rw [List.take_add_one, hy] at hz
        rcases List.mem_append.1 hz with hz | hz
        · exact hno z hz
        · simp at hz; rw [hz]; exact hf
      have HBw : Hid _ := hBw
      clear hno hBw hy hg
      generalize isAt i y = r at *
      generalize acV y = V at *
      go_wp2_with fail
      refine Calls.mono HT.out ?_
      rintro e w2 ⟨rfl, b2⟩
      have HB2 : Hid (Below w.heap.size w w2) := HBw.out.trans (b2.mono HBw.out.size)
      clear b2 HT cg
      cases r with
      | true =>
        have hr := HR.out rfl
        go_wp2
        go_ret
        exact ⟨rfl, HB2.out⟩
      | false =>
        have HN2 : Hid _ := HN.out rfl
        go_wp2
        go_roundw
        case rel => exact ⟨m + 1, by omega, by go_num, HN2.out, HB2.out⟩
        case measure => simp [intOf]; omega
    · have hlt2 : ¬ (m : Int) < (L.length : Int) := by omega
      have hr : idxA L i = -1 := by
        unfold idxA
        have : L.findIdx? (isAt i) = none := by
          rw [List.findIdx?_eq_none_iff]
          intro y hy
          exact hno y (by rw [List.take_of_length_le (by omega)]; exact hy)
        rw [this]
      have HBw : Hid _ := hBw
      clear hno hBw
      go_wp2
      go_ret
      exact ⟨rfl, HBw.out⟩
end Go.Proofs.Ythlaackalmgfnab
