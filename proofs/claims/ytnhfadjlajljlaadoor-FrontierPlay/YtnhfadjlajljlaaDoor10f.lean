/- A frontier in memory; what only looks at it; New (layer 10). -/
import Derived.Test.YtnhfadjlajljlaaDoor10c
import Derived.Test.YtnhfadjlajljlaaDoor10d
import Derived.Test.YtnhfadjlajljlaaDoor10e
namespace Go.Proofs.YtnhfadjlajljlaaDoor
open Go.RowKit

/-- The tables that a frontier's road reads. -/
structure TabF (w : World) : Prop where
  l : TabL w
  d : TabD w
theorem TabF.lt {w : World} (h : TabF w) : (4 < w.heap.size ∧ 3 < w.heap.size) ∧ 1 < w.heap.size := ⟨h.l.lt, h.d.lt⟩
theorem TabF.below {w w' : World} {n : Nat} (h : TabF w) (hb : Below n w w') (hn : (4 < n ∧ 3 < n) ∧ 1 < n) : TabF w' := ⟨h.l.below hb hn.1, h.d.below hb hn.2⟩
/-- A list of hashes stays where its block does. -/
theorem HsAt.kept {w w' : World} {a : Option Addr} {n c : Nat} {L : List (List UInt8)} (h : HsAt w (.slice a n c) L) (hk : ∀ ad, a = some ad → 0 < n → w'.heap[ad.block]? = w.heap[ad.block]?) : HsAt w' (.slice a n c) L := by
  obtain ⟨a', c', e, hh⟩ := h
  obtain ⟨rfl, rfl, rfl⟩ := Value.slice.inj e
  refine ⟨a, c, rfl, fun i x hi => ?_⟩
  obtain ⟨h1, b, o, ea, h2⟩ := hh i x hi
  refine ⟨h1, b, o, ea, fun j v hj => ?_⟩
  have hl := (List.getElem?_eq_some_iff.1 hi).1
  have hq := hk _ ea (by omega)
  rw [World.cell?_of_block (a := ⟨b, o + i * 32 + j, none⟩) hq]
  exact h2 j v hj
/-- Its block is no small one. -/
theorem HsAt.wide {w : World} {ad : Addr} {n c b : Nat} {L : List (List UInt8)} {C : Array Value} {ty : TypeId} {q : Nat × Nat} (h : HsAt w (.slice (some ad) n c) L) (hn : 0 < n) (hb : w.heap[b]? = some (.cells C ty q)) (hC : C.size < 32) : ad.block ≠ b := by
  rintro rfl
  obtain ⟨a', c', e, hh⟩ := h
  obtain ⟨rfl, rfl, rfl⟩ := Value.slice.inj e
  obtain ⟨x, hx⟩ : ∃ x, L[0]? = some x := ⟨_, List.getElem?_eq_getElem hn⟩
  obtain ⟨h1, b, o, ea, h2⟩ := hh 0 x hx
  obtain rfl : ad = ⟨b, o, none⟩ := by simpa using ea
  have hs : (hv x).size = 32 := by rw [hv_size, h1]
  have h3 := h2 31 ((hv x)[31]'(by omega)) (by rw [Array.getElem?_toList]; exact Array.getElem?_eq_getElem (by omega))
  rw [cell_of_row _ _ _ _ _ _ hb, Array.getElem?_eq_none (by omega)] at h3
  cases h3
/-- A frontier of n leaves with these hashes: its box, and its list, from B on. -/
def Fr (w : World) (B b n : Nat) (L : List (List UInt8)) : Prop := ∃ a c, w.heap[b]? = some (.cells #[.slice a L.length c, .bool true, .int .i64 (n : Int)] 55 (0, 0)) ∧ HsAt w (.slice a L.length c) L ∧ L.length ≤ c ∧ (∀ ad, a = some ad → ∃ g o, ad = ⟨g, o, none⟩ ∧ B ≤ g) ∧ B ≤ b ∧ L.length = pcN n ∧ n < 9223372036854775808
section
variable {w w' : World} {B b n : Nat} {L : List (List UInt8)}
theorem Fr.lt (h : Fr w B b n L) : b < w.heap.size := by
  obtain ⟨a, c, h1, -⟩ := h
  exact (Array.getElem?_eq_some_iff.1 h1).1
theorem Fr.len (h : Fr w B b n L) : L.length = pcN n ∧ L.length ≤ 63 ∧ n < 9223372036854775808 := by
  obtain ⟨a, c, -, -, -, -, -, h1, h2⟩ := h
  exact ⟨h1, by rw [h1]; exact pc_le 63 n (by omega), h2⟩
theorem Fr.h32 (h : Fr w B b n L) : ∀ x ∈ L, x.length = 32 := by
  obtain ⟨a, c, -, h1, -⟩ := h
  exact h1.len
theorem Fr.kept (h : Fr w B b n L) (hb : w'.heap[b]? = w.heap[b]?) (hk : ∀ k, B ≤ k → k < w.heap.size → (∀ C ty q, w.heap[k]? = some (.cells C ty q) → 32 ≤ C.size) → w'.heap[k]? = w.heap[k]?) : Fr w' B b n L := by
  obtain ⟨a, c, h1, h2, h3, h4, h5⟩ := h
  refine ⟨a, c, hb.trans h1, h2.kept fun ad ha hl => hk _ (by obtain ⟨g, o, e, hg⟩ := h4 ad ha; rw [e]; exact hg) ?_ ?_, h3, h4, h5⟩
  · subst ha
    obtain ⟨x, hx⟩ : ∃ x, L[0]? = some x := ⟨_, List.getElem?_eq_getElem hl⟩
    obtain ⟨h6, b, o, ea, h7⟩ := h2.cells.2 0 x hx
    obtain rfl : ad = ⟨b, o, none⟩ := by simpa using ea
    have hs : (hv x).size = 32 := by rw [hv_size, h6]
    exact World.block_lt_of_cell? w _ (h7 w (Below.refl _ _) 0 _ (by rw [Array.getElem?_toList]; exact Array.getElem?_eq_getElem (by omega)))
  · intro C ty q hq
    subst ha
    exact Nat.le_of_not_lt fun hc => h2.wide hl hq hc rfl
theorem Fr.next (h : Fr w B b n L) (hb : Below w.heap.size w w') : Fr w' B b n L := h.kept (hb.block _ h.lt) fun _ _ hk _ => hb.block _ hk
theorem Fr.but {b' : Nat} (h : Fr w B b n L) (hb : But b' w w') (hne : b ≠ b') {C : Array Value} {ty : TypeId} {q : Nat × Nat} (hg : w.heap[b']? = some (.cells C ty q)) (hC : C.size < 32) : Fr w' B b n L :=
  h.kept (hb.block _ h.lt hne) fun k _ hk h32 => hb.block _ hk (fun e => by subst e; have := h32 C ty q hg; omega)
theorem Fr.far (h : Fr w B b n L) (hb : ∀ k, B ≤ k → k < w.heap.size → w'.heap[k]? = w.heap[k]?) : Fr w' B b n L := by
  have hB : B ≤ b := by obtain ⟨a, c, -, -, -, -, h5, -⟩ := h; exact h5
  exact h.kept (hb _ hB h.lt) fun k h1 h2 _ => hb k h1 h2
theorem Fr.mono {B' : Nat} (h : Fr w B b n L) (hB : B' ≤ B) : Fr w B' b n L := by
  obtain ⟨a, c, h1, h2, h3, h4, h5, h6⟩ := h
  exact ⟨a, c, h1, h2, h3, fun ad ha => by obtain ⟨g, o, e, hg⟩ := h4 ad ha; exact ⟨g, o, e, Nat.le_trans hB hg⟩, Nat.le_trans hB h5, h6⟩
theorem Fr.ge (h : Fr w B b n L) : B ≤ b := by obtain ⟨a, c, -, -, -, -, h5, -⟩ := h; exact h5
theorem Fr.box (h : Fr w B b n L) : ∃ C : Array Value, w.heap[b]? = some (.cells C 55 (0, 0)) ∧ C.size < 32 := by
  obtain ⟨a, c, h1, -⟩ := h
  exact ⟨_, h1, by simp⟩
end
/-- A list's block, if there is one, lies from B on. -/
def OwnA (B : Nat) (a : Option Addr) : Prop := ∀ ad, a = some ad → ∃ g o, ad = ⟨g, o, none⟩ ∧ B ≤ g
theorem Mh.own {w0 w : World} {B n c : Nat} {a : Option Addr} {L : List (List UInt8)} (h : Mh w0 B (.slice a n c) L w) : OwnA B a := by
  rintro ad rfl
  rcases h.owns.2 with ⟨q1, -⟩ | ⟨g, cap, cur, q1, q2, -⟩
  · cases q1
  · have := (Value.slice.inj q1).1
    exact ⟨g, 0, Option.some.inj this, q2⟩
theorem fnone_nil (w : World) : Calls Tryd.prog 27 #[.pointer none] w fun e w' => e = .returned (.bool true) ∧ w' = w := by
  go_enter Tryd.func27, Tryd.ntmps27
  go_wp2
  go_ret
  exact ⟨rfl, rfl⟩
theorem fnone_any {w : World} {b : Nat} (hc : w.cell? ⟨b, 1, none⟩ = some (.bool true)) : Calls Tryd.prog 27 #[.pointer (some ⟨b, 0, none⟩)] w fun e w' => e = .returned (.bool false) ∧ w' = w := by
  go_enter Tryd.func27, Tryd.ntmps27
  go_wp2
  go_ret
  exact ⟨rfl, rfl⟩
theorem fcells {w : World} {b : Nat} {v : Value} {n : Int} (h : w.heap[b]? = some (.cells #[v, .bool true, .int .i64 n] 55 (0, 0))) : w.cell? ⟨b, 0, none⟩ = some v ∧ w.cell? ⟨b, 1, none⟩ = some (.bool true) ∧ w.cell? ⟨b, 2, none⟩ = some (.int .i64 n) :=
  ⟨by rw [cell_of_row _ _ _ _ _ _ h]; rfl, by rw [cell_of_row _ _ _ _ _ _ h]; rfl, by rw [cell_of_row _ _ _ _ _ _ h]; rfl⟩
theorem flen_nil (w : World) : Calls Tryd.prog 12 #[.pointer none] w fun e w' => e = .returned (.int .i64 0) ∧ w' = w := by
  go_enter Tryd.func12, Tryd.ntmps12
  go_wp2_with (go_at_call 27; refine (fnone_nil _).mono ?_; rintro e w' ⟨rfl, rfl⟩)
  go_ret
  exact ⟨rfl, rfl⟩
theorem flen_any {w : World} {B b n : Nat} {L : List (List UInt8)} (h : Fr w B b n L) : Calls Tryd.prog 12 #[.pointer (some ⟨b, 0, none⟩)] w fun e w' => e = .returned (.int .i64 n) ∧ w' = w := by
  obtain ⟨a, c, h1, -⟩ := h
  obtain ⟨c0, c1, c2⟩ := fcells h1
  clear h1
  go_enter Tryd.func12, Tryd.ntmps12
  go_wp2_with (go_at_call 27; refine (fnone_any c1).mono ?_; rintro e w' ⟨rfl, rfl⟩)
  go_ret
  exact ⟨rfl, rfl⟩
theorem fhashes_nil (w : World) : Calls Tryd.prog 16 #[.pointer none] w fun e w' => e = .returned (.slice none 0 0) ∧ w' = w := by
  go_enter Tryd.func16, Tryd.ntmps16
  go_wp2_with (go_at_call 27; refine (fnone_nil _).mono ?_; rintro e w' ⟨rfl, rfl⟩)
  go_ret
  exact ⟨rfl, rfl⟩
theorem fhashes_any {w : World} {B b n : Nat} {L : List (List UInt8)} (h : Fr w B b n L) : Calls Tryd.prog 16 #[.pointer (some ⟨b, 0, none⟩)] w fun e w' => ∃ a c, e = .returned (.slice a L.length c) ∧ Mh w w.heap.size (.slice a L.length c) L w' := by
  have hlen := h.len.2.1
  obtain ⟨a, c, h1, h2, -⟩ := h
  obtain ⟨c0, c1, c2⟩ := fcells h1
  have HC : Hid (Calls Tryd.prog 25 #[.slice a L.length c] w fun e w' => ∃ a c, e = .returned (.slice a L.length c) ∧ Mh w w.heap.size (.slice a L.length c) L w') := hclone_any h2 (by omega)
  clear h1 h2
  go_enter Tryd.func16, Tryd.ntmps16
  go_wp2_with (first | (go_at_call 27; refine (fnone_any c1).mono ?_; rintro e w' ⟨rfl, rfl⟩) | (go_at_call 25; refine HC.out.mono ?_; rintro e w1 ⟨xa, xc, rfl, hM⟩; have HM : Hid _ := hM; clear hM))
  go_ret
  exact ⟨_, _, rfl, HM.out⟩
theorem fnew_any (w : World) : Calls Tryd.prog 19 #[] w fun e w' => e = .returned (.pointer (some ⟨w.heap.size, 0, none⟩)) ∧ Fr w' w.heap.size w.heap.size 0 [] ∧ Below w.heap.size w w' := by
  have HF : Hid (Fr (w.alloc (.cells #[.slice none 0 0, .bool true, .int .i64 0] 55)) w.heap.size w.heap.size 0 []) := ⟨none, 0, heap_alloc_last w _, ⟨none, 0, rfl, fun i x hi => by cases hi⟩, Nat.le_refl _, fun ad ha => (by cases ha), Nat.le_refl _, by rw [pc_zero]; rfl, by omega⟩
  have HB : Hid (Below w.heap.size w (w.alloc (.cells #[.slice none 0 0, .bool true, .int .i64 0] 55))) := (Below.refl _ _).alloc (Nat.le_refl _) _
  go_enter Tryd.func19, Tryd.ntmps19
  go_wp2
  go_ret
  exact ⟨rfl, HF.out, HB.out⟩
end Go.Proofs.YtnhfadjlajljlaaDoor
