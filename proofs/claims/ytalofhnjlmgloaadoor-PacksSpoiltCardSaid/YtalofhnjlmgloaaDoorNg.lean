/- Lists of texts beside one another in memory; what packs' functions make of them. -/
import Derived.Test.YtalofhnjlmgloaaDoorNd
import Derived.Test.YtalofhnjlmgloaaDoorNf
import Derived.Test.YtalofhnjlmgloaaDoorBl
namespace Go.Proofs.YtalofhnjlmgloaaDoor
open Go.RowKit

theorem TextsAt.take {w : World} {a : Option Addr} {n c : Nat} {l : List (List UInt8)} (h : TextsAt w (.slice a n c) l) (i : Nat) (hi : i ≤ n) : TextsAt w (.slice a i c) (l.take i) := by
  obtain ⟨a', c', e, h⟩ := h
  simp at e
  obtain ⟨rfl, rfl, rfl⟩ := e
  refine ⟨a, c, by rw [List.length_take, Nat.min_eq_left hi], fun j s hj => ?_⟩
  rw [List.getElem?_take] at hj
  split at hj
  · exact h j s hj
  · cases hj
theorem TextsAt.nil (w : World) : TextsAt w (.slice none 0 0) [] := ⟨none, 0, rfl, fun i s h => by simp at h⟩
theorem TextsAt.len {w : World} {a : Option Addr} {n c : Nat} {l : List (List UInt8)} (h : TextsAt w (.slice a n c) l) : n = l.length := h.cellOf.1
theorem TextsAt.cell {w : World} {a : Option Addr} {n c : Nat} {l : List (List UInt8)} (h : TextsAt w (.slice a n c) l) (i : Nat) (x : List UInt8) (hi : l[i]? = some x) : ∃ b o, a = some ⟨b, o, none⟩ ∧ w.cell? ⟨b, o + i, none⟩ = some (.string (S x)) := by
  obtain ⟨b, o, e, hc⟩ := h.cellOf.2 i x hi
  exact ⟨b, o, e, hc w (Below.refl _ _)⟩
theorem owns_cap {w : World} {B : Nat} {e : TypeId} {s n m c : Nat} {a : Option Addr} {xs : List Value} (h : w.ownsRow B e s (.slice a m c) n xs) : n ≤ c := by
  rcases h.2 with ⟨q1, q2⟩ | ⟨g, cap, cur, q1, _, _, q4, _⟩
  · omega
  · simp at q1; omega
/-- A row of texts that was just made. -/
theorem TextsAt.made (w : World) (l : List (List UInt8)) (n c : Nat) (hn : n = l.length) : TextsAt (w.alloc (.cells (sv l).toArray 9)) (.slice (some ⟨w.heap.size, 0, none⟩) n c) l := by
  subst hn
  refine ⟨_, _, rfl, fun i s hi => ⟨_, _, rfl, ?_⟩⟩
  rw [cell_of_row _ _ _ _ _ _ (heap_alloc_last w _)]
  simp [sv, hi]
/-- Lists of texts, w0 the world that a call came into. -/
structure Ts (w0 : World) (ts : List (Value × List (List UInt8))) (w : World) : Prop where
  base : Base w0.heap.size w0
  below : Below w0.heap.size w0 w
  texts : ∀ v l, (v, l) ∈ ts → TextsAt w v l
section
variable {w0 w w' : World} {ts : List (Value × List (List UInt8))}
theorem Ts.start (h : Tab w) (h4 : Tab4 w) : Ts w [] w := ⟨Base.of h h4, Below.refl _ _, fun v l h => by cases h⟩
theorem Ts.size (h : Ts w0 ts w) : w0.heap.size ≤ w.heap.size := h.below.size
theorem Ts.tab (h : Ts w0 ts w) : Tab w := h.base.tabAt h.below
theorem Ts.tab4 (h : Ts w0 ts w) : Tab4 w := h.base.tab4At h.below
theorem Ts.next (h : Ts w0 ts w) (hb : Below w.heap.size w w') : Ts w0 ts w' := ⟨h.base, h.below.trans (hb.mono h.size), fun v l hv => (h.texts v l hv).below hb⟩
theorem Ts.drew (h : Ts w0 ts w) : Ts w0 ts w.drew := ⟨h.base, h.below.drew, fun v l hv => h.texts v l hv⟩
theorem Ts.alloc (h : Ts w0 ts w) (o : Obj) : Ts w0 ts (w.alloc o) := h.next ((Below.refl _ _).alloc (Nat.le_refl _) _)
theorem Ts.add (h : Ts w0 ts w) {v : Value} {l : List (List UInt8)} (hv : TextsAt w v l) : Ts w0 ((v, l) :: ts) w := ⟨h.base, h.below, fun v' l' hm => by
  rcases List.mem_cons.1 hm with hm | hm
  · obtain ⟨rfl, rfl⟩ := Prod.mk.inj hm; exact hv
  · exact h.texts _ _ hm⟩
theorem Ts.head {v : Value} {l : List (List UInt8)} (h : Ts w0 ((v, l) :: ts) w) : TextsAt w v l := h.texts v l (by simp)
theorem Ts.drop {x : Value × List (List UInt8)} (h : Ts w0 (x :: ts) w) : Ts w0 ts w := ⟨h.base, h.below, fun v l hv => h.texts v l (List.mem_cons_of_mem _ hv)⟩
theorem ts_split (h : Ts w0 ts w) (k e : Int) (d : List UInt8) (hd : d.length ≤ 140737488351232) :
    Calls Tryd.prog 9 #[.int .u8 k, .int .i64 e, .string (S d)] w fun r w' => ∃ a c, r = .returned (.tuple #[.slice a (splitL k e d).length c, .int .i64 (splitE k e d)]) ∧ (splitL k e d).length ≤ c ∧ w'.ownsRow w.heap.size 9 1 (.slice a (splitL k e d).length c) (splitL k e d).length (sv (splitL k e d)) ∧ Ts w0 ((.slice a (splitL k e d).length c, splitL k e d) :: ts) w' :=
  (split_any k e d w h.tab h.tab4 hd).mono fun r w' hh => by
    obtain ⟨v, rfl, ho, hb⟩ := hh
    obtain ⟨a, c, rfl⟩ := owns_slice ho
    exact ⟨a, c, rfl, owns_cap ho, ho, (h.next hb).add (texts_of_owns ho).1⟩
theorem ts_join (h : Ts w0 ts w) {v : Value} {L : List (List UInt8)} (hv : TextsAt w v L) (k e : Int) (hL : L.length ≤ 1000000) :
    Calls Tryd.prog 16 #[v, .int .u8 k, .int .i64 e] w fun r w' => r = .returned (.tuple #[.string (S (joinL L k e)), .int .i64 (joinE L k e)]) ∧ Ts w0 ts w' :=
  (join_any k e hv h.tab h.tab4 hL).mono fun _ _ hh => ⟨hh.1, h.next hh.2⟩
end
/-- Under another kind or epoch the blocks are none of any data. -/
theorem blk_other {k e k' e' : Int} {d : List UInt8} (h : splitE k e d = 0) (hne : ¬ (k = k' ∧ e = e')) : joinB (blkL k e d) k' e' = false := by
  have h0 := cntN_pos d.length
  refine bad_join (blkL_get h0) fun hg => hne ?_
  obtain ⟨_, g2, g3, _⟩ := hg
  rw [(blk_dec h h0).2] at g2 g3
  exact ⟨g2, g3⟩
/-- The chapter's example. -/
def exD : List UInt8 := (blockT [97, 98, 99]).take 113
theorem exD_len : exD.length = 113 := by unfold exD; rw [List.length_take, blockT_len]; rfl
theorem exD_cnt : cntN exD.length = 2 := by rw [exD_len]; rfl
theorem exD_split : splitE 80 1 exD = 0 := splitE_ok.2 ⟨by rw [exD_cnt]; decide, by decide⟩
def exX (i : Nat) : List UInt8 := encL (frP 80 1 exD i)
theorem exD_blocks : splitL 80 1 exD = [exX 0, exX 1] := by
  rw [splitL_ok exD_split]; unfold blkL; rw [exD_cnt]; rfl
theorem exD_join : joinL [exX 0, exX 1] 80 1 = exD ∧ joinE [exX 0, exX 1] 80 1 = 0 := by
  have h := join_split exD_split
  rw [← splitL_ok exD_split, exD_blocks] at h
  exact h.2
theorem exD_first : joinL [exX 0] 80 1 = exD.take 112 ∧ joinE [exX 0] 80 1 = 0 := by
  have h := join_first exD_split (i := 1) (by omega) (by rw [exD_cnt]; omega)
  rw [← splitL_ok exD_split, exD_blocks] at h
  have h2 : joinB [exX 0] 80 1 = true := h.1
  exact ⟨(join_yes h2).1.trans h.2, (join_yes h2).2⟩
theorem exD_about : joinE [exX 1, exX 0] 80 1 = 10 := by
  refine (join_no (bad_join (i := 0) (b := exX 1) rfl fun hg => ?_)).2
  have h := hg.2.2.2.1
  rw [show exX 1 = encL (frP 80 1 exD 1) from rfl, (blk_dec exD_split (by rw [exD_cnt]; omega)).2] at h
  exact absurd h (by decide)
theorem exD_none : joinE [] 80 1 = 10 := (join_no (join_nil _ _)).2
theorem exD_other : joinE [exX 0, exX 1] 68 1 = 10 := by
  have h := blk_other exD_split (k' := 68) (e' := 1) (by decide)
  rw [← splitL_ok exD_split, exD_blocks] at h
  exact (join_no h).2
end Go.Proofs.YtalofhnjlmgloaaDoor
