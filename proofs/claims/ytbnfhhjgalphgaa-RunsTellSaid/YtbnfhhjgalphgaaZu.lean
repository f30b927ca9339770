/- The law's twin and left; what Take and Give tell, without a case (layer 7). -/
import Derived.Test.YtbnfhhjgalphgaaZp
import Derived.Test.YtbnfhhjgalphgaaYi
import Derived.Test.YtbnfhhjgalphgaaYf
import Derived.OwnWalk
namespace Go.Proofs.Ytbnfhhjgalphgaa
open Go.RowKit

def tkR (o : Option (Rn × List Rn)) : Rn := match o with | none => ⟨0, 0⟩ | some p => p.1
def tkL (o : Option (Rn × List Rn)) : List Rn := match o with | none => [] | some p => p.2
def gvL (o : Option (List Rn)) : List Rn := match o with | none => [] | some m => m
/-- A row of one's own, as long as that. -/
def OwnR (B : Nat) (w : World) (a : Option Addr) (n : Nat) : Prop := n = 0 ∨ ∃ g C, a = some ⟨g, 0, none⟩ ∧ B ≤ g ∧ w.heap[g]? = some (.cells C 24 (0, 0)) ∧ n * 2 ≤ C.size
theorem ownR_of {w : World} {B : Nat} {a : Option Addr} {n c : Nat} {xs : List Value} (h : w.ownsRow B 24 2 (.slice a n c) n xs) : OwnR B w a n := by
  rcases h.2 with ⟨_, q2⟩ | ⟨g, cap, cur, q1, q2, q3, q4, _, q6, _⟩
  · exact .inl q2
  · exact .inr ⟨g, cur, (Value.slice.inj q1).1, q2, q3, by omega⟩
theorem OwnR.mono {B B' : Nat} {w : World} {a : Option Addr} {n : Nat} (h : OwnR B w a n) (hb : B' ≤ B) : OwnR B' w a n := by
  rcases h with h | ⟨g, C, h1, h2, h3⟩
  · exact .inl h
  · exact .inr ⟨g, C, h1, Nat.le_trans hb h2, h3⟩
theorem OwnR.below {B : Nat} {w w' : World} {a : Option Addr} {n : Nat} (h : OwnR B w a n) (b : Below w.heap.size w w') : OwnR B w' a n := by
  rcases h with h | ⟨g, C, h1, h2, h3, h4⟩
  · exact .inl h
  · exact .inr ⟨g, C, h1, h2, (b.block _ (Array.getElem?_eq_some_iff.1 h3).1).trans h3, h4⟩
theorem OwnR.turn {B g : Nat} {w : World} {a : Option Addr} {n : Nat} {C new : Array Value} (h : OwnR B w a n) (hg : w.heap[g]? = some (.cells C 24 (0, 0))) (hs : new.size = C.size) : OwnR B (w.setRow g new) a n := by
  rcases h with h | ⟨k, D, h1, h2, h3, h4⟩
  · exact .inl h
  · by_cases e : k = g
    · subst e
      rw [hg] at h3
      have e : C = D := by simpa using h3
      subst e
      exact .inr ⟨k, new, h1, h2, heap_setRow_same hg, by omega⟩
    · exact .inr ⟨k, D, h1, h2, (heap_setRow_ne e).trans h3, h4⟩
theorem take_says {w : World} {o : Option (Rn × List Rn)} {e : Ending} {w' : World} (h : TakeSays w w.heap.size o e w') : ∃ a c, e = .returned (.tuple #[.agg #[.int .i64 (tkR o).s, .int .i64 (tkR o).c], .slice a (tkL o).length c, .bool o.isSome]) ∧ RunsAt w' (.slice a (tkL o).length c) (tkL o) ∧ OwnR w.heap.size w' a (tkL o).length ∧ Below w.heap.size w w' := by
  cases o with
  | none =>
    obtain ⟨rfl, hb⟩ := h
    exact ⟨none, 0, rfl, ⟨none, 0, rfl, fun i r hi => by simp [tkL] at hi⟩, .inl rfl, hb⟩
  | some p =>
    obtain ⟨x, m⟩ := p
    obtain ⟨a, c, rfl, ho, hb⟩ := h
    exact ⟨a, c, rfl, owned ho, ownR_of ho, hb⟩
theorem give_says {w : World} {o : Option (List Rn)} {e : Ending} {w' : World} (h : GiveSays w w.heap.size o e w') : ∃ a c, e = .returned (.tuple #[.slice a (gvL o).length c, .bool o.isSome]) ∧ RunsAt w' (.slice a (gvL o).length c) (gvL o) ∧ OwnR w.heap.size w' a (gvL o).length ∧ Below w.heap.size w w' := by
  cases o with
  | none =>
    obtain ⟨rfl, hb⟩ := h
    exact ⟨none, 0, rfl, ⟨none, 0, rfl, fun i r hi => by simp [gvL] at hi⟩, .inl rfl, hb⟩
  | some m =>
    obtain ⟨a, c, rfl, ho, hb⟩ := h
    exact ⟨a, c, rfl, owned ho, ownR_of ho, hb⟩
/-- A list with one more behind, the mark. -/
structure Tw (g cap : Nat) (l : List Rn) (w : World) : Prop where
  at_ : RunsAt w (.slice (some ⟨g, 0, none⟩) l.length cap) l
  mark : w.cell? ⟨g, l.length * 2 + 1, none⟩ = some (.int .i64 (-7))
  lt : g < w.heap.size
theorem Tw.below {g cap : Nat} {l : List Rn} {w w' : World} (h : Tw g cap l w) (b : Below w.heap.size w w') : Tw g cap l w' := ⟨h.at_.below b, cell_stays h.mark b, Nat.lt_of_lt_of_le h.lt b.size⟩
theorem RunsAt.before {w : World} {a : Option Addr} {n c : Nat} {l m : List Rn} (h : RunsAt w (.slice a n c) (l ++ m)) : RunsAt w (.slice a l.length c) l := by
  obtain ⟨a', c', e, hh⟩ := h
  obtain ⟨rfl, -, rfl⟩ := Value.slice.inj e
  exact ⟨a, c, rfl, fun i x hi => hh i x (by rw [List.getElem?_append_left (List.getElem?_eq_some_iff.1 hi).1]; exact hi)⟩
set_option maxRecDepth 100000 in
set_option maxHeartbeats 4000000 in
theorem twin_any {W : World} {v : Value} {l : List Rn} (h : RunsAt W v l) (hl : l.length ≤ 100000) : Calls Try.prog 9 #[v] W fun e w' => ∃ g cap, e = .returned (.slice (some ⟨g, 0, none⟩) l.length cap) ∧ l.length + 1 ≤ cap ∧ Tw g cap l w' ∧ Below W.heap.size W w' := by
  obtain ⟨a, q, rfl, -⟩ := id h
  have HS : Hid (∀ w', Below W.heap.size W w' → RunsAt w' (.slice a l.length q) l) := fun w' hb => h.below hb
  obtain ⟨ia, i1, i2, i3, i4⟩ := info_run
  have HIA : Hid (Try.prog.info? 24 = some ia ∧ ia.zero = some (.agg #[.int .i64 0, .int .i64 0]) ∧ ia.size = 2 ∧ ia.bytes = 16) := ⟨i1, i2, i3, i4⟩
  have hw1 : wrap64 ((l.length : Int) + 1) = (l.length : Int) + 1 := by unfold wrap64; omega
  clear h i1 i2 i3 i4
  go_enter Try.func9, Try.ntmps9
  go_wp2_with (first
    | (refine wpList_make_own _ rfl _ _ 22 rfl W.heap.size 24 ia (.agg #[.int .i64 0, .int .i64 0]) 2 Try.underlying22 HIA.out.1 HIA.out.2.1 HIA.out.2.2.1 .i64 .i64 ((l.length : Int) + 1) (l.length + 1) rfl rfl (by omega) (by rw [HIA.out.2.2.2]; omega) (by simp only [maxLen]; omega) (Nat.le_refl _) ?_
       intro w1 r1 r2
       have hM1 : Mr W W.heap.size [] (.slice (some ⟨W.heap.size, 0, none⟩) 0 (l.length + 1)) [] w1 := ⟨(Below.refl _ _).grown r2 (Nat.le_refl _) (fun j hj => by cases hj), Nat.le_refl _, ((Below.refl _ _).grown r2 (Nat.le_refl _) (fun j hj => by cases hj) : Below W.heap.size W w1).size, fun v l h => (by cases h), r1⟩
       have hS1 := HS.out w1 hM1.below
       clear r1 r2)
    | (refine wpList_append_mz rfl (.tmp 6) (.tmp 7) rfl hM1 _ l l l.length rfl rfl hS1 rfl rfl (by omega) ?_
       intro xa xc w2 hxc hM2
       have hM3 := hM2.alloc (.cells #[.int .i64 0, .int .i64 (-7)] 24)
       have hS7 := RunsAt.made w2 0 (-7)
       clear hM1 hS1)
    | (refine wpList_append_mz rfl (.tmp 8) (.tmp 10) rfl hM3 _ [⟨0, -7⟩] (l ++ [⟨0, -7⟩]) (l.length + 1) rfl rfl hS7 rfl (by simp) (by omega) ?_
       intro ya cap w3 hcap hM4
       obtain ⟨g, rfl⟩ := hM4.addr (by omega)
       have hc1 : (l.length : Int) ≤ (cap : Int) := by omega
       have HM : Hid _ := hM4
       clear hM2 hM3 hS7 hM4)
    | fail)
  go_ret
  refine ⟨g, cap, rfl, hcap, ⟨?_, ?_, ?_⟩, HM.out.below⟩
  · have := HM.out.own
    exact this.before
  · obtain ⟨_, _, e, hh⟩ := HM.out.own
    obtain ⟨b, o, e2, _, hc⟩ := hh l.length ⟨0, -7⟩ (by simp)
    obtain ⟨rfl, -, -⟩ := Value.slice.inj e
    simp at e2
    obtain ⟨rfl, rfl⟩ := e2
    simpa using hc
  · exact (World.ownsRow.lt HM.out.owns g rfl).2
set_option maxRecDepth 100000 in
set_option maxHeartbeats 4000000 in
theorem left_any {w : World} {g cap : Nat} {v : Value} {l : List Rn} (h : Tw g cap l w) (hv : RunsAt w v l) (hc : l.length + 1 ≤ cap) (hl : l.length ≤ 100000) : Calls Try.prog 19 #[.slice (some ⟨g, 0, none⟩) l.length cap, v] w fun e w' => e = .returned (.bool true) ∧ Below w.heap.size w w' := by
  have HSm : Hid (Calls Try.prog 14 #[.slice (some ⟨g, 0, none⟩) l.length cap, v] w fun e w' => e = .returned (.bool true) ∧ Below w.heap.size w w') := by
    have := same_any h.at_ hv (by omega)
    rwa [sameB_iff.2 rfl] at this
  have HMk : Hid (∀ w', Below w.heap.size w w' → w'.cell? ⟨g, l.length * 2 + 1, none⟩ = some (.int .i64 (-7))) := fun w' hb => cell_stays h.mark hb
  obtain ⟨a, q, rfl, -⟩ := hv
  have b1 : (l.length : Int) + 1 ≤ (cap : Int) := by omega
  have b2 : (l.length : Int) < (cap : Int) := by omega
  have hn1 : ((l.length : Int) + 1).toNat = l.length + 1 := by omega
  have hw1 : wrap64 ((l.length : Int) + 1) = (l.length : Int) + 1 := by unfold wrap64; omega
  clear h
  go_enter Try.func19, Try.ntmps19
  go_wp2_with fail
  refine HSm.out.mono ?_
  rintro e w1 ⟨rfl, b⟩
  have c7 := HMk.out w1 b
  have HB : Hid _ := b
  clear b HSm
  go_wp2
  go_ret
  exact ⟨rfl, HB.out⟩
end Go.Proofs.Ytbnfhhjgalphgaa
