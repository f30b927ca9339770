/- A frontier and the document's own, side by side (layer 10). -/
import Derived.Test.YtnhfadjlajljlaaDoor10x
import Derived.Test.YtnhfadjlajljlaaDoor10r
import Derived.Test.YtnhfadjlajljlaaDoor10u
namespace Go.Proofs.YtnhfadjlajljlaaDoor
open Go.RowKit

/-- One more leaf, if there is room for it. -/
def nxK (k : Nat) : Nat := if k = 9223372036854775807 then k else k + 1
def nxL (k : Nat) (L : List (List UInt8)) (x : List UInt8) : List (List UInt8) := if k = 9223372036854775807 then L else puL nodeL (tlN k) L x
def nxE (k : Nat) : Int := if k = 9223372036854775807 then 3 else 0
/-- The program's list, of hashes, and the document's lie apart. -/
def SepF (w : World) (b : Nat) (hw : Value) : Prop := ∃ (a' : Option Addr) (m c' : Nat) (n : Int), w.heap[b]? = some (.cells (frC (.slice a' m c') n) 55 (0, 0)) ∧ ∀ ad, a' = some ad → (∃ cur, w.heap[ad.block]? = some (.cells cur 30 (0, 0))) ∧ hw.ownBlock ≠ some ad.block
theorem SepF.kept {w w' : World} {b : Nat} {hw : Value} (h : SepF w b hw) (hb : ∀ k C ty q, w.heap[k]? = some (.cells C ty q) → (k = b ∨ ty = 30 ∧ hw.ownBlock ≠ some k) → w'.heap[k]? = w.heap[k]?) : SepF w' b hw := by
  obtain ⟨a', m, c', n, h1, h2⟩ := h
  refine ⟨a', m, c', n, (hb _ _ _ _ h1 (.inl rfl)).trans h1, fun ad ha => ?_⟩
  obtain ⟨⟨cur, h3⟩, h4⟩ := h2 ad ha
  exact ⟨⟨cur, (hb _ _ _ _ h3 (.inr ⟨rfl, h4⟩)).trans h3⟩, h4⟩
/-- What a frontier's box holds is told but once. -/
theorem box_once {W : World} {b : Nat} {a1 a2 : Option Addr} {m1 m2 c1 c2 : Nat} {n1 n2 : Int} (h1 : W.heap[b]? = some (.cells (frC (.slice a1 m1 c1) n1) 55 (0, 0))) (h2 : W.heap[b]? = some (.cells (frC (.slice a2 m2 c2) n2) 55 (0, 0))) : a1 = a2 := by
  rw [h1] at h2
  have e2 := (Obj.cells.inj (Option.some.inj h2)).1
  have := congrArg (fun (z : Array Value) => z[0]?) e2
  simp at this
  exact this.1
theorem Fr.kept2 {w w' : World} {B b n : Nat} {L : List (List UInt8)} (h : Fr w B b n L) (hb : w'.heap[b]? = w.heap[b]?) (hk : ∀ (a' : Option Addr) (c' : Nat), w.heap[b]? = some (.cells (frC (.slice a' L.length c') (n : Int)) 55 (0, 0)) → ∀ ad, a' = some ad → w'.heap[ad.block]? = w.heap[ad.block]?) : Fr w' B b n L := by
  obtain ⟨a, c, h1, h2, h3, h4, h5⟩ := h
  exact ⟨a, c, hb.trans h1, h2.kept fun ad ha _ => hk a c h1 ad ha, h3, h4, h5⟩
/-- Both side by side; their lists lie apart. -/
structure Pl (W : World) (B1 bf kf : Nat) (Lf : List (List UInt8)) (B2 br kr : Nat) (Lr : List (List UInt8)) (sv hw : Value) : Prop where
  fr : Fr W B1 bf kf Lf
  rf : Rf W B2 br sv hw (szN kr) Lr
  sep : SepF W bf hw
  len : Lr.length = pcN kr
section
variable {W W' : World} {B1 bf kf B2 br kr : Nat} {Lf Lr : List (List UInt8)} {sv hw : Value}
theorem Pl.next (h : Pl W B1 bf kf Lf B2 br kr Lr sv hw) (hb : Below W.heap.size W W') : Pl W' B1 bf kf Lf B2 br kr Lr sv hw := ⟨h.fr.next hb, h.rf.next hb, h.sep.kept fun _ _ _ _ e _ => hb.block _ (Array.getElem?_eq_some_iff.1 e).1, h.len⟩
/-- A block below both turns. -/
theorem Pl.own_lt (h : Pl W B1 bf kf Lf B2 br kr Lr sv hw) {k : Nat} (hk : hw.ownBlock = some k) : k < W.heap.size := by
  obtain ⟨-, cur, e⟩ := row_at h.rf.hs hk
  exact (Array.getElem?_eq_some_iff.1 e).1
set_option linter.unusedVariables false in
theorem pl_f (x : List UInt8) (h : Pl W B1 bf kf Lf B2 br kr Lr sv hw) (hT : TabF W) (hg : GtF B1) (hx : x.length = 32) : Calls Tryd.prog 10 #[.pointer (some ⟨bf, 0, none⟩), .agg (hv x)] W fun e w' => e = .returned (.int .i64 (nxE kf)) ∧ Pl w' B1 bf (nxK kf) (nxL kf Lf x) B2 br kr Lr sv hw ∧ Below B1 W w' := by
  have hB1 : B1 ≤ W.heap.size := Nat.le_trans h.fr.ge (Nat.le_of_lt h.fr.lt)
  by_cases hk : kf = 9223372036854775807
  · subst hk
    refine (fappend_long x h.fr).mono ?_
    rintro e w' ⟨rfl, hb⟩
    exact ⟨rfl, h.next hb, hb.mono hB1⟩
  · obtain ⟨C, hgC, hCs⟩ := h.fr.box
    have hlt := h.fr.len.2.2
    refine (fappend_typed x h.fr hT hg hx (by omega)).mono ?_
    rintro e w' ⟨rfl, hF, hb, a', c', hbx, hown, hty⟩
    rw [nxE, nxK, nxL, if_neg hk, if_neg hk, if_neg hk]
    refine ⟨rfl, ⟨hF, h.rf.but hb hgC (by decide) (by decide) (by decide), ⟨a', _, c', _, hbx, fun ad ha => ⟨hty ad ha, fun hk2 => ?_⟩⟩, h.len⟩, hb.below h.fr.ge hB1⟩
    obtain ⟨g, o, e4, h4⟩ := hown ad ha
    subst e4
    have := h.own_lt hk2
    simp only at this
    omega
set_option linter.unusedVariables false in
theorem pl_r (x : List UInt8) (h : Pl W B1 bf kf Lf B2 br kr Lr sv hw) (hR : TabR W) (hg : 2 < B2) (hx : x.length = 32) (hkr : kr < 9223372036854775808) : Calls Tryd.prog 11 #[.pointer (some ⟨br, 0, none⟩), .agg (hv x)] W fun e w' => e = .returned (.int .i64 (nxE kr)) ∧ (∃ sv' hw', Pl w' B1 bf kf Lf B2 br (nxK kr) (nxL kr Lr x) sv' hw') ∧ Below B2 W w' := by
  by_cases hk : kr = 9223372036854775807
  · subst hk
    refine (rappend_long x h.rf).mono ?_
    rintro e w' ⟨rfl, hb⟩
    exact ⟨rfl, ⟨_, _, h.next hb⟩, hb.mono h.rf.le⟩
  · refine (rappend_any x h.rf h.len hR hg hx (by omega)).mono ?_
    rintro e w' ⟨rfl, ⟨sv', hw', hF, hWh⟩, hTu⟩
    rw [nxE, nxK, nxL, if_neg hk, if_neg hk, if_neg hk]
    obtain ⟨a', m, c', n9, hbx, hsep⟩ := h.sep
    have hbox : w'.heap[bf]? = W.heap[bf]? := hTu.typed bf _ _ _ hbx (by decide) (by decide) (fun e => absurd e (by decide))
    have hlist : ∀ ad, a' = some ad → w'.heap[ad.block]? = W.heap[ad.block]? := fun ad ha => by
      obtain ⟨⟨cur, h3⟩, h4⟩ := hsep ad ha
      exact hTu.typed _ _ _ _ h3 (by decide) (by decide) (fun _ => h4)
    refine ⟨rfl, ⟨sv', hw', ⟨h.fr.kept2 hbox fun a2 c2 e1 ad ha => ?_, hF, ⟨a', m, c', n9, hbox.trans hbx, fun ad ha => ?_⟩, puL_length nodeL x h.len⟩⟩, hTu.below⟩
    · obtain rfl := box_once hbx e1
      exact hlist ad ha
    · obtain ⟨⟨cur, h3⟩, h4⟩ := hsep ad ha
      refine ⟨⟨cur, (hlist ad ha).trans h3⟩, fun hk2 => ?_⟩
      rcases hWh _ hk2 with h8 | h8
      · exact h4 h8
      · have := (Array.getElem?_eq_some_iff.1 h3).1
        omega
end
end Go.Proofs.YtnhfadjlajljlaaDoor
