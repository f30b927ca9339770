/- A law of the walk: append to a row of one's own: where what comes of it lies. -/
import Derived.Test.YtdjjhiamiaialaaDoorLx
import Derived.Test.YtdjjhiamiaialaaDoorLh
import Derived.ArgAppend
namespace Go.Proofs.YtdjjhiamiaialaaDoor
open Go.RowKit

theorem wpList_append_keep {P : Program} {w : World} {ops : Array Oper} {rest : List Oper} {o : Oper} {a : Act} {Q : Exit → Act → World → Prop} (hgd : o.guard = none) (s x : Operand) (t : TypeId)
    (ho : o.op = Op.call { callee := Callee.builtin Builtin.append, args := #[s, x], argTypes := #[t, t] })
    (e : TypeId) (i : TypeInfo) (z : Value) (bytes : Nat) (ht : P.underlying t = some (.slice e)) (hi : P.info? e = some i) (hz : i.zero = some z)
    (hsize : i.size = 1) (hby : i.bytes = bytes) (hzs : z.cells.size = 1)
    (v : Value) (n : Nat) (xs : List Value) (hs : a.eval s = v) (hown : w.ownsRow 0 e 1 v n xs)
    (ad : Addr) (c : Nat) (u : Value) (hx : a.eval x = .slice (some ad) 1 c) (hnews : w.cell? ad = some u) (h1 : u.oneCell' = true)
    (h63 : n + 1 ≤ maxLen) (hbytes : (n + 1) * bytes ≤ 140737488355328)
    (h : ∀ v' w', w'.ownsRow 0 e 1 v' (n + 1) (xs ++ [u]) → w.grownBy w' v.ownBlock → (∀ k, v'.ownBlock = some k → v.ownBlock = some k ∨ w.heap.size ≤ k) → wpList P ops Q rest (a.put o.dst v') w') : wpList P ops Q (o :: rest) a w := by
  have hn : ∀ j y, [u][j]? = some y → w.cell? (ad.add j) = some y := fun j y hj => by
    have hj0 : j = 0 := by
      have := (List.getElem?_eq_some_iff.1 hj).1
      simpa using this
    subst hj0
    simp at hj
    subst hj
    simpa [Addr.add] using hnews
  have h1' : ∀ y ∈ [u], y.oneCell' = true := fun y hy => by
    simp at hy; subst hy; exact h1
  have grows : ∀ (ao : Option Addr) (cap : Nat), v = .slice ao n cap → (ao = none → n = 0 ∧ cap = 0) → (∀ b, ao = some b → ∀ j y, xs[j]? = some y → w.cell? (b.add j) = some y) → cap < n + 1 → wpList P ops Q (o :: rest) a w := fun ao cap hv hno hol hf =>
    wpList_append_grows w hgd s x t ho e i z 1 bytes ht hi hz hsize hby hzs (by omega) ao n cap xs (by rw [hs, hv]) hno hown.1 hol ad 1 c [u] hx (by simp) hn h1' hf h63 hbytes fun v' w' r1 r2 => by
      refine h v' w' ⟨r1.1, ?_⟩ ⟨r2.os, r2.tape, r2.output, r2.size, fun k hk _ => r2.block k hk (by simp)⟩ ?_
      · rcases r1.2 with hn | ⟨g, cp, cr, q1, q2, q3⟩
        · exact .inl hn
        · exact .inr ⟨g, cp, cr, q1, Nat.zero_le _, q3⟩
      · intro k hk
        rcases r1.2 with ⟨hn, _⟩ | ⟨g, cp, cr, q1, q2, q3⟩
        · rw [hn] at hk; simp [Value.ownBlock] at hk
        · rw [q1] at hk; simp [Value.ownBlock] at hk; exact .inr (by omega)
  have hx1 := hown.1
  rcases hown.2 with ⟨hv, hn0⟩ | ⟨g, cap, cur, hv, _, hg, hnc, hcm, hcs, htk⟩
  · exact grows none 0 (by rw [hv, hn0]) (fun _ => ⟨hn0, rfl⟩) (fun b hb => by cases hb) (by omega)
  · by_cases hr : n + 1 ≤ cap
    · refine wpList_plain hgd fun K hK => ?_
      have hrun := run_append_room (P := P) w t o.type e i ht hi g n cap cur hg ad 1 c [u] (by simp [hsize]) hn h1' hr (by rw [hsize]; simp; omega)
      rw [hsize, Nat.mul_one] at hrun
      unfold Oper.wp
      simp [execOp, ho, resolve, invoke, builtin, hs, hv, hx, hrun, Result.andThen]
      refine hK _ _ (h _ _ ⟨?_, .inr ⟨g, cap, _, rfl, Nat.zero_le _, heap_setRow_same hg, hr, hcm, ?_, ?_⟩⟩ ⟨rfl, rfl, rfl, by simp [World.setRow], fun k hk hne => heap_setRow_ne (fun e => hne (by rw [hv, e]; rfl))⟩ ?_)
      · simp; omega
      · simp; omega
      · rw [Nat.mul_one] at htk
        simp only [Nat.mul_one, htk]
        have hl2 : (xs ++ [u]).length = n + 1 := by simp; omega
        have e2 : ∀ D : List Value, xs ++ u :: D = (xs ++ [u]) ++ D := fun D => by simp
        first | (rw [e2, List.take_left' hl2]) | (simp only [e2]; exact List.take_left' hl2)
      · intro k hk; left; rw [hv]; exact hk
    · refine grows (some ⟨g, 0, none⟩) cap hv (fun hb => by cases hb) (fun b hb j y hj => ?_) (by omega)
      obtain rfl : (⟨g, 0, none⟩ : Addr) = b := by simpa using hb
      rw [Addr.add_mid, cell_of_row _ _ _ _ _ _ hg, Nat.zero_add, ← Array.getElem?_toList]
      rw [← htk, List.getElem?_take] at hj
      split at hj
      · exact hj
      · cases hj
end Go.Proofs.YtdjjhiamiaialaaDoor
