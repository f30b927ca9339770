/- With, tampering too; Tamper on a device beside others. -/
import Derived.Test.YthlaackalmgfnabEo
import Derived.Test.YthlaackalmgfnabDw
namespace Go.Proofs.Ythlaackalmgfnab
open Go.RowKit

/-- What a thing asked tells, and makes. -/
def withT (d : Dv) (x : DoX) : Int × Dv := if x.q % 13 = 12 then tamperD d x.i x.n (dataT x.n x.s) else withD d x
theorem delA_len (L : List Ac) (i : Int) : (delA L i).length ≤ L.length := List.length_filter_le _ _
theorem tamperD_few (d : Dv) (i st : Int) (s : List UInt8) : (tamperD d i st s).2.acts.length ≤ d.acts.length ∧ (tamperD d i st s).2.starts = d.starts := by
  unfold tamperD
  split
  · exact ⟨Nat.le_refl _, rfl⟩
  · split
    · exact ⟨Nat.le_refl _, rfl⟩
    · exact ⟨delA_len _ _, rfl⟩
theorem withT_few (d : Dv) (x : DoX) : (withT d x).2.acts.length ≤ d.acts.length + 1 ∧ (withT d x).2.starts ≤ d.starts + 1 := by
  unfold withT
  split
  · obtain ⟨h1, h2⟩ := tamperD_few d x.i x.n (dataT x.n x.s)
    exact ⟨by omega, by omega⟩
  · exact withD_few d x
theorem dev_withT {wr : World} {p : Nat} {d : Dv} {O : Nat → Prop} (h : Dev wr p d O) (x : DoX) (hx : x.ok wr) (hxk : x.k ≠ [] → ∀ i, x.kv.ownBlock = some i → ¬ O i) (hhi : ∀ k, O k → k < wr.heap.size) (hl : x.k.length ≤ 1000000) (ha : d.acts.length < 1000000) (hs : d.starts < 1000000) :
    Calls Try.prog 17 #[.pointer (some ⟨p, 0, none⟩), .agg x.v] wr (Tells fun r w' => r = (withT d x).1 ∧ Dev w' p (withT d x).2 (grow O wr w') ∧ Turn O wr w') := by
  by_cases hq : x.q % 13 = 12
  · have e : withT d x = tamperD d x.i x.n (dataT x.n x.s) := by unfold withT; rw [if_pos hq]
    refine with_12 hq hx.q fun w1 hb => (tamper_dev (h.below hb) x.i x.n (dataT x.n x.s) ha).mono fun _ w' hh => ?_
    refine ⟨_, hh.1, ⟨by rw [e], by rw [e]; exact hh.2.1.mono fun _ hk => .inl hk, (Turn.of_below hb).trans hh.2.2 fun _ _ h => h⟩, fun k hk1 hk2 => hh.2.2.block k hk2 fun hO => ?_⟩
    have := hhi k hO
    omega
  · have e : withT d x = withD d x := by unfold withT; rw [if_neg hq]
    rw [e]
    exact dev_with h x hx hxk hhi hl (by have := Nat.mod_lt x.q (show 0 < 13 by omega); omega) ha hs
section
variable {w : World} {ds : List (Nat × Dv)} {is : List (Value × List Int)} {ts : List (Value × List (List UInt8))} {rs : List (Nat × Obj)} {wr : World}
theorem sys_withT (h : Sys w ds is ts rs wr) (i : Nat) {p : Nat} {d : Dv} (hi : ds[i]? = some (p, d)) (x : DoX) (hx : x.ok w) (hl : x.k.length ≤ 1000000) (ha : d.acts.length < 1000000) (hs : d.starts < 1000000) :
    Calls Try.prog 17 #[.pointer (some ⟨p, 0, none⟩), .agg x.v] wr (Tells fun r w' => r = (withT d x).1 ∧ Sys w (ds.set i (p, (withT d x).2)) is ts rs w') := by
  obtain ⟨O, h⟩ := h
  exact Calls.mono (dev_withT (h.dev i p d hi) x (hx.below h.below) (fun hk b hb hO => by have := (h.lo i b hO).1; have := hx.kb hk b hb; omega) (fun k hk => (h.lo i k hk).2) hl ha hs) fun _ _ ⟨r, he, hr, hd, ht⟩ => ⟨r, he, hr, h.turn hi hd ht⟩
theorem sys_tamper (h : Sys w ds is ts rs wr) (i : Nat) {p : Nat} {d : Dv} (hi : ds[i]? = some (p, d)) (k st : Int) (s : List UInt8) (ha : d.acts.length < 1000000) :
    Calls Try.prog 23 #[.pointer (some ⟨p, 0, none⟩), .int .i64 k, .int .i64 st, .string (S s)] wr fun e w' => e = .returned (.int .i64 (tamperD d k st s).1) ∧ Sys w (ds.set i (p, (tamperD d k st s).2)) is ts rs w' := by
  obtain ⟨O, h⟩ := h
  exact (tamper_dev (h.dev i p d hi) k st s ha).mono fun _ _ hh => ⟨hh.1, h.turn0 hi hh.2.1 hh.2.2⟩
end
end Go.Proofs.Ythlaackalmgfnab
