/- Lists of runs as the laws hold them, and what the program's functions do to them (layer 7). -/
import Derived.Test.YtbnfhhjgalphgaaZj
import Derived.Test.YtbnfhhjgalphgaaZk
namespace Go.Proofs.Ytbnfhhjgalphgaa
open Go.RowKit

/-- A list of runs in order, as the program makes them. -/
structure RL (w : World) (v : Value) (l : List Rn) : Prop where
  at_ : RunsAt w v l
  ok : SlOk v
  chk : chkB l = true
  len : l.length ≤ 90000
theorem sl_room {v : Value} (h : SlOk v) : ∀ a n c, v = .slice a n c → n ≤ c := fun a n c e => by
  rcases h with h | ⟨b, o, n', c', h, hc⟩
  · rw [h] at e; cases e; exact Nat.le_refl _
  · rw [h] at e; cases e; exact hc
theorem fit_of {l : List Rn} (h : chkB l = true) : fitR l := fun r hr => by
  have := oneB_iff.1 (chk_one h r hr)
  omega
theorem sum_fits {l : List Rn} (h : chkB l = true) : ∀ r ∈ l, -9223372036854775808 ≤ r.s + r.c ∧ r.s + r.c < 9223372036854775808 := fun r hr => by
  have := oneB_iff.1 (chk_one h r hr)
  omega
theorem RL.below {w w' : World} {v : Value} {l : List Rn} (h : RL w v l) (hb : Below w.heap.size w w') : RL w' v l := ⟨h.at_.below hb, h.ok, h.chk, h.len⟩
theorem RL.slice {w : World} {v : Value} {l : List Rn} (h : RL w v l) : ∃ a c, v = .slice a l.length c := by
  obtain ⟨a, c, e, _⟩ := h.at_
  exact ⟨a, c, e⟩
theorem rl_owned {w : World} {B : Nat} {a : Option Addr} {c : Nat} {l : List Rn} (h : w.ownsRow B 24 2 (.slice a l.length c) l.length (rsv l)) (hc : chkB l = true) (hl : l.length ≤ 90000) : RL w (.slice a l.length c) l := by
  refine ⟨owned h, ?_, hc, hl⟩
  rcases h.2 with ⟨q1, q2⟩ | ⟨g, cap, cur, q1, _, _, q4, _⟩
  · exact .inl q1
  · exact .inr ⟨g, 0, _, cap, q1, q4⟩
theorem rl_nil (w : World) : RL w (.slice none 0 0) [] := ⟨⟨none, 0, rfl, fun i r hi => by simp at hi⟩, .inl rfl, rfl, by simp⟩
theorem free_chk {st : List Int} (h : st.length ≤ 80000) : chkB (freeL st) = true := (freeL_ok st (by omega)).chk
theorem free_len (st : List Int) : (freeL st).length ≤ st.length := freeN_len st st.length
/-- What is told of what is taken, for a law. -/
def TakeR (w : World) (o : Option (Rn × List Rn)) (e : Ending) (w' : World) : Prop :=
  match o with
  | none => e = .returned (.tuple #[.agg #[.int .i64 0, .int .i64 0], .slice none 0 0, .bool false]) ∧ Below w.heap.size w w'
  | some (x, m) => ∃ a c, e = .returned (.tuple #[.agg #[.int .i64 x.s, .int .i64 x.c], .slice a m.length c, .bool true]) ∧ RL w' (.slice a m.length c) m ∧ Below w.heap.size w w'
def GiveR (w : World) (o : Option (List Rn)) (e : Ending) (w' : World) : Prop :=
  match o with
  | none => e = .returned (.tuple #[.slice none 0 0, .bool false]) ∧ Below w.heap.size w w'
  | some m => ∃ a c, e = .returned (.tuple #[.slice a m.length c, .bool true]) ∧ RL w' (.slice a m.length c) m ∧ Below w.heap.size w w'
theorem take_len {l : List Rn} {n : Int} {x : Rn} {m : List Rn} (h : takeT l n = some (x, m)) : m.length ≤ l.length := by
  unfold takeT at h
  split at h
  · obtain ⟨p, r, q, rfl, _, _, _, rfl⟩ := takeL_some h
    simp only [List.length_append, List.length_cons]
    split <;> simp
  · cases h
theorem giveR_len : ∀ (l : List Rn) (r : Rn), (giveR l r).length ≤ l.length + 1
  | [], r => by simp [giveR]
  | a :: l, r => by
    unfold giveR
    have := giveR_len l r
    have h2 := fun r' => giveR_len l r'
    repeat' split
    all_goals first | (simp only [List.length_cons]; omega) | (have := h2 _; simp only [List.length_cons] at *; omega) | (refine Nat.le_trans (h2 _) ?_; simp only [List.length_cons]; omega)
theorem give_len {l : List Rn} {r : Rn} {m : List Rn} (h : giveT l r = some m) : m.length ≤ l.length + 1 := by
  unfold giveT at h
  split at h
  · split at h
    · cases h
    · obtain rfl := Option.some.inj h; exact giveR_len l r
  · cases h
theorem take_rl {w : World} {v : Value} {l : List Rn} (n : Int) (h : RL w v l) (hn0 : -9223372036854775808 ≤ n) (hn1 : n < 9223372036854775808) : Calls Try.prog 10 #[v, .int .i64 n] w fun e w' => TakeR w (takeT l n) e w' := by
  have hlen := h.len
  refine (take_any n h.at_ (sl_room h.ok) (fit_of h.chk) (by omega) hn0 hn1).mono ?_
  intro e w' hh
  cases ht : takeT l n with
  | none => rw [ht] at hh; exact hh
  | some p =>
    obtain ⟨x, m⟩ := p
    rw [ht] at hh
    obtain ⟨a, c, rfl, ho, hb⟩ := hh
    have hk := (takeT_some ht).2.2.chk
    have hm := take_len ht
    exact ⟨a, c, rfl, rl_owned ho hk (by omega), hb⟩
theorem give_rl {w : World} {v : Value} {l : List Rn} (r : Rn) (h : RL w v l) (hl : l.length ≤ 80000) (hr1 : -9223372036854775808 ≤ r.s ∧ r.s < 9223372036854775808) (hr2 : -9223372036854775808 ≤ r.c ∧ r.c < 9223372036854775808) : Calls Try.prog 12 #[v, .agg #[.int .i64 r.s, .int .i64 r.c]] w fun e w' => GiveR w (giveT l r) e w' := by
  refine (give_any r h.at_ h.ok (fit_of h.chk) (by omega) hr1 hr2).mono ?_
  intro e w' hh
  cases ht : giveT l r with
  | none => rw [ht] at hh; exact hh
  | some m =>
    rw [ht] at hh
    obtain ⟨a, c, rfl, ho, hb⟩ := hh
    have hm := give_len ht
    exact ⟨a, c, rfl, rl_owned ho (give_ok ht).2.2.2.chk (by omega), hb⟩
theorem free_rl {w : World} {v : Value} {st : List Int} (h : NumsAt w v st) (hq : ∀ a n c, v = .slice a n c → n ≤ c) (hl : st.length ≤ 80000) : Calls Try.prog 21 #[v] w fun e w' => ∃ a c, e = .returned (.slice a (freeL st).length c) ∧ RL w' (.slice a (freeL st).length c) (freeL st) ∧ Below w.heap.size w w' := by
  refine (free_any h hq (by omega)).mono ?_
  rintro e w' ⟨a, c, rfl, hM⟩
  have := free_len st
  exact ⟨a, c, rfl, rl_owned hM.owns (free_chk hl) (by omega), hM.below⟩
theorem total_rl {w : World} {v : Value} {l : List Rn} (h : RL w v l) : Calls Try.prog 15 #[v] w fun e w' => e = .returned (.int .i64 (totL l)) ∧ Below w.heap.size w w' := total_any h.at_ (fit_of h.chk) (by have := h.len; omega)
theorem check_rl {w : World} {v : Value} {l : List Rn} (h : RL w v l) : Calls Try.prog 17 #[v] w fun e w' => e = .returned (.bool true) ∧ Below w.heap.size w w' := by
  have := check_any h.at_ (fit_of h.chk) (by have := h.len; omega)
  rwa [h.chk] at this
theorem same_rl {w : World} {v v' : Value} {l l' : List Rn} (h : RL w v l) (h' : RL w v' l') : Calls Try.prog 14 #[v, v'] w fun e w' => e = .returned (.bool (sameB l l')) ∧ Below w.heap.size w w' := same_any h.at_ h'.at_ (by have := h.len; omega)
end Go.Proofs.Ytbnfhhjgalphgaa
