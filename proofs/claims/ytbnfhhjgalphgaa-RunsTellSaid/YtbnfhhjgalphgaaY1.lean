/- Lists of runs in memory, more of them: numbers in a list, what Take and Give tell, runs read whole. -/
import Derived.Test.YtbnfhhjgalphgaaYd
namespace Go.Proofs.Ytbnfhhjgalphgaa
open Go.RowKit

/-- Numbers that a slice holds. -/
def NumsAt (w : World) (v : Value) (l : List Int) : Prop := ∃ a c, v = .slice a l.length c ∧ ∀ i n, l[i]? = some n → ∃ b o, a = some ⟨b, o, none⟩ ∧ w.cell? ⟨b, o + i, none⟩ = some (.int .i64 n)
theorem NumsAt.cells {w : World} {a : Option Addr} {n c : Nat} {l : List Int} (h : NumsAt w (.slice a n c) l) : n = l.length ∧ ∀ i x, l[i]? = some x → ∃ b o, a = some ⟨b, o, none⟩ ∧ ∀ w', Below w.heap.size w w' → w'.cell? ⟨b, o + i, none⟩ = some (.int .i64 x) := by
  obtain ⟨a', c', e, h⟩ := h
  simp at e
  obtain ⟨rfl, rfl, rfl⟩ := e
  refine ⟨rfl, fun i r hi => ?_⟩
  obtain ⟨b, o, rfl, h1⟩ := h i r hi
  exact ⟨b, o, rfl, fun w' hb => cell_stays h1 hb⟩
theorem rsv_set : ∀ {M : List Rn} {i : Nat} {r : Rn} (z : Int), M[i]? = some r → (rsv M).set (i * 2 + 1) (.int .i64 z) = rsv (M.set i ⟨r.s, z⟩)
  | [], i, r, z, h => by simp at h
  | x :: M, 0, r, z, h => by
    obtain rfl : x = r := by simpa using h
    rfl
  | x :: M, i + 1, r, z, h => by
    have := rsv_set (M := M) (i := i) (r := r) z (by simpa using h)
    rw [show (i + 1) * 2 + 1 = i * 2 + 1 + 1 + 1 by omega]
    simp [rsv, this]
/-- A run's count set. -/
theorem Mr.setC {w0 w : World} {B : Nat} {ts : List (Value × List Rn)} {M : List Rn} {g n c i : Nat} {r : Rn} (h : Mr w0 B ts (.slice (some ⟨g, 0, none⟩) n c) M w) (hi : M[i]? = some r) (z : Int) :
    w.cell? ⟨g, i * 2 + 1, none⟩ = some (.int .i64 r.c) ∧ w.frozen? ⟨g, i * 2 + 1, none⟩ = false ∧ Mr w0 B ts (.slice (some ⟨g, 0, none⟩) n c) (M.set i ⟨r.s, z⟩) (w.setCell ⟨g, i * 2 + 1, none⟩ (.int .i64 z)) := by
  have hl := (List.getElem?_eq_some_iff.1 hi).1
  rcases h.owns.2 with ⟨q1, q2⟩ | ⟨g', cap, cur, q1, q2, q3, q4, q5, q6, q7⟩
  · simp at q1
  · simp at q1
    obtain ⟨rfl, hn, rfl⟩ := q1
    have hcell := cell_of_row _ g (i * 2 + 1) _ _ _ q3
    have hcur : cur[i * 2 + 1]? = some (.int .i64 r.c) := by
      have := (rsv_get hi).2
      rw [← q7, List.getElem?_take, if_pos (by omega)] at this
      rwa [Array.getElem?_toList] at this
    refine ⟨by rw [hcell, hcur], frozen_of_row _ _ _ _ _ q3, h.keep ((Below.refl _ _).setCell q2 _) ⟨by rw [rsv_length], .inr ⟨g, _, _, by rw [List.length_set, hn], q2, heap_set_same q3, by rw [List.length_set]; exact q4, q5, by simpa using q6, ?_⟩⟩⟩
    rw [Array.toList_setIfInBounds, List.length_set, List.take_set, q7, rsv_set z hi]
theorem Mr.addr {w0 w : World} {B : Nat} {ts : List (Value × List Rn)} {M : List Rn} {a : Option Addr} {n c : Nat} (h : Mr w0 B ts (.slice a n c) M w) (h0 : 0 < n) : ∃ g, a = some ⟨g, 0, none⟩ := by
  rcases h.owns.2 with ⟨q1, q2⟩ | ⟨g, cap, cur, q1, _⟩
  · simp at q1; omega
  · simp at q1; exact ⟨g, q1.1⟩
theorem freeN_len (st : List Int) : ∀ i, (freeN st i).length ≤ i
  | 0 => Nat.le_refl _
  | i + 1 => by
    have ih := freeN_len st i
    unfold freeN
    split
    · split
      · unfold bump
        cases h : (freeN st i).getLast? with
        | none => simp
        | some r => simp; omega
      · simp; omega
    · omega
theorem Mr.empty {w0 w : World} {ts : List (Value × List Rn)} (hb : Below w0.heap.size w0 w) (h : ∀ v l, (v, l) ∈ ts → RunsAt w v l) : Mr w0 w.heap.size ts (.slice (some ⟨w.heap.size, 0, none⟩) 0 0) [] (w.alloc (.cells #[] 24)) :=
  (Mr.start hb h).keep ((Below.refl _ _).alloc (Nat.le_refl _) _) ⟨rfl, .inr ⟨w.heap.size, 0, #[], rfl, Nat.le_refl _, heap_alloc_last w _, Nat.zero_le _, Nat.zero_le _, rfl, rfl⟩⟩
theorem takeT_none' {l : List Rn} {n : Int} (h : ¬ (chkB l = true ∧ 1 ≤ n)) : takeT l n = none := by unfold takeT; rw [if_neg h]
theorem takeL_skip : ∀ {l : List Rn} {n : Int} {m : Nat}, (∀ r ∈ l.take m, r.c < n) → takeL l n = (takeL (l.drop m) n).map (fun p => (p.1, l.take m ++ p.2))
  | l, n, 0, _ => by simp
  | [], n, m + 1, _ => by simp [takeL]
  | a :: l, n, m + 1, h => by
    have ha := h a (by simp)
    have ih := takeL_skip (l := l) (n := n) (m := m) (fun r hr => h r (by simp [hr]))
    rw [takeL, if_pos ha, ih]
    simp only [List.take_succ_cons, List.drop_succ_cons, Option.map_map]
    rfl
theorem takeL_at {l : List Rn} {n : Int} {m : Nat} {r : Rn} (h : ∀ r ∈ l.take m, r.c < n) (hr : l[m]? = some r) (hn : n ≤ r.c) : takeL l n = some (⟨r.s, n⟩, l.take m ++ ((if n < r.c then [⟨r.s + n, r.c - n⟩] else []) ++ l.drop (m + 1))) := by
  rw [takeL_skip h, List.drop_eq_getElem_cons (List.getElem?_eq_some_iff.1 hr).1, takeL]
  have : l[m]'((List.getElem?_eq_some_iff.1 hr).1) = r := (List.getElem?_eq_some_iff.1 hr).2
  rw [this, if_neg (by omega)]
  simp only [Option.map_some]
  congr 2
  split <;> rfl
/-- A result in a box, and two more behind it. -/
theorem results_box2 {P : Program} {fn : Func} {p u v : Tmp} {ty : TypeId} (h : fn.results = #[.cell p ty, .tmp u, .tmp v]) (tmps : Array Value) (W : World) (g : Nat) (t : TypeId) (cs : Array Value) (fr : Nat × Nat) (d : TypeDesc)
    (hp : tmps.getD p undef = .pointer (some ⟨g, 0, none⟩)) (hg : W.heap[g]? = some (.cells cs t fr)) (hu : P.underlying ty = some d) (ha : (match d with | .struct _ | .array _ _ => true | _ => false) = true) (hi : (P.info? ty).map (·.size) = some cs.size) :
    (results fn tmps).run P W = .ok (.tuple #[.agg cs, tmps.getD u undef, tmps.getD v undef]) W := by
  have hl := run_loadVar_row (P := P) W g t ty cs fr _ hg hu ha hi
  have hp' : tmps[p]?.getD undef = .pointer (some ⟨g, 0, none⟩) := by simpa using hp
  simp only [results, h]
  simp [Result.andThen, hp', asAddr, hl]
theorem run_size (x y : Int) : (Try.prog.info? 24).map (·.size) = some (#[Value.int .i64 x, .int .i64 y] : Array Value).size := by kernel_rfl
theorem run_one (x y : Int) : (#[Value.int .i64 x, .int .i64 y] : Array Value).all (·.oneCell') = true := by simp [Value.oneCell']
/-- What is told of what is taken. -/
def TakeSays (w : World) (B : Nat) (o : Option (Rn × List Rn)) (e : Ending) (w' : World) : Prop :=
  match o with
  | none => e = .returned (.tuple #[.agg #[.int .i64 0, .int .i64 0], .slice none 0 0, .bool false]) ∧ Below B w w'
  | some (x, m) => ∃ a c, e = .returned (.tuple #[rnV x, .slice a m.length c, .bool true]) ∧ w'.ownsRow B 24 2 (.slice a m.length c) m.length (rsv m) ∧ Below B w w'
theorem owns_lower {w : World} {B B' : Nat} {e : TypeId} {s n : Nat} {v : Value} {xs : List Value} (h : w.ownsRow B e s v n xs) (hb : B' ≤ B) : w.ownsRow B' e s v n xs := by
  refine ⟨h.1, ?_⟩
  rcases h.2 with q | ⟨g, cap, cur, q1, q2, q3⟩
  · exact .inl q
  · exact .inr ⟨g, cap, cur, q1, Nat.le_trans hb q2, q3⟩
/-- A box below what is owned may turn. -/
theorem owns_setRow {w : World} {B g : Nat} {e : TypeId} {s n : Nat} {v : Value} {xs : List Value} {ds : Array Value} (h : w.ownsRow B e s v n xs) (hg : g < B) : (w.setRow g ds).ownsRow B e s v n xs := by
  refine ⟨h.1, ?_⟩
  rcases h.2 with q | ⟨k, cap, cur, q1, q2, q3, q4⟩
  · exact .inl q
  · exact .inr ⟨k, cap, cur, q1, q2, (heap_setRow_ne (by omega)).trans q3, q4⟩
/-- A box with a run is read, where it is wanted. -/
theorem load_box {ops : Array Oper} {rest : List Oper} {o : Oper} {a : Act} {w : World} {Q : Exit → Act → World → Prop} (hw : Region.wanted o (yielded ops a.tmps) = true) (x : Operand) (ho : o.op = .load 24 x)
    (g : Nat) (y z : Int) (fr : Nat × Nat) (hx : a.eval x = .pointer (some ⟨g, 0, none⟩)) (hg : w.heap[g]? = some (.cells #[.int .i64 y, .int .i64 z] 24 fr))
    (h : wpList Try.prog ops Q rest (a.put o.dst (.agg #[.int .i64 y, .int .i64 z])) w) : wpList Try.prog ops Q (o :: rest) a w :=
  wpList_want hw fun _ hK => wp_load_row 24 x ho g hx _ _ fr _ hg Try.underlying24 rfl (run_size _ _) (hK _ _ h)
/-- One of a list is read whole. -/
theorem load_at {ops : Array Oper} {rest : List Oper} {o : Oper} {a : Act} {w : World} {Q : Exit → Act → World → Prop} (hgd : o.guard = none) (x : Operand) (ho : o.op = .load 24 x)
    (b k : Nat) (y z : Int) (hx : a.eval x = .pointer (some ⟨b, k, none⟩)) (h0 : w.cell? ⟨b, k, none⟩ = some (.int .i64 y)) (h1 : w.cell? ⟨b, k + 1, none⟩ = some (.int .i64 z))
    (h : wpList Try.prog ops Q rest (a.put o.dst (.agg #[.int .i64 y, .int .i64 z])) w) : wpList Try.prog ops Q (o :: rest) a w :=
  wpList_load_mid hgd 24 x ho b k hx [.int .i64 y, .int .i64 z] _ (fun j u hj => by
    match j, hj with
    | 0, hj => obtain rfl := Option.some.inj hj; exact h0
    | 1, hj => obtain rfl := Option.some.inj hj; exact h1
    | j + 2, hj => simp at hj) Try.underlying24 rfl (by kernel_rfl) h
/-- What is told of what is given. -/
def GiveSays (w : World) (B : Nat) (o : Option (List Rn)) (e : Ending) (w' : World) : Prop :=
  match o with
  | none => e = .returned (.tuple #[.slice none 0 0, .bool false]) ∧ Below B w w'
  | some m => ∃ a c, e = .returned (.tuple #[.slice a m.length c, .bool true]) ∧ w'.ownsRow B 24 2 (.slice a m.length c) m.length (rsv m) ∧ Below B w w'
theorem Mr.turnRow {w0 w : World} {B : Nat} {ts : List (Value × List Rn)} {v : Value} {M : List Rn} {g : Nat} (h : Mr w0 B ts v M w) (hg : B ≤ g) (hob : ∀ i, v.ownBlock = some i → i < g) (ds : Array Value) : Mr w0 B ts v M (w.setRow g ds) :=
  h.keep (below_setRow (Below.refl _ _) hg _) ⟨h.owns.1, by
    rcases h.owns.2 with q | ⟨k, cap, cur, q1, q2, q3, q4⟩
    · exact .inl q
    · have hk : k < g := hob k (by rw [q1]; rfl)
      exact .inr ⟨k, cap, cur, q1, q2, (heap_setRow_ne (by omega)).trans q3, q4⟩⟩
theorem Mr.turnCell {w0 w : World} {B : Nat} {ts : List (Value × List Rn)} {v : Value} {M : List Rn} {g : Nat} (h : Mr w0 B ts v M w) (hg : B ≤ g) (hob : ∀ i, v.ownBlock = some i → i < g) (j : Nat) (u : Value) : Mr w0 B ts v M (w.setCell ⟨g, j, none⟩ u) :=
  h.keep ((Below.refl _ _).setCell hg _) ⟨h.owns.1, by
    rcases h.owns.2 with q | ⟨k, cap, cur, q1, q2, q3, q4⟩
    · exact .inl q
    · have hk : k < g := hob k (by rw [q1]; rfl)
      exact .inr ⟨k, cap, cur, q1, q2, by simp only [World.setCell, Array.getElem?_modify]; rw [if_neg (by omega)]; exact q3, q4⟩⟩
end Go.Proofs.Ytbnfhhjgalphgaa
