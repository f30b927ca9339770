/- A device in memory. -/
import Derived.Test.YthlaackalmgfnabChecked
import Derived.Test.YthlaackalmgfnabDm
import Derived.Test.YthlaackalmgfnabLx
import Derived.Test.YthlaackalmgfnabLh
import Derived.Test.YthlaackalmgfnabBs
import Derived.Laws.LoneSync
import Derived.Laws.AppendOwn
import Derived.BigQuiet
namespace Go.Proofs.Ythlaackalmgfnab
open Go.RowKit

/-- A row's first cells. -/
def Rw (w : World) (g : Nat) (t : TypeId) (xs : List Value) : Prop := ∃ cur : Array Value, w.heap[g]? = some (.cells cur t (0, 0)) ∧ ∃ rest, cur.toList = xs ++ rest
theorem Rw.same {w w' : World} {g : Nat} {t : TypeId} {xs : List Value} (h : Rw w g t xs) (e : w'.heap[g]? = w.heap[g]?) : Rw w' g t xs := by
  obtain ⟨cur, h1, h2⟩ := h
  exact ⟨cur, e.trans h1, h2⟩
theorem Rw.lt {w : World} {g : Nat} {t : TypeId} {xs : List Value} (h : Rw w g t xs) : g < w.heap.size := by
  obtain ⟨cur, h1, _⟩ := h
  exact (Array.getElem?_eq_some_iff.1 h1).1
theorem Rw.cell {w : World} {g : Nat} {t : TypeId} {xs : List Value} (h : Rw w g t xs) (i : Nat) (v : Value) (hi : xs[i]? = some v) : w.cell? ⟨g, i, none⟩ = some v := by
  obtain ⟨cur, h1, r, h2⟩ := h
  rw [cell_of_row _ _ _ _ _ _ h1, ← Array.getElem?_toList, h2, List.getElem?_append_left (List.getElem?_eq_some_iff.1 hi).1]
  exact hi
theorem Rw.range {w : World} {g : Nat} {t : TypeId} {xs pre mid post : List Value} (h : Rw w g t xs) (e : xs = pre ++ mid ++ post) (o : Nat) (ho : pre.length = o) : w.rangeAt g o mid := fun j v hj => by
  refine h.cell _ _ ?_
  have hl := (List.getElem?_eq_some_iff.1 hj).1
  rw [e, List.getElem?_append_left (by simp; omega), List.getElem?_append_right (by omega), ← ho, Nat.add_sub_cancel_left]
  exact hj
/-- What a store in the middle makes of a row. -/
theorem Rw.put {w : World} {g : Nat} {t : TypeId} {xs pre mid mid' post : List Value} (h : Rw w g t xs) (e : xs = pre ++ mid ++ post) (o : Nat) (ho : pre.length = o) (hm : mid'.length = mid.length) :
    ∃ cur new : Array Value, w.heap[g]? = some (.cells cur t (0, 0)) ∧ o + mid'.toArray.size ≤ cur.size ∧ (cur.toList.take o ++ mid' ++ cur.toList.drop (o + mid'.toArray.size)).toArray = new ∧ Rw (w.setRow g new) g t (pre ++ mid' ++ post) := by
  obtain ⟨cur, h1, r, h2⟩ := h
  have hs : cur.size = (pre ++ mid ++ post ++ r).length := by rw [← Array.length_toList, h2, e]
  simp only [List.length_append] at hs
  refine ⟨cur, _, h1, by simp; omega, rfl, _, heap_setRow_same h1, r, ?_⟩
  rw [h2, e]
  subst ho
  simp only [List.append_assoc, List.take_left', List.size_toArray]
  rw [hm, ← List.length_append, ← List.append_assoc pre mid, List.drop_left' rfl]
/-- Numbers that a slice holds. -/
def IntsAt (w : World) (v : Value) (l : List Int) : Prop := ∃ a c, v = .slice a l.length c ∧ ∀ i n, l[i]? = some n → ∃ b o, a = some ⟨b, o, none⟩ ∧ w.cell? ⟨b, o + i, none⟩ = some (.int .i64 n)
theorem IntsAt.same {w w' : World} {v : Value} {l : List Int} (h : IntsAt w v l) (e : ∀ k, v.ownBlock = some k → w'.heap[k]? = w.heap[k]?) : IntsAt w' v l := by
  obtain ⟨a, c, rfl, h⟩ := h
  refine ⟨a, c, rfl, fun i n hi => ?_⟩
  obtain ⟨b, o, rfl, h2⟩ := h i n hi
  exact ⟨b, o, rfl, by rw [← h2]; exact World.cell?_of_block (e b rfl)⟩
theorem owns_same {w w' : World} {base : Nat} {e : TypeId} {size : Nat} {v : Value} {n : Nat} {xs : List Value} (h : w.ownsRow base e size v n xs) (hh : ∀ k, v.ownBlock = some k → w'.heap[k]? = w.heap[k]?) : w'.ownsRow base e size v n xs := by
  refine ⟨h.1, ?_⟩
  rcases h.2 with hn | ⟨g, cap, cur, rfl, hb, hgg, rest⟩
  · exact .inl hn
  · exact .inr ⟨g, cap, cur, rfl, hb, by rw [hh g rfl]; exact hgg, rest⟩
/-- An act as a value. -/
def acV : Ac → Value
  | ⟨.inl (i, g)⟩ => .iface 90 (.agg (.int .i64 (i : Int) :: (hv (txt g)).toList).toArray)
  | ⟨.inr i⟩ => .iface 92 (.agg #[.int .i64 (i : Int)])
def ptrB : Value → Option Nat
  | .pointer (some a) => some a.block
  | _ => none
/-- The blocks of a device. -/
def blocks (p a b : Nat) (cv fv kv : Value) : List Nat := p :: a :: b :: (cv.ownBlock.toList ++ ((ptrB fv).toList ++ kv.ownBlock.toList))
def FailAt (w : World) (fv kv : Value) : Option (Nat × List Int) → Prop
  | none => fv = .pointer none ∧ kv = .slice none 0 0
  | some (n, k) => ∃ f, fv = .pointer (some ⟨f, 0, none⟩) ∧ w.heap[f]? = some (.cells #[.int .i64 (n : Int), kv] 83 (0, 0)) ∧ IntsAt w kv k
structure DevAt (w : World) (p : Nat) (d : Dv) (O : Nat → Prop) (a b ca cb : Nat) (cv fv kv : Value) : Prop where
  cells : w.heap[p]? = some (.cells #[.slice (some ⟨a, 0, none⟩) d.sure.length ca, .slice (some ⟨b, 0, none⟩) d.sure.length cb, cv, .bool d.up, .int .i64 (d.starts : Int), fv] 66 (0, 0))
  sure : Rw w a 57 (rc d.sure)
  told : Rw w b 57 (rc d.told)
  len : d.told.length = d.sure.length
  pos : 0 < d.sure.length
  small : d.sure.length ≤ 512
  acts : w.ownsRow 0 79 1 cv d.acts.length (d.acts.map acV)
  inr : ∀ x ∈ d.acts, x.at_ < d.sure.length
  fail : FailAt w fv kv d.fail
  left : ∀ n k, d.fail = some (n, k) → n < 9223372036854775808
  nodup : (blocks p a b cv fv kv).Nodup
  own : ∀ k ∈ blocks p a b cv fv kv, O k ∧ k < w.heap.size
/-- A device in block p that owns blocks. -/
def Dev (w : World) (p : Nat) (d : Dv) (O : Nat → Prop) : Prop := ∃ a b ca cb cv fv kv, DevAt w p d O a b ca cb cv fv kv
/-- Of the old blocks those alone may have turned that are owned. -/
structure Turn (O : Nat → Prop) (w w' : World) : Prop where
  os : w'.os = w.os
  tape : w'.tape = w.tape
  output : w'.output = w.output
  size : w.heap.size ≤ w'.heap.size
  block : ∀ k, k < w.heap.size → ¬ O k → w'.heap[k]? = w.heap[k]?
theorem Turn.refl (O : Nat → Prop) (w : World) : Turn O w w := ⟨rfl, rfl, rfl, Nat.le_refl _, fun _ _ _ => rfl⟩
theorem Turn.of_below {O : Nat → Prop} {w w' : World} (h : Below w.heap.size w w') : Turn O w w' := ⟨h.os, h.tape, h.output, h.size, fun k hk _ => h.block k hk⟩
theorem Turn.below {O : Nat → Prop} {B : Nat} {w w' : World} (h : Turn O w w') (hO : ∀ k, O k → B ≤ k) (hB : B ≤ w.heap.size) : Below B w w' :=
  ⟨h.os, h.tape, h.output, h.size, fun k hk => h.block k (by omega) (fun hk2 => by have := hO k hk2; omega)⟩
theorem FailAt.same {w w' : World} {fv kv : Value} {x : Option (Nat × List Int)} (h : FailAt w fv kv x) (e : ∀ k, ptrB fv = some k ∨ kv.ownBlock = some k → w'.heap[k]? = w.heap[k]?) : FailAt w' fv kv x := by
  cases x with
  | none => exact h
  | some x =>
    obtain ⟨f, rfl, h1, h2⟩ := h
    exact ⟨f, rfl, by rw [e f (.inl rfl)]; exact h1, h2.same fun k hk => e k (.inr hk)⟩
theorem DevAt.same {w w' : World} {p : Nat} {d : Dv} {O O' : Nat → Prop} {a b ca cb : Nat} {cv fv kv : Value} (h : DevAt w p d O a b ca cb cv fv kv) (e : ∀ k ∈ blocks p a b cv fv kv, w'.heap[k]? = w.heap[k]?) (hs : w.heap.size ≤ w'.heap.size) (hO : ∀ k, O k → O' k) : DevAt w' p d O' a b ca cb cv fv kv where
  cells := by rw [e p (by simp [blocks])]; exact h.cells
  sure := h.sure.same (e a (by simp [blocks]))
  told := h.told.same (e b (by simp [blocks]))
  len := h.len
  pos := h.pos
  small := h.small
  acts := owns_same h.acts fun k hk => e k (by simp [blocks, hk])
  inr := h.inr
  fail := h.fail.same fun k hk => e k (by rcases hk with hk | hk <;> simp [blocks, hk])
  left := h.left
  nodup := h.nodup
  own := fun k hk => ⟨hO k (h.own k hk).1, Nat.lt_of_lt_of_le (h.own k hk).2 hs⟩
theorem Dev.below {w w' : World} {p : Nat} {d : Dv} {O : Nat → Prop} (h : Dev w p d O) (hb : Below w.heap.size w w') : Dev w' p d O := by
  obtain ⟨a, b, ca, cb, cv, fv, kv, h⟩ := h
  exact ⟨a, b, ca, cb, cv, fv, kv, h.same (fun k hk => hb.block k (h.own k hk).2) hb.size fun _ h => h⟩
theorem Dev.mono {w : World} {p : Nat} {d : Dv} {O O' : Nat → Prop} (h : Dev w p d O) (hO : ∀ k, O k → O' k) : Dev w p d O' := by
  obtain ⟨a, b, ca, cb, cv, fv, kv, h⟩ := h
  exact ⟨a, b, ca, cb, cv, fv, kv, h.same (fun _ _ => rfl) (Nat.le_refl _) hO⟩
theorem Dev.turn {w w' : World} {p : Nat} {d : Dv} {O O' : Nat → Prop} (h : Dev w p d O) (hb : Turn O' w w') (hO : ∀ k, O k → ¬ O' k) : Dev w' p d O := by
  obtain ⟨a, b, ca, cb, cv, fv, kv, h⟩ := h
  exact ⟨a, b, ca, cb, cv, fv, kv, h.same (fun k hk => hb.block k (h.own k hk).2 (hO k (h.own k hk).1)) hb.size fun _ h => h⟩
/-- What is known of a device's own cells. -/
theorem DevAt.c {w : World} {p : Nat} {d : Dv} {O : Nat → Prop} {a b ca cb : Nat} {cv fv kv : Value} (h : DevAt w p d O a b ca cb cv fv kv) :
    w.cell? ⟨p, 0, none⟩ = some (.slice (some ⟨a, 0, none⟩) d.sure.length ca) ∧ w.cell? ⟨p, 1, none⟩ = some (.slice (some ⟨b, 0, none⟩) d.sure.length cb) ∧ w.cell? ⟨p, 2, none⟩ = some cv ∧ w.cell? ⟨p, 3, none⟩ = some (.bool d.up) ∧ w.cell? ⟨p, 4, none⟩ = some (.int .i64 (d.starts : Int)) ∧ w.cell? ⟨p, 5, none⟩ = some fv := by
  refine ⟨?_, ?_, ?_, ?_, ?_, ?_⟩ <;> rw [cell_of_row _ _ _ _ _ _ h.cells] <;> rfl
end Go.Proofs.Ythlaackalmgfnab
