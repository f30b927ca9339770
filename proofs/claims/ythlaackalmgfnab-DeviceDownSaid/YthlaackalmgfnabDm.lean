/- The device of the document, plainly: nothing of the program. -/
import Derived.Test.YthlaackalmgfnabM2
namespace Go.Proofs.Ythlaackalmgfnab
open Go.RowKit

/-- A block: what it is, its bytes. -/
structure Blk where
  st : Nat
  by_ : Fin 128 → UInt8
/-- A block's text. -/
def txt (g : Fin 128 → UInt8) : List UInt8 := List.ofFn g
@[simp] theorem txt_length (g : Fin 128 → UInt8) : (txt g).length = 128 := List.length_ofFn
/-- The bytes of a text of 128. -/
def ofT (l : List UInt8) : Fin 128 → UInt8 := fun i => l.getD i.val 0
theorem txt_getElem (g : Fin 128 → UInt8) (i : Nat) (h : i < 128) : (txt g)[i]? = some (g ⟨i, h⟩) := by
  unfold txt
  rw [List.getElem?_ofFn]
  rw [dif_pos h]
theorem txt_ofT (l : List UInt8) (h : l.length = 128) : txt (ofT l) = l := by
  apply List.ext_getElem?
  intro i
  by_cases hi : i < 128
  · rw [txt_getElem _ _ hi, List.getElem?_eq_getElem (by omega)]
    show some (l.getD i 0) = _
    rw [List.getD_eq_getElem?_getD, List.getElem?_eq_getElem (by omega)]
    rfl
  · rw [List.getElem?_eq_none (by rw [txt_length]; omega), List.getElem?_eq_none (by omega)]
theorem ofT_txt (g : Fin 128 → UInt8) : ofT (txt g) = g := by
  funext i
  show (txt g).getD i.val 0 = _
  rw [List.getD_eq_getElem?_getD, txt_getElem g i.val i.isLt]
  rfl
theorem txt_inj {a b : Fin 128 → UInt8} (h : txt a = txt b) : a = b := by rw [← ofT_txt a, h, ofT_txt]
/-- A block's cells. -/
def bc (b : Blk) : List Value := .int .i64 (b.st : Int) :: (hv (txt b.by_)).toList
@[simp] theorem bc_length (b : Blk) : (bc b).length = 129 := by
  unfold bc
  rw [List.length_cons, Array.length_toList, hv_size, txt_length]
theorem bc_one (b : Blk) : ∀ v ∈ bc b, v.oneCell' = true := by
  intro v h
  simp only [bc, List.mem_cons] at h
  rcases h with rfl | h
  · rfl
  · simp only [hv, List.mem_map] at h
    obtain ⟨x, _, rfl⟩ := h
    rfl
/-- The cells of blocks. -/
def rc (l : List Blk) : List Value := l.flatMap bc
@[simp] theorem rc_nil : rc [] = [] := rfl
@[simp] theorem rc_cons (b : Blk) (l : List Blk) : rc (b :: l) = bc b ++ rc l := rfl
theorem rc_append (a b : List Blk) : rc (a ++ b) = rc a ++ rc b := by simp [rc]
@[simp] theorem rc_length : ∀ l : List Blk, (rc l).length = l.length * 129
  | [] => rfl
  | b :: l => by simp [rc_length l]; omega
theorem rc_split (l : List Blk) (i : Nat) (b : Blk) (h : l[i]? = some b) : rc l = rc (l.take i) ++ bc b ++ rc (l.drop (i + 1)) := by
  obtain ⟨hi, rfl⟩ := List.getElem?_eq_some_iff.1 h
  conv => lhs; rw [← List.take_append_drop i l, List.drop_eq_getElem_cons hi]
  rw [rc_append, rc_cons, List.append_assoc]
theorem rc_set (l : List Blk) (i : Nat) (b : Blk) (h : i < l.length) : rc (l.set i b) = rc (l.take i) ++ bc b ++ rc (l.drop (i + 1)) := by
  rw [rc_split (l.set i b) i b (by simp [h])]
  rw [List.take_set_of_le (Nat.le_refl _), List.drop_set_of_lt (by omega)]
theorem rc_get (l : List Blk) (i j : Nat) (b : Blk) (h : l[i]? = some b) (hj : j < 129) : (rc l)[i * 129 + j]? = (bc b)[j]? := by
  obtain ⟨hi, _⟩ := List.getElem?_eq_some_iff.1 h
  rw [rc_split l i b h, List.getElem?_append_left (by simp; omega), List.getElem?_append_right (by simp; omega)]
  congr 1
  simp
  omega
/-- An act. -/
structure Ac where
  is : Sum (Nat × (Fin 128 → UInt8)) Nat
abbrev Ac.wr (i : Nat) (g : Fin 128 → UInt8) : Ac := ⟨.inl (i, g)⟩
abbrev Ac.er (i : Nat) : Ac := ⟨.inr i⟩
def Ac.at_ : Ac → Nat
  | ⟨.inl (i, _)⟩ => i
  | ⟨.inr i⟩ => i
/-- A write of which just some sectors are there. -/
def tornB (g : Fin 128 → UInt8) (n : Int) : Fin 128 → UInt8 := fun i => if n / 2 ^ (i.val / 32) % 2 = 1 then g i else 0
/-- What a block comes to by an act. -/
def keptB (was : Blk) : Ac → Int → Blk
  | ⟨.inl (_, g)⟩, n => if n % 16 ≠ 0 then ⟨1, tornB g n⟩ else was
  | ⟨.inr _⟩, n => if n % 2 = 1 then ⟨2, fun _ => 0⟩ else was
/-- A device. -/
structure Dv where
  sure : List Blk
  told : List Blk
  acts : List Ac
  up : Bool
  starts : Nat
  fail : Option (Nat × List Int)
/-- What is sure behind a crash. -/
def sureBy (sure : List Blk) : List Ac → List Int → List Blk
  | [], _ => sure
  | a :: l, k => sureBy (sure.modify a.at_ fun b => keptB b a (k.getD 0 0)) l k.tail
def blank : Blk := ⟨0, fun _ => 0⟩
def newD (n : Nat) : Dv := ⟨List.replicate n blank, List.replicate n blank, [], true, 0, none⟩
end Go.Proofs.Ythlaackalmgfnab
