/- Contracts of frames.marked and frames.unmarked. -/
import Derived.Test.YtalofhnjlmgloaaDoorFb0
import Derived.Test.YtalofhnjlmgloaaDoorLh
namespace Go.Proofs.YtalofhnjlmgloaaDoor
open Go.RowKit Go.Shelf
attribute [local go_sem] Oper.semAt_some

theorem keeps_setRow (W : World) (b : Nat) (cs : Array Value) : KeepsOthers W (W.setRow b cs) :=
  ⟨by simp [World.setRow], fun k o hk ho => by
    by_cases e : k = b
    · subst e
      simp only [World.setRow, Array.getElem?_modify, hk]
      cases o <;> first | rfl | (simp [Obj.isCells] at ho)
    · rw [heap_setRow_ne e]; exact hk⟩
theorem hv_mid (l m : List UInt8) (a n : Nat) (hm : m.length = n) : ((hv l).toList.take a ++ (hv (m.take n)).toList ++ (hv l).toList.drop (a + n)).toArray = hv (l.take a ++ m ++ l.drop (a + n)) := by
  subst hm
  simp [hv]
theorem hv_set (l : List UInt8) (i : Nat) (b : UInt8) : (hv l).setIfInBounds i (.int .u8 (b.toNat : Int)) = hv (l.set i b) := by
  simp only [hv, List.setIfInBounds_toArray, ← List.map_set]
theorem info_u8s : (Tryd.prog.info? 5).map (·.size) = some 1 := by kernel_rfl
/-- A part laid into the block, with its mark. -/
def putM (t b : List UInt8) (j : Fin 4) : List UInt8 := (b.take (32 * j.val) ++ cut t (31 * j.val) 31 ++ b.drop (32 * j.val + 31)).set (32 * j.val + 31) 165
def putU (b t : List UInt8) (j : Fin 4) : List UInt8 := t.take (31 * j.val) ++ cut b (32 * j.val) 31 ++ t.drop (31 * j.val + 31)
theorem mid_get (l m : List UInt8) (a n q : Nat) (hm : m.length = n) (hl : a + n ≤ l.length) : (l.take a ++ m ++ l.drop (a + n))[q]? = if q < a then l[q]? else if q < a + n then m[q - a]? else l[q]? := by
  have ha : (l.take a).length = a := by simp; omega
  by_cases h1 : q < a
  · rw [if_pos h1, List.append_assoc, List.getElem?_append_left (by omega), List.getElem?_take, if_pos h1]
  · rw [if_neg h1]
    by_cases h2 : q < a + n
    · rw [if_pos h2, List.append_assoc, List.getElem?_append_right (by omega), List.getElem?_append_left (by omega), ha]
    · rw [if_neg h2, List.getElem?_append_right (by simp; omega), List.getElem?_drop]
      congr 1
      simp; omega
theorem putM_length (t b : List UInt8) (j : Fin 4) (ht : t.length = 124) (hb : b.length = 128) : (putM t b j).length = 128 := by
  have := j.isLt
  have h := cut_length t (31 * j.val) 31 (by omega)
  simp [putM, h]; omega
theorem putU_length (b t : List UInt8) (j : Fin 4) (hb : b.length = 128) (ht : t.length = 124) : (putU b t j).length = 124 := by
  have := j.isLt
  have h := cut_length b (32 * j.val) 31 (by omega)
  simp [putU, h]; omega
theorem putM_get (t b : List UInt8) (j : Fin 4) (ht : t.length = 124) (hb : b.length = 128) (q : Nat) (hq : q < 128) : (putM t b j)[q]? = if q / 32 = j.val then (if q % 32 = 31 then some 165 else t[q - q / 32]?) else b[q]? := by
  have := j.isLt
  have h := cut_length t (31 * j.val) 31 (by omega)
  unfold putM
  rw [List.getElem?_set]
  by_cases h1 : q / 32 = j.val
  · rw [if_pos h1]
    by_cases h2 : q % 32 = 31
    · rw [if_pos h2, if_pos (by omega), if_pos (by simp [h]; omega)]
    · rw [if_neg h2, if_neg (by omega), mid_get _ _ _ _ _ h (by omega), if_neg (by omega), if_pos (by omega), cut_get, if_pos (by omega)]
      congr 1; omega
  · rw [if_neg h1, if_neg (by omega), mid_get _ _ _ _ _ h (by omega)]
    by_cases h3 : q < 32 * j.val
    · rw [if_pos h3]
    · rw [if_neg h3, if_neg (by omega)]
theorem putU_get (b t : List UInt8) (j : Fin 4) (hb : b.length = 128) (ht : t.length = 124) (q : Nat) (_hq : q < 124) : (putU b t j)[q]? = if q / 31 = j.val then b[q + q / 31]? else t[q]? := by
  have := j.isLt
  have h := cut_length b (32 * j.val) 31 (by omega)
  unfold putU
  rw [mid_get _ _ _ _ _ h (by omega)]
  by_cases h1 : q / 31 = j.val
  · rw [if_pos h1, if_neg (by omega), if_pos (by omega), cut_get, if_pos (by omega)]
    congr 1; omega
  · rw [if_neg h1]
    by_cases h3 : q < 31 * j.val
    · rw [if_pos h3]
    · rw [if_neg h3, if_neg (by omega)]
def fillM (t : List UInt8) (js : List (Fin 4)) : List UInt8 := js.foldl (putM t) (List.replicate 128 0)
def fillU (b : List UInt8) (js : List (Fin 4)) : List UInt8 := js.foldl (putU b) (List.replicate 124 0)
theorem fillM_snoc (t : List UInt8) (js : List (Fin 4)) (j : Fin 4) : fillM t (js ++ [j]) = putM t (fillM t js) j := by simp [fillM]
theorem fillU_snoc (b : List UInt8) (js : List (Fin 4)) (j : Fin 4) : fillU b (js ++ [j]) = putU b (fillU b js) j := by simp [fillU]
theorem foldM_length (t : List UInt8) (ht : t.length = 124) : ∀ (js : List (Fin 4)) (x : List UInt8), x.length = 128 → (js.foldl (putM t) x).length = 128
  | [], _, h => h
  | j :: js, x, h => foldM_length t ht js _ (putM_length t x j ht h)
theorem foldU_length (b : List UInt8) (hb : b.length = 128) : ∀ (js : List (Fin 4)) (x : List UInt8), x.length = 124 → (js.foldl (putU b) x).length = 124
  | [], _, h => h
  | j :: js, x, h => foldU_length b hb js _ (putU_length b x j hb h)
theorem fillM_length (t : List UInt8) (ht : t.length = 124) (js : List (Fin 4)) : (fillM t js).length = 128 := foldM_length t ht js _ (by simp)
theorem fillU_length (b : List UInt8) (hb : b.length = 128) (js : List (Fin 4)) : (fillU b js).length = 124 := foldU_length b hb js _ (by simp)
theorem v0 : (0 : Fin 4).val = 0 := rfl
theorem v1 : (1 : Fin 4).val = 1 := rfl
theorem v2 : (2 : Fin 4).val = 2 := rfl
theorem v3 : (3 : Fin 4).val = 3 := rfl
theorem fillM_all (t : List UInt8) (ht : t.length = 124) : fillM t [0, 1, 2, 3] = markL t := by
  apply List.ext_getElem?
  intro q
  by_cases hq : q < 128
  · have e0 : fillM t [0, 1, 2, 3] = putM t (putM t (putM t (putM t (List.replicate 128 0) 0) 1) 2) 3 := by simp only [fillM, List.foldl_cons, List.foldl_nil]
    rw [e0]
    have l0 : (putM t (List.replicate 128 0) 0).length = 128 := putM_length _ _ _ ht (by simp)
    have l1 := putM_length t _ 1 ht l0
    have l2 := putM_length t _ 2 ht l1
    rw [putM_get t _ 3 ht l2 q hq, putM_get t _ 2 ht l1 q hq, putM_get t _ 1 ht l0 q hq, putM_get t _ 0 ht (by simp) q hq]
    have e : (if q % 32 = 31 then some 165 else t[q - q / 32]?) = (markL t)[q]? := by
      by_cases h : q % 32 = 31
      · rw [if_pos h]
        have := mark_mark ht (q / 32) (by omega)
        rw [show 32 * (q / 32) + 31 = q by omega] at this
        exact this.symm
      · rw [if_neg h, ← mark_get ht (q - q / 32) (by omega)]
        congr 1; omega
    rw [e]
    rw [v3, v2, v1, v0]
    by_cases c3 : q / 32 = 3
    · rw [if_pos c3]
    rw [if_neg c3]
    by_cases c2 : q / 32 = 2
    · rw [if_pos c2]
    rw [if_neg c2]
    by_cases c1 : q / 32 = 1
    · rw [if_pos c1]
    rw [if_neg c1, if_pos (by omega)]
  · rw [List.getElem?_eq_none (by rw [fillM_length t ht]; omega), List.getElem?_eq_none (by rw [markL_length ht]; omega)]
theorem fillU_all (b : List UInt8) (hb : b.length = 128) : fillU b [0, 1, 2, 3] = unmL b := by
  apply List.ext_getElem?
  intro q
  by_cases hq : q < 124
  · have e0 : fillU b [0, 1, 2, 3] = putU b (putU b (putU b (putU b (List.replicate 124 0) 0) 1) 2) 3 := by simp only [fillU, List.foldl_cons, List.foldl_nil]
    rw [e0]
    have l0 : (putU b (List.replicate 124 0) 0).length = 124 := putU_length _ _ _ hb (by simp)
    have l1 := putU_length b _ 1 hb l0
    have l2 := putU_length b _ 2 hb l1
    rw [putU_get b _ 3 hb l2 q hq, putU_get b _ 2 hb l1 q hq, putU_get b _ 1 hb l0 q hq, putU_get b _ 0 hb (by simp) q hq, ← unm_get hb q hq]
    rw [v3, v2, v1, v0]
    by_cases c3 : q / 31 = 3
    · rw [if_pos c3]
    rw [if_neg c3]
    by_cases c2 : q / 31 = 2
    · rw [if_pos c2]
    rw [if_neg c2]
    by_cases c1 : q / 31 = 1
    · rw [if_pos c1]
    rw [if_neg c1, if_pos (by omega)]
  · rw [List.getElem?_eq_none (by rw [fillU_length b hb]; omega), List.getElem?_eq_none (by rw [unmL_length hb]; omega)]
theorem zero_cells (n : Nat) : hv (List.replicate n 0) = Array.replicate n (.int .u8 0) := by
  apply Array.ext'
  simp [hv]
end Go.Proofs.YtalofhnjlmgloaaDoor
