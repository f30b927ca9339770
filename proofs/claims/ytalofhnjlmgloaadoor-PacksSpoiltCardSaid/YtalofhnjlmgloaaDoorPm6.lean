/- Packs, plainly: data as frames' blocks, and out of them; nothing of the program. -/
import Derived.Test.YtalofhnjlmgloaaDoorFm
namespace Go.Proofs.YtalofhnjlmgloaaDoor
open Go.RowKit

/-- How many frames so many bytes are. -/
def cntN (n : Nat) : Nat := if n = 0 then 1 else (n - 1) / 112 + 1
def cntI (n : Int) : Int := if n < 0 then 0 else (cntN n.toNat : Int)
theorem cntN_pos (n : Nat) : 0 < cntN n := by unfold cntN; split <;> omega
theorem cntN_le (n : Nat) : n ≤ 112 * cntN n := by unfold cntN; split <;> omega
theorem cntN_lt {n i : Nat} (h : i < cntN n) (h0 : 0 < i) : 112 * i < n := by
  unfold cntN at h; split at h <;> omega
theorem cntN_at {n i : Nat} (h : i < cntN n) : 112 * i ≤ n := by
  by_cases h0 : 0 < i
  · exact Nat.le_of_lt (cntN_lt h h0)
  · omega
theorem cntN_last {n i : Nat} (h1 : i < n ∨ (i = 0 ∧ n = 0)) (h2 : n ≤ i + 112) (hi : i % 112 = 0) : cntN n = i / 112 + 1 := by
  unfold cntN; split <;> omega
theorem cntN_add (n : Nat) (h : 0 < n) : cntN (n + 112) = cntN n + 1 := by unfold cntN; split <;> (split <;> omega)
/-- The next frame. -/
def frP (k e : Int) (d : List UInt8) (i : Nat) : Fr := ⟨k, e, i, cut d (112 * i) 112⟩
theorem frP_len (k e : Int) (d : List UInt8) (i : Nat) : (frP k e d i).d.length ≤ 112 := by
  show (cut d (112 * i) 112).length ≤ 112
  simp [cut]; omega
def underB (k e : Int) : Bool := kindB k && epochB e
theorem frP_ok {k e : Int} {d : List UInt8} {i : Nat} (h : underB k e = true) (hi : i ≤ 65535) : encE (frP k e d i) = 0 := by
  refine encE_ok.2 ⟨?_, frP_len _ _ _ _⟩
  unfold underB at h
  simp only [Bool.and_eq_true] at h
  show (kindB k && epochB e && indexB (i : Int)) = true
  rw [h.1, h.2]
  simp [indexB]; omega
theorem frP_no {k e : Int} {d : List UInt8} {i : Nat} (h : underB k e = false) : encE (frP k e d i) = 2 := by
  unfold encE
  rw [if_neg]
  intro hm
  have hm : (kindB k && epochB e && indexB (i : Int)) = true := hm
  simp only [Bool.and_eq_true] at hm
  simp [underB, hm.1.1, hm.1.2] at h
/-- The blocks of data. -/
def blkL (k e : Int) (d : List UInt8) : List (List UInt8) := (List.range (cntN d.length)).map fun i => encL (frP k e d i)
theorem blkL_length (k e : Int) (d : List UInt8) : (blkL k e d).length = cntN d.length := by simp [blkL]
theorem blkL_get {k e : Int} {d : List UInt8} {i : Nat} (h : i < cntN d.length) : (blkL k e d)[i]? = some (encL (frP k e d i)) := by
  unfold blkL
  rw [List.getElem?_map, List.getElem?_range h]; rfl
def splitE (k e : Int) (d : List UInt8) : Int := if 65536 < cntN d.length then 3 else (if underB k e then 0 else 2)
def splitL (k e : Int) (d : List UInt8) : List (List UInt8) := if splitE k e d = 0 then blkL k e d else []
theorem splitE_ok {k e : Int} {d : List UInt8} : splitE k e d = 0 ↔ cntN d.length ≤ 65536 ∧ underB k e = true := by
  unfold splitE
  by_cases h : 65536 < cntN d.length
  · simp [h]; omega
  · by_cases h2 : underB k e = true
    · simp [h, h2]; omega
    · simp [h, h2]
theorem splitL_ok {k e : Int} {d : List UInt8} (h : splitE k e d = 0) : splitL k e d = blkL k e d := by simp [splitL, h]
theorem splitL_no {k e : Int} {d : List UInt8} (h : splitE k e d ≠ 0) : splitL k e d = [] := by simp [splitL, h]
/-- What a block of data tells. -/
theorem blk_dec {k e : Int} {d : List UInt8} (h : splitE k e d = 0) {i : Nat} (hi : i < cntN d.length) : decB (encL (frP k e d i)) = true ∧ decF (encL (frP k e d i)) = frP k e d i := by
  obtain ⟨h1, h2⟩ := splitE_ok.1 h
  exact dec_enc (frP_ok h2 (by omega))
/-- The data of blocks, one behind the other. -/
def dataL (l : List (List UInt8)) : List UInt8 := (l.map fun b => (decF b).d).flatten
theorem dataL_append (l m : List (List UInt8)) : dataL (l ++ m) = dataL l ++ dataL m := by simp [dataL]
theorem dataL_one (b : List UInt8) : dataL [b] = (decF b).d := by simp [dataL]
theorem dataL_nil : dataL [] = [] := rfl
theorem dataL_take {l : List (List UInt8)} {m : Nat} {b : List UInt8} (h : l[m]? = some b) : dataL (l.take (m + 1)) = dataL (l.take m) ++ (decF b).d := by
  rw [List.take_add_one, h, dataL_append, Option.toList_some, dataL_one]
theorem dec_len {b : List UInt8} : (decF b).d.length ≤ 112 := by
  cases h : decB b with
  | true => exact (encE_ok.1 (enc_dec h).1).2
  | false => unfold decF; rw [h]; simp [nof]
theorem dataL_len (l : List (List UInt8)) : (dataL l).length ≤ 112 * l.length := by
  induction l with
  | nil => simp [dataL_nil]
  | cons b l ih =>
    rw [show b :: l = [b] ++ l from rfl, dataL_append, dataL_one, List.length_append, List.length_append]
    have := dec_len (b := b)
    simp; omega
/-- The first blocks of data. -/
theorem blk_take {k e : Int} {d : List UInt8} (h : splitE k e d = 0) : ∀ m, m ≤ cntN d.length → dataL ((blkL k e d).take m) = d.take (112 * m)
  | 0, _ => by simp [dataL_nil]
  | m + 1, hm => by
    rw [dataL_take (blkL_get (by omega)), blk_take h m (by omega), (blk_dec h (by omega)).2]
    show d.take (112 * m) ++ cut d (112 * m) 112 = _
    rw [show 112 * (m + 1) = 112 * m + 112 by omega, List.take_add]; rfl
theorem blk_data {k e : Int} {d : List UInt8} (h : splitE k e d = 0) : dataL (blkL k e d) = d := by
  have := blk_take h (cntN d.length) (Nat.le_refl _)
  rw [List.take_of_length_le (by rw [blkL_length]; omega), List.take_of_length_le (cntN_le _)] at this
  exact this
/-- Are these the blocks of some data? -/
def joinB (l : List (List UInt8)) (k e : Int) : Bool := decide (splitE k e (dataL l) = 0) && decide (blkL k e (dataL l) = l)
def joinL (l : List (List UInt8)) (k e : Int) : List UInt8 := if joinB l k e then dataL l else []
def joinE (l : List (List UInt8)) (k e : Int) : Int := if joinB l k e then 0 else 10
theorem joinE_ok {l : List (List UInt8)} {k e : Int} : joinE l k e = 0 ↔ joinB l k e = true := by unfold joinE; cases joinB l k e <;> simp
theorem join_no {l : List (List UInt8)} {k e : Int} (h : joinB l k e = false) : joinL l k e = [] ∧ joinE l k e = 10 := by unfold joinL joinE; rw [h]; exact ⟨rfl, rfl⟩
theorem join_yes {l : List (List UInt8)} {k e : Int} (h : joinB l k e = true) : joinL l k e = dataL l ∧ joinE l k e = 0 := by unfold joinL joinE; rw [h]; exact ⟨rfl, rfl⟩
theorem join_split {k e : Int} {d : List UInt8} (h : splitE k e d = 0) : joinB (blkL k e d) k e = true ∧ joinL (blkL k e d) k e = d ∧ joinE (blkL k e d) k e = 0 := by
  have hb : joinB (blkL k e d) k e = true := by unfold joinB; rw [blk_data h]; simp [h]
  refine ⟨hb, ?_, (join_yes hb).2⟩
  rw [(join_yes hb).1, blk_data h]
theorem split_join {l : List (List UInt8)} {k e : Int} (h : joinB l k e = true) : splitE k e (dataL l) = 0 ∧ splitL k e (dataL l) = l := by
  unfold joinB at h
  simp only [Bool.and_eq_true, decide_eq_true_eq] at h
  exact ⟨h.1, by rw [splitL_ok h.1]; exact h.2⟩
/-- A block at its place. -/
def goodB (l : List (List UInt8)) (k e : Int) (i : Nat) (b : List UInt8) : Prop := decB b = true ∧ (decF b).k = k ∧ (decF b).e = e ∧ (decF b).i = i ∧ (dataL (l.take i)).length = 112 * i
theorem join_good {l : List (List UInt8)} {k e : Int} (h : joinB l k e = true) : (∀ i b, l[i]? = some b → goodB l k e i b) ∧ cntN (dataL l).length = l.length := by
  unfold joinB at h
  simp only [Bool.and_eq_true, decide_eq_true_eq] at h
  obtain ⟨h1, h2⟩ := h
  generalize dataL l = d at *
  subst h2
  refine ⟨fun i b hb => ?_, (blkL_length _ _ _).symm⟩
  have hi : i < cntN d.length := by
    have := (List.getElem?_eq_some_iff.1 hb).1
    rwa [blkL_length] at this
  rw [blkL_get hi] at hb
  obtain rfl := Option.some.inj hb
  obtain ⟨a1, a2⟩ := blk_dec h1 hi
  refine ⟨a1, by rw [a2]; rfl, by rw [a2]; rfl, by rw [a2]; rfl, ?_⟩
  rw [blk_take h1 i (by omega), List.length_take]
  have := cntN_at hi
  omega
theorem good_join {l : List (List UInt8)} {k e : Int} (hg : ∀ i b, l[i]? = some b → goodB l k e i b) (hc : cntN (dataL l).length = l.length) : joinB l k e = true := by
  have hp := cntN_pos (dataL l).length
  have get : ∀ i, i < l.length → ∃ b, l[i]? = some b := fun i hi => ⟨_, List.getElem?_eq_getElem hi⟩
  have hs : splitE k e (dataL l) = 0 := by
    refine splitE_ok.2 ⟨?_, ?_⟩
    · obtain ⟨b, hb⟩ := get (l.length - 1) (by omega)
      obtain ⟨a1, _, _, a4, _⟩ := hg _ _ hb
      have := (mayB_of (encE_ok.1 (enc_dec a1).1).1).2.2
      rw [a4] at this
      omega
    · obtain ⟨b, hb⟩ := get 0 (by omega)
      obtain ⟨a1, a2, a3, a4, _⟩ := hg _ _ hb
      have := (encE_ok.1 (enc_dec a1).1).1
      unfold mayB at this
      rw [a2, a3] at this
      simp only [Bool.and_eq_true] at this
      simp [underB, this.1.1, this.1.2]
  unfold joinB
  rw [hs]
  simp only [decide_true, Bool.true_and, decide_eq_true_eq]
  apply List.ext_getElem?
  intro i
  by_cases hi : i < l.length
  · obtain ⟨b, hb⟩ := get i hi
    rw [blkL_get (by omega), hb]
    obtain ⟨a1, a2, a3, a4, a5⟩ := hg _ _ hb
    have hx : frP k e (dataL l) i = decF b := by
      refine Fr.ext' a2.symm a3.symm a4.symm ?_
      show cut (dataL l) (112 * i) 112 = _
      have e1 : l = l.take i ++ ([b] ++ l.drop (i + 1)) := by
        have := (List.getElem?_eq_some_iff.1 hb)
        obtain ⟨h1, h2⟩ := this
        rw [← h2, List.singleton_append, List.getElem_cons_drop, List.take_append_drop]
      have e2 : dataL l = dataL (l.take i) ++ ((decF b).d ++ dataL (l.drop (i + 1))) := by
        conv => lhs; rw [e1]
        rw [dataL_append, dataL_append, dataL_one]
      by_cases hl : i + 1 < l.length
      · obtain ⟨c, hc2⟩ := get (i + 1) hl
        have a6 := (hg _ _ hc2).2.2.2.2
        rw [dataL_take hb, List.length_append] at a6
        rw [e2]
        exact cut_mid _ _ _ a5 (by omega)
      · rw [e2, List.drop_of_length_le (by omega), dataL_nil, List.append_nil]
        unfold cut
        rw [List.drop_left' a5, List.take_of_length_le dec_len]
    rw [hx, (enc_dec a1).2]
  · rw [List.getElem?_eq_none (by rw [blkL_length]; omega), List.getElem?_eq_none (by omega)]
/-- One that does not stand at its place. -/
theorem bad_join {l : List (List UInt8)} {k e : Int} {i : Nat} {b : List UInt8} (hb : l[i]? = some b) (h : ¬ goodB l k e i b) : joinB l k e = false := by
  cases hj : joinB l k e with
  | false => rfl
  | true => exact absurd ((join_good hj).1 i b hb) h
theorem join_nil (k e : Int) : joinB [] k e = false := by
  cases hj : joinB [] k e with
  | false => rfl
  | true =>
    have := (join_good hj).2
    have h2 := cntN_pos (dataL []).length
    rw [this] at h2
    cases h2
/-- The first ones alone. -/
theorem join_first {k e : Int} {d : List UInt8} (h : splitE k e d = 0) {i : Nat} (h0 : 0 < i) (hi : i < cntN d.length) : joinB ((blkL k e d).take i) k e = true ∧ dataL ((blkL k e d).take i) = d.take (112 * i) := by
  have hd := blk_take h i (by omega)
  have hlt := cntN_lt hi h0
  refine ⟨?_, hd⟩
  refine good_join (fun j b hb => ?_) ?_
  · have hj : j < i := by
      have := (List.getElem?_eq_some_iff.1 hb).1
      simp at this; omega
    rw [List.getElem?_take, if_pos hj] at hb
    have hg := (join_good (join_split h).1).1 j b hb
    refine ⟨hg.1, hg.2.1, hg.2.2.1, hg.2.2.2.1, ?_⟩
    rw [List.take_take, Nat.min_eq_left (by omega)]
    exact hg.2.2.2.2
  · rw [hd, List.length_take, Nat.min_eq_left (by omega), List.length_take, blkL_length, Nat.min_eq_left (by omega)]
    unfold cntN
    rw [if_neg (by omega)]
    omega
end Go.Proofs.YtalofhnjlmgloaaDoor
