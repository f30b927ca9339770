/- The document's device: what is stored into it; in the midst of a crash. -/
import Derived.Test.YthlaackalmgfnaaTa
/- The document's own device, plainly; it is the device of before. -/
namespace Go.Proofs.Ythlaackalmgfnaa
open Go.RowKit

/-- An act as the document has it. -/
structure RA where
  bl : Int
  da : List UInt8
  er : Bool
/-- The document's device. -/
structure Rv where
  st : List Int
  da : List (List UInt8)
  acts : List RA
  off : Bool
  begun : Nat
  fails : Bool
  left : Int
  keep : List Int
def ratS (i : Int) (z : Int × List UInt8) (x : RA) : Int × List UInt8 := if x.bl = i then (if x.er then (2, []) else (1, x.da)) else z
def ratN (r : Rv) (i : Int) (k : Nat) : Int × List UInt8 := (r.acts.take k).foldl (ratS i) (r.st.getD i.toNat 0, r.da.getD i.toNat [])
def ratD (r : Rv) (i : Int) : Int × List UInt8 := if 0 ≤ i ∧ i < r.st.length then ratN r i r.acts.length else (-1, [])
def rstatesD (r : Rv) : List Int := (List.range r.st.length).map fun i : Nat => (ratD r (i : Int)).1
def rreadD (r : Rv) (i : Int) : List UInt8 × Int :=
  if r.off then ([], 43) else if (ratD r i).1 < 0 then ([], 2) else if (ratD r i).1 = 0 then ([], 41) else if (ratD r i).1 = 2 then ([], 42) else ((ratD r i).2, 0)
def tornN (data : List UInt8) (bits : Int) : Nat → List UInt8
  | 0 => []
  | k + 1 => tornN data bits k ++ (if bits / 2 ^ k % 2 = 1 then (data.drop (32 * k)).take 32 else List.replicate 32 0)
def rcrashN (st : List Int) (da : List (List UInt8)) (acts : List RA) (keep : List Int) : Nat → List Int × List (List UInt8)
  | 0 => (st, da)
  | m + 1 =>
    match acts[m]? with
    | none => rcrashN st da acts keep m
    | some x =>
      if x.er then (if keep.getD m 0 % 16 % 2 = 1 then ((rcrashN st da acts keep m).1.set x.bl.toNat 2, (rcrashN st da acts keep m).2.set x.bl.toNat []) else rcrashN st da acts keep m)
      else (if 0 < keep.getD m 0 % 16 then ((rcrashN st da acts keep m).1.set x.bl.toNat 1, (rcrashN st da acts keep m).2.set x.bl.toNat (tornN x.da (keep.getD m 0 % 16) 4)) else rcrashN st da acts keep m)
def rcrashD (r : Rv) (k : List Int) : Rv := { r with st := (rcrashN r.st r.da r.acts k r.acts.length).1, da := (rcrashN r.st r.da r.acts k r.acts.length).2, acts := [], off := true, fails := false }
def rcrashE (r : Rv) (k : List Int) : Int × Rv := if r.off then (43, r) else (0, rcrashD r k)
def rdoneD (r : Rv) : Int × Rv :=
  if r.fails = false then (0, r) else if 0 ≤ r.left - 1 then (0, { r with left := r.left - 1 }) else (43, rcrashD { r with left := r.left - 1 } r.keep)
def ractD (r : Rv) (x : RA) : Int × Rv := rdoneD { r with acts := r.acts ++ [x] }
def rwriteD (r : Rv) (i : Int) (s : List UInt8) : Int × Rv :=
  if r.off then (43, r) else if (ratD r i).1 < 0 ∨ s.length ≠ 128 then (2, r) else if (ratD r i).1 = 1 then (40, r) else if (ratD r i).1 = 2 then (42, r) else ractD r ⟨i, s, false⟩
def reraseD (r : Rv) (i : Int) : Int × Rv :=
  if r.off then (43, r) else if (ratD r i).1 < 0 then (2, r) else if (ratD r i).1 = 0 then (41, r) else if (ratD r i).1 = 2 then (0, r) else ractD r ⟨i, [], true⟩
def rsureN (r : Rv) (m : Nat) : Rv := { r with st := (List.range m).map (fun i : Nat => (ratD r (i : Int)).1) ++ r.st.drop m, da := (List.range m).map (fun i : Nat => (ratD r (i : Int)).2) ++ r.da.drop m }
def rsureD (r : Rv) : Rv := { rsureN r r.st.length with acts := [] }
def rflushD (r : Rv) : Int × Rv :=
  if r.off then (43, r) else if (rdoneD r).1 ≠ 0 then rdoneD r else (0, rsureD (rdoneD r).2)
def rfailD (r : Rv) (n : Int) (k : List Int) : Int × Rv := if r.off then (43, r) else if n < 0 then (2, r) else (0, { r with fails := true, left := n, keep := k })
def rstartD (r : Rv) : Int × Rv := if r.off = false then (2, r) else (0, { r with off := false, begun := r.begun + 1 })
def rtamperD (r : Rv) (i st : Int) (s : List UInt8) : Int × Rv :=
  if ¬ (0 ≤ i ∧ i < r.st.length) ∨ st < 0 ∨ 2 < st ∨ (st = 1 ∧ s.length ≠ 128) ∨ (st ≠ 1 ∧ s ≠ []) then (2, r)
  else (0, { r with acts := r.acts.filter fun x => decide (x.bl ≠ i), st := r.st.set i.toNat st, da := r.da.set i.toNat s })
def rcloneD (r : Rv) : Rv := ⟨r.st, r.da, [], false, 0, false, 0, []⟩
/-- What a thing asked tells, and makes. -/
def byR (r : Rv) (x : DoX) : Int × Rv :=
  if x.q % 13 = 12 then rtamperD r x.i x.n (dataT x.n x.s)
  else if x.q % 13 = 4 then rwriteD r x.i x.s
  else if x.q % 13 = 5 ∨ x.q % 13 = 6 then reraseD r x.i
  else if x.q % 13 = 7 then rflushD r
  else if x.q % 13 = 8 then rcrashE r x.k
  else if x.q % 13 = 9 ∨ x.q % 13 = 10 then rstartD r
  else if x.q % 13 = 11 then rfailD r x.n x.k
  else rwriteD r x.i (blockT x.s)
/-- An act of before. -/
def raOf : Ac → RA
  | ⟨.inl (i, g)⟩ => ⟨(i : Int), txt g, false⟩
  | ⟨.inr i⟩ => ⟨(i : Int), [], true⟩
theorem raOf_bl (x : Ac) : (raOf x).bl = (x.at_ : Int) := by rcases x with ⟨⟨i, g⟩ | i⟩ <;> rfl
/-- A device that can come about. -/
structure Sane (d : Dv) : Prop where
  len : d.told.length = d.sure.length
  tl : d.told = tell d.sure d.acts
  inr : ∀ x ∈ d.acts, x.at_ < d.sure.length
/-- The document's device is that of before. -/
structure Sim (d : Dv) (r : Rv) : Prop where
  st : r.st = d.sure.map fun b => (b.st : Int)
  da : r.da = d.sure.map txB
  acts : r.acts = d.acts.map raOf
  off : r.off = !d.up
  begun : r.begun = d.starts
  fail : r.fails = d.fail.isSome
  fl : ∀ n k, d.fail = some (n, k) → r.left = (n : Int) ∧ r.keep = k
theorem tornB_all (g : Fin 128 → UInt8) : tornB g 15 = g := by
  funext i
  unfold tornB
  have h := i.isLt
  have : i.val / 32 = 0 ∨ i.val / 32 = 1 ∨ i.val / 32 = 2 ∨ i.val / 32 = 3 := by omega
  rcases this with e | e | e | e <;> rw [e] <;> rfl
theorem txB_set (b : Blk) : ∀ x : Ac, ((keptB b x 15).st : Int) = (ratS (x.at_ : Int) ((b.st : Int), txB b) (raOf x)).1 ∧ txB (keptB b x 15) = (ratS (x.at_ : Int) ((b.st : Int), txB b) (raOf x)).2
  | ⟨.inl (i, g)⟩ => by
    have e : keptB b (.wr i g) 15 = ⟨1, g⟩ := by
      show (if (15 : Int) % 16 ≠ 0 then (⟨1, tornB g 15⟩ : Blk) else b) = _
      rw [if_pos (by decide), tornB_all]
    rw [e]
    unfold ratS
    rw [if_pos (raOf_bl _)]
    simp [txB, raOf]
  | ⟨.inr i⟩ => by
    have e : keptB b (.er i) 15 = ⟨2, fun _ => 0⟩ := rfl
    rw [e]
    unfold ratS
    rw [if_pos (raOf_bl _)]
    exact ⟨rfl, rfl⟩
theorem rat_fold (i : Nat) : ∀ (acts : List Ac) (s : List Blk), i < s.length → (acts.map raOf).foldl (ratS (i : Int)) (((s.getD i blank).st : Int), txB (s.getD i blank)) = ((((tell s acts).getD i blank).st : Int), txB ((tell s acts).getD i blank))
  | [], _, _ => rfl
  | x :: l, s, h => by
    have e : ratS (i : Int) (((s.getD i blank).st : Int), txB (s.getD i blank)) (raOf x) = ((((stepT s x).getD i blank).st : Int), txB ((stepT s x).getD i blank)) := by
      by_cases hx : x.at_ = i
      · subst hx
        rw [stepT_on s x h]
        obtain ⟨h1, h2⟩ := txB_set (s.getD x.at_ blank) x
        rw [h1, h2]
      · rw [getD_off (stepT_off s x i hx)]
        unfold ratS
        rw [raOf_bl, if_neg (by omega)]
    show List.foldl _ (ratS _ _ (raOf x)) (l.map raOf) = _
    rw [e, rat_fold i l (stepT s x) (by rw [stepT_len]; exact h)]
    rfl
theorem getD_map_st (s : List Blk) (i : Nat) (h : i < s.length) : (s.map fun b => (b.st : Int)).getD i 0 = ((s.getD i blank).st : Int) := by
  rw [List.getD_eq_getElem?_getD, List.getElem?_map, List.getD_eq_getElem?_getD, List.getElem?_eq_getElem h]; rfl
theorem getD_map_tx (s : List Blk) (i : Nat) (h : i < s.length) : (s.map txB).getD i [] = txB (s.getD i blank) := by
  rw [List.getD_eq_getElem?_getD, List.getElem?_map, List.getD_eq_getElem?_getD, List.getElem?_eq_getElem h]; rfl
theorem Sim.at_ {d : Dv} {r : Rv} (h : Sim d r) (hd : Sane d) (i : Nat) (hi : i < d.sure.length) : ratD r (i : Int) = (((d.told.getD i blank).st : Int), txB (d.told.getD i blank)) := by
  unfold ratD ratN
  rw [if_pos (by rw [h.st]; simp; omega), List.take_length, h.st, h.da, h.acts, Int.toNat_natCast, getD_map_st _ _ hi, getD_map_tx _ _ hi, rat_fold i d.acts d.sure hi, hd.tl]
theorem Sim.out {d : Dv} {r : Rv} (h : Sim d r) (i : Int) (hi : ¬ (0 ≤ i ∧ i < d.sure.length)) : ratD r i = (-1, []) := by
  unfold ratD
  rw [if_neg (by rw [h.st]; simpa using hi)]
theorem Sim.state {d : Dv} {r : Rv} (h : Sim d r) (hd : Sane d) (i : Int) : (ratD r i).1 = stAtD d i := by
  by_cases hi : 0 ≤ i ∧ i < d.sure.length
  · obtain ⟨j, rfl⟩ : ∃ j : Nat, i = j := ⟨i.toNat, by omega⟩
    have hj : j < d.sure.length := by omega
    rw [h.at_ hd j hj, state_b j (d.told.getD j blank) (by rw [List.getD_eq_getElem?_getD, List.getElem?_eq_getElem (by rw [hd.len]; exact hj)]; rfl)]
  · rw [h.out i hi]
    unfold stAtD
    by_cases h0 : 0 ≤ i
    · rw [if_pos h0, List.getElem?_eq_none (by have := hd.len; omega)]; rfl
    · rw [if_neg h0]
theorem stAtD_nn {d : Dv} (hd : Sane d) (i : Int) : stAtD d i < 0 ↔ ¬ (0 ≤ i ∧ i < d.sure.length) := by
  by_cases hi : 0 ≤ i ∧ i < d.sure.length
  · obtain ⟨j, rfl⟩ : ∃ j : Nat, i = j := ⟨i.toNat, by omega⟩
    have hj : j < d.sure.length := by omega
    rw [state_b j (d.told.getD j blank) (by rw [List.getD_eq_getElem?_getD, List.getElem?_eq_getElem (by rw [hd.len]; exact hj)]; rfl)]
    constructor
    · intro h; omega
    · intro h; exact absurd hi h
  · refine ⟨fun _ => hi, fun _ => ?_⟩
    unfold stAtD
    by_cases h0 : 0 ≤ i
    · rw [if_pos h0, List.getElem?_eq_none (by have := hd.len; omega)]; exact (by decide : (-1 : Int) < 0)
    · rw [if_neg h0]; exact (by decide : (-1 : Int) < 0)
theorem Sim.read {d : Dv} {r : Rv} (h : Sim d r) (hd : Sane d) (i : Int) : rreadD r i = readD d i := by
  unfold rreadD
  rw [h.off]
  cases hu : d.up with
  | false => unfold readD; rw [hu]; rfl
  | true =>
    by_cases hi : 0 ≤ i ∧ i < d.sure.length
    · obtain ⟨j, rfl⟩ : ∃ j : Nat, i = j := ⟨i.toNat, by omega⟩
      have hj : j < d.sure.length := by omega
      rw [h.at_ hd j hj, read_b hu j (d.told.getD j blank) (by rw [List.getD_eq_getElem?_getD, List.getElem?_eq_getElem (by rw [hd.len]; exact hj)]; rfl)]
      dsimp only
      generalize d.told.getD j blank = b
      unfold txB
      rw [if_neg (by decide : ¬ (!true) = true), if_neg (by omega)]
      by_cases h0 : b.st = 0
      · rw [if_pos (by omega), if_pos h0, if_pos h0]
      · rw [if_neg (by omega), if_neg h0, if_neg h0]
        by_cases h2 : b.st = 2
        · rw [if_pos (by omega), if_pos h2, if_pos h2]
        · rw [if_neg (by omega), if_neg h2, if_neg h2]
    · rw [h.out i hi, if_neg (by decide : ¬ (!true) = true), if_pos (by decide : (-1 : Int) < 0)]
      unfold readD
      rw [if_pos hu]
      by_cases h0 : 0 ≤ i
      · rw [if_pos h0, List.getElem?_eq_none (by have := hd.len; omega)]
      · rw [if_neg h0]
theorem Sim.states {d : Dv} {r : Rv} (h : Sim d r) (hd : Sane d) : rstatesD r = statesD d := by
  unfold rstatesD statesD
  have hl : r.st.length = d.sure.length := by rw [h.st]; simp
  apply List.ext_getElem?
  intro i
  by_cases hi : i < d.sure.length
  · rw [List.getElem?_map, List.getElem?_range (by omega), List.getElem?_map]
    have := h.at_ hd i hi
    rw [List.getElem?_eq_getElem (by rw [hd.len]; exact hi)]
    simp only [Option.map_some, this]
    rw [List.getD_eq_getElem?_getD, List.getElem?_eq_getElem (by rw [hd.len]; exact hi)]
    rfl
  · rw [List.getElem?_eq_none (by simp; omega), List.getElem?_eq_none (by simp; have := hd.len; omega)]
end Go.Proofs.Ythlaackalmgfnaa

/- What is asked of the document's device does to it what it does to that of before. -/
namespace Go.Proofs.Ythlaackalmgfnaa
open Go.RowKit

theorem bit_mod (n : Int) (m : Nat) (h : m < 4) : n % 16 / 2 ^ m % 2 = n / 2 ^ m % 2 := by
  have : m = 0 ∨ m = 1 ∨ m = 2 ∨ m = 3 := by omega
  rcases this with rfl | rfl | rfl | rfl
  · simp
  · have e : (2 : Int) ^ 1 = 2 := rfl
    rw [e]; omega
  · have e : (2 : Int) ^ 2 = 4 := rfl
    rw [e]; omega
  · have e : (2 : Int) ^ 3 = 8 := rfl
    rw [e]; omega
theorem tornN_len (data : List UInt8) (hd : data.length = 128) (bits : Int) : ∀ m, m ≤ 4 → (tornN data bits m).length = 32 * m
  | 0, _ => rfl
  | m + 1, h => by
    unfold tornN
    rw [List.length_append, tornN_len data hd bits m (by omega)]
    split
    · simp; omega
    · simp; omega
theorem tornN_get (g : Fin 128 → UInt8) (n : Int) : ∀ m, m ≤ 4 → ∀ i (hi : i < 128), i < 32 * m → (tornN (txt g) (n % 16) m)[i]? = some (if n / 2 ^ (i / 32) % 2 = 1 then g ⟨i, hi⟩ else 0)
  | 0, _, i, _, h => by omega
  | m + 1, hm, i, hi, h => by
    have hl := tornN_len (txt g) (txt_length g) (n % 16) m (by omega)
    unfold tornN
    by_cases hlt : i < 32 * m
    · rw [List.getElem?_append_left (by omega)]
      exact tornN_get g n m (by omega) i hi hlt
    · rw [List.getElem?_append_right (by omega), hl, bit_mod n m (by omega)]
      have e : i / 32 = m := by omega
      rw [e]
      by_cases hb : n / 2 ^ m % 2 = 1
      · rw [if_pos hb, if_pos hb, List.getElem?_take_of_lt (by omega), List.getElem?_drop]
        rw [← txt_getElem g i hi]
        congr 1
        omega
      · rw [if_neg hb, if_neg hb, List.getElem?_replicate, if_pos (by omega)]
theorem torn_eq (g : Fin 128 → UInt8) (n : Int) : tornN (txt g) (n % 16) 4 = txt (tornB g n) := by
  apply List.ext_getElem?
  intro i
  by_cases hi : i < 128
  · rw [tornN_get g n 4 (Nat.le_refl _) i hi (by omega), txt_getElem _ _ hi]; rfl
  · rw [List.getElem?_eq_none (by rw [tornN_len _ (txt_length g) _ 4 (Nat.le_refl _)]; omega), List.getElem?_eq_none (by rw [txt_length]; omega)]
theorem set_getD_self (l : List Blk) (i : Nat) : l.set i (l.getD i blank) = l := by
  apply List.ext_getElem?
  intro j
  by_cases h : i = j
  · subst h
    rw [List.getElem?_set_self']
    cases hq : l[i]? with
    | none => rfl
    | some b => rw [List.getD_eq_getElem?_getD, hq]; rfl
  · rw [List.getElem?_set_ne h]
theorem rcrash_eq (s t : List Blk) (acts : List Ac) (k : List Int) : ∀ m, rcrashN (s.map fun b => (b.st : Int)) (s.map txB) (acts.map raOf) k m = ((crashN s t acts k m).1.map (fun b => (b.st : Int)), (crashN s t acts k m).1.map txB)
  | 0 => rfl
  | m + 1 => by
    have h := rcrash_eq s t acts k m
    unfold rcrashN crashN
    rw [List.getElem?_map]
    cases acts[m]? with
    | none => exact h
    | some x =>
      dsimp only [Option.map_some]
      rw [h]
      generalize (crashN s t acts k m).1 = S1
      generalize k.getD m 0 = n
      rcases x with ⟨⟨i, g⟩ | i⟩
      · show (if false = true then _ else (if 0 < n % 16 then ((S1.map fun b => (b.st : Int)).set (i : Int).toNat 1, (S1.map txB).set (i : Int).toNat (tornN (txt g) (n % 16) 4)) else (S1.map (fun b => (b.st : Int)), S1.map txB))) = ((S1.set i (if n % 16 ≠ 0 then ⟨1, tornB g n⟩ else S1.getD i blank)).map (fun b => (b.st : Int)), (S1.set i (if n % 16 ≠ 0 then ⟨1, tornB g n⟩ else S1.getD i blank)).map txB)
        rw [if_neg (by decide)]
        by_cases hn : n % 16 = 0
        · rw [if_neg (by omega), if_neg (fun e => e hn), set_getD_self]
        · rw [if_pos (by omega), if_pos hn, List.map_set, List.map_set, Int.toNat_natCast, torn_eq]
          simp [txB]
      · show (if true = true then (if n % 16 % 2 = 1 then ((S1.map fun b => (b.st : Int)).set (i : Int).toNat 2, (S1.map txB).set (i : Int).toNat []) else (S1.map (fun b => (b.st : Int)), S1.map txB)) else _) = ((S1.set i (if n % 2 = 1 then ⟨2, fun _ => 0⟩ else S1.getD i blank)).map (fun b => (b.st : Int)), (S1.set i (if n % 2 = 1 then ⟨2, fun _ => 0⟩ else S1.getD i blank)).map txB)
        rw [if_pos rfl]
        by_cases hn : n % 2 = 1
        · rw [if_pos (by omega), if_pos hn, List.map_set, List.map_set, Int.toNat_natCast]
          rfl
        · rw [if_neg (by omega), if_neg hn, set_getD_self]
theorem Sane.off {d : Dv} (h : Sane d) (j : Nat) (hj : ∀ a ∈ d.acts, a.at_ ≠ j) : d.told[j]? = d.sure[j]? := by rw [h.tl]; exact tell_off _ _ _ hj
theorem Sane.crash {d : Dv} (h : Sane d) (k : List Int) : Sane (crashD d k) := by
  have hl := crashN_len d.sure d.told d.acts k d.acts.length
  refine ⟨?_, ?_, fun x hx => by cases hx⟩
  · show (crashN _ _ _ _ _).2.length = (crashN _ _ _ _ _).1.length
    rw [hl.1, hl.2]; exact h.len
  · exact crash_off h.len (fun j hj => h.off j hj) k
theorem Sim.crash {d : Dv} {r : Rv} (h : Sim d r) (k : List Int) : Sim (crashD d k) (rcrashD r k) := by
  have e := rcrash_eq d.sure d.told d.acts k d.acts.length
  have el : r.acts.length = d.acts.length := by rw [h.acts]; simp
  have e2 : rcrashN r.st r.da r.acts k r.acts.length = ((crashN d.sure d.told d.acts k d.acts.length).1.map (fun b => (b.st : Int)), (crashN d.sure d.told d.acts k d.acts.length).1.map txB) := by rw [el, h.st, h.da, h.acts]; exact e
  refine ⟨?_, ?_, rfl, rfl, h.begun, rfl, fun _ _ hh => by cases hh⟩
  · show (rcrashN r.st r.da r.acts k r.acts.length).1 = _
    rw [e2]; rfl
  · show (rcrashN r.st r.da r.acts k r.acts.length).2 = _
    rw [e2]; rfl
theorem Sim.done {d : Dv} {r : Rv} (h : Sim d r) (hd : Sane d) : (rdoneD r).1 = (endD d).1 ∧ Sim (endD d).2 (rdoneD r).2 ∧ Sane (endD d).2 := by
  unfold rdoneD endD
  cases hf : d.fail with
  | none =>
    have e : failsD d = (false, d) := by unfold failsD; rw [hf]
    rw [e, if_pos (by rw [h.fail, hf]; rfl)]
    exact ⟨rfl, h, hd⟩
  | some x =>
    obtain ⟨n, k⟩ := x
    obtain ⟨h1, h2⟩ := h.fl n k hf
    rw [if_neg (by rw [h.fail, hf]; simp)]
    cases n with
    | zero =>
      have e : failsD d = (true, d) := by unfold failsD; rw [hf]
      rw [e, if_neg (by rw [h1]; decide)]
      have e2 : keepOf d = k := by unfold keepOf; rw [hf]
      dsimp only
      rw [e2, h2, if_pos rfl]
      refine ⟨rfl, ?_, hd.crash k⟩
      have := h.crash k
      exact ⟨this.st, this.da, rfl, rfl, this.begun, rfl, fun _ _ hh => by cases hh⟩
    | succ n =>
      have e : failsD d = (false, { d with fail := some (n, k) }) := by unfold failsD; rw [hf]
      rw [e, if_pos (by rw [h1]; omega)]
      refine ⟨rfl, ⟨h.st, h.da, h.acts, h.off, h.begun, by rw [h.fail, hf]; rfl, fun n' k' hh => ?_⟩, ⟨hd.len, hd.tl, hd.inr⟩⟩
      simp at hh
      obtain ⟨rfl, rfl⟩ := hh
      exact ⟨by show r.left - 1 = _; rw [h1]; omega, h2⟩
theorem Sane.act {d : Dv} (h : Sane d) (x : Ac) (hx : x.at_ < d.sure.length) : Sane (actD d x) := by
  refine ⟨by simp [actD, h.len], ?_, fun y hy => ?_⟩
  · show d.told.set x.at_ (keptB (d.told.getD x.at_ blank) x 15) = tell d.sure (d.acts ++ [x])
    rw [tell_snoc, ← h.tl]; rfl
  · have hy : y ∈ d.acts ++ [x] := hy
    simp only [List.mem_append, List.mem_singleton] at hy
    rcases hy with hy | rfl
    · exact h.inr y hy
    · exact hx
theorem Sim.act {d : Dv} {r : Rv} (h : Sim d r) (hd : Sane d) (x : Ac) (hx : x.at_ < d.sure.length) (y : RA) (hy : raOf x = y) : (ractD r y).1 = (doD d x).1 ∧ Sim (doD d x).2 (ractD r y).2 ∧ Sane (doD d x).2 := by
  subst hy
  have h1 : Sim (actD d x) { r with acts := r.acts ++ [raOf x] } := ⟨h.st, h.da, by show r.acts ++ [raOf x] = (d.acts ++ [x]).map raOf; rw [h.acts]; simp, h.off, h.begun, h.fail, h.fl⟩
  exact h1.done (hd.act x hx)
theorem Sim.write {d : Dv} {r : Rv} (h : Sim d r) (hd : Sane d) (i : Int) (s : List UInt8) : (rwriteD r i s).1 = (writeD d i s).1 ∧ Sim (writeD d i s).2 (rwriteD r i s).2 ∧ Sane (writeD d i s).2 := by
  unfold rwriteD writeD
  rw [h.off, h.state hd i]
  cases hu : d.up with
  | false => exact ⟨rfl, h, hd⟩
  | true =>
    rw [if_neg (by decide : ¬ (!true) = true), if_neg (by decide : ¬ true = false)]
    by_cases h1 : ¬ (0 ≤ i ∧ i < d.sure.length) ∨ s.length ≠ 128
    · rw [if_pos h1, if_pos (by rcases h1 with h1 | h1; exact .inl ((stAtD_nn hd i).2 h1); exact .inr h1)]
      exact ⟨rfl, h, hd⟩
    · rw [if_neg h1, if_neg (fun e => h1 (by rcases e with e | e; exact .inl ((stAtD_nn hd i).1 e); exact .inr e))]
      by_cases h2 : stAtD d i = 1
      · rw [if_pos h2, if_pos h2]; exact ⟨rfl, h, hd⟩
      · rw [if_neg h2, if_neg h2]
        by_cases h3 : stAtD d i = 2
        · rw [if_pos h3, if_pos h3]; exact ⟨rfl, h, hd⟩
        · rw [if_neg h3, if_neg h3]
          have hi : 0 ≤ i ∧ i < d.sure.length := Classical.byContradiction fun e => h1 (.inl e)
          have hs : s.length = 128 := Classical.byContradiction fun e => h1 (.inr e)
          refine h.act hd (.wr i.toNat (ofT s)) (by show i.toNat < _; omega) _ ?_
          show (⟨(i.toNat : Int), txt (ofT s), false⟩ : RA) = _
          rw [txt_ofT s hs, Int.toNat_of_nonneg hi.1]
theorem Sim.erase {d : Dv} {r : Rv} (h : Sim d r) (hd : Sane d) (i : Int) : (reraseD r i).1 = (eraseD d i).1 ∧ Sim (eraseD d i).2 (reraseD r i).2 ∧ Sane (eraseD d i).2 := by
  unfold reraseD eraseD
  rw [h.off, h.state hd i]
  cases hu : d.up with
  | false => exact ⟨rfl, h, hd⟩
  | true =>
    rw [if_neg (by decide : ¬ (!true) = true), if_neg (by decide : ¬ true = false)]
    by_cases h1 : ¬ (0 ≤ i ∧ i < d.sure.length)
    · rw [if_pos h1, if_pos ((stAtD_nn hd i).2 h1)]
      exact ⟨rfl, h, hd⟩
    · rw [if_neg h1, if_neg (fun e => h1 ((stAtD_nn hd i).1 e))]
      by_cases h2 : stAtD d i = 0
      · rw [if_pos h2, if_pos h2]; exact ⟨rfl, h, hd⟩
      · rw [if_neg h2, if_neg h2]
        by_cases h3 : stAtD d i = 2
        · rw [if_pos h3, if_pos h3]; exact ⟨rfl, h, hd⟩
        · rw [if_neg h3, if_neg h3]
          have hi : 0 ≤ i ∧ i < d.sure.length := Classical.byContradiction fun e => h1 e
          refine h.act hd (.er i.toNat) (by show i.toNat < _; omega) _ ?_
          show (⟨(i.toNat : Int), [], true⟩ : RA) = _
          rw [Int.toNat_of_nonneg hi.1]
theorem Sane.flush_eq {d : Dv} (h : Sane d) : (sureD d).sure = d.told := by
  apply List.ext_getElem?
  intro i
  refine flushN_get d.sure d.told d.acts h.len i d.acts.length ?_
  rcases on_or_off d.acts i with hi | hi
  · exact .inl (h.off i hi).symm
  · exact .inr hi
theorem Sane.sure {d : Dv} (h : Sane d) : Sane (sureD d) := ⟨by rw [h.flush_eq]; rfl, by rw [h.flush_eq]; rfl, fun x hx => by cases hx⟩
theorem rsure_st {d : Dv} {r : Rv} (h : Sim d r) (hd : Sane d) : (rsureD r).st = d.told.map (fun b => (b.st : Int)) ∧ (rsureD r).da = d.told.map txB := by
  have hl : r.st.length = d.sure.length := by rw [h.st]; simp
  have hl2 : r.da.length = d.sure.length := by rw [h.da]; simp
  refine ⟨?_, ?_⟩
  · show (List.range r.st.length).map (fun i : Nat => (ratD r (i : Int)).1) ++ r.st.drop r.st.length = _
    rw [List.drop_length, List.append_nil]
    exact h.states hd
  · show (List.range r.st.length).map (fun i : Nat => (ratD r (i : Int)).2) ++ r.da.drop r.st.length = _
    rw [hl, ← hl2, List.drop_length, List.append_nil, hl2]
    apply List.ext_getElem?
    intro i
    by_cases hi : i < d.sure.length
    · rw [List.getElem?_map, List.getElem?_range hi, List.getElem?_map]
      have := h.at_ hd i hi
      rw [List.getElem?_eq_getElem (by rw [hd.len]; exact hi)]
      simp only [Option.map_some, this]
      rw [List.getD_eq_getElem?_getD, List.getElem?_eq_getElem (by rw [hd.len]; exact hi)]
      rfl
    · rw [List.getElem?_eq_none (by simp; omega), List.getElem?_eq_none (by simp; have := hd.len; omega)]
theorem Sim.sure {d : Dv} {r : Rv} (h : Sim d r) (hd : Sane d) : Sim (sureD d) (rsureD r) := by
  obtain ⟨h1, h2⟩ := rsure_st h hd
  exact ⟨by rw [h1, hd.flush_eq], by rw [h2, hd.flush_eq], rfl, h.off, h.begun, h.fail, h.fl⟩
theorem Sim.flush {d : Dv} {r : Rv} (h : Sim d r) (hd : Sane d) : (rflushD r).1 = (flushD d).1 ∧ Sim (flushD d).2 (rflushD r).2 ∧ Sane (flushD d).2 := by
  obtain ⟨h1, h2, h3⟩ := h.done hd
  unfold rflushD flushD
  rw [h.off]
  cases hu : d.up with
  | false => exact ⟨rfl, h, hd⟩
  | true =>
    rw [if_neg (by decide : ¬ (!true) = true), if_neg (by decide : ¬ true = false)]
    rw [h1]
    revert h1 h2 h3
    unfold endD
    cases hq : (failsD d).1 with
    | true =>
      rw [if_pos rfl, if_pos rfl, if_pos (by show (43 : Int) ≠ 0; decide)]
      intro h1 h2 h3
      exact ⟨h1, h2, h3⟩
    | false =>
      rw [if_neg (by decide), if_neg (by show ¬ (0 : Int) ≠ 0; decide), if_neg (by decide)]
      intro h1 h2 h3
      exact ⟨rfl, h2.sure h3, h3.sure⟩
theorem Sim.start {d : Dv} {r : Rv} (h : Sim d r) (hd : Sane d) : (rstartD r).1 = (startD d).1 ∧ Sim (startD d).2 (rstartD r).2 ∧ Sane (startD d).2 := by
  unfold rstartD startD
  rw [h.off]
  cases hu : d.up with
  | true => exact ⟨rfl, h, hd⟩
  | false => exact ⟨rfl, ⟨h.st, h.da, h.acts, rfl, by show r.begun + 1 = d.starts + 1; rw [h.begun], h.fail, h.fl⟩, ⟨hd.len, hd.tl, hd.inr⟩⟩
theorem Sim.fail' {d : Dv} {r : Rv} (h : Sim d r) (hd : Sane d) (n : Int) (k : List Int) : (rfailD r n k).1 = (failF d n k).1 ∧ Sim (failF d n k).2 (rfailD r n k).2 ∧ Sane (failF d n k).2 := by
  unfold rfailD failF
  rw [h.off]
  cases hu : d.up with
  | false => exact ⟨rfl, h, hd⟩
  | true =>
    rw [if_neg (by decide : ¬ (!true) = true), if_neg (by decide : ¬ true = false)]
    by_cases h0 : n < 0
    · rw [if_pos h0, if_pos h0]; exact ⟨rfl, h, hd⟩
    · rw [if_neg h0, if_neg h0]
      refine ⟨rfl, ⟨h.st, h.da, h.acts, rfl, h.begun, rfl, fun n' k' hh => ?_⟩, ⟨hd.len, hd.tl, hd.inr⟩⟩
      simp at hh
      obtain ⟨rfl, rfl⟩ := hh
      exact ⟨by show n = _; omega, rfl⟩
theorem Sim.crash' {d : Dv} {r : Rv} (h : Sim d r) (hd : Sane d) (k : List Int) : (rcrashE r k).1 = (crashE d k).1 ∧ Sim (crashE d k).2 (rcrashE r k).2 ∧ Sane (crashE d k).2 := by
  unfold rcrashE crashE
  rw [h.off]
  cases hu : d.up with
  | false => exact ⟨rfl, h, hd⟩
  | true => exact ⟨rfl, h.crash k, hd.crash k⟩
/-- Acts on other blocks leave a block. -/
theorem tell_set (i : Nat) (b : Blk) : ∀ (acts : List Ac) (s : List Blk), tell (s.set i b) (acts.filter fun y => !isAt (i : Int) y) = (tell s acts).set i b
  | [], _ => rfl
  | x :: l, s => by
    show _ = (tell (stepT s x) l).set i b
    rw [← tell_set i b l (stepT s x)]
    by_cases hx : x.at_ = i
    · have e : isAt (i : Int) x = true := by unfold isAt; rw [decide_eq_true]; omega
      rw [List.filter_cons_of_neg (by rw [e]; decide)]
      congr 1
      unfold stepT
      rw [hx, List.set_set]
    · have e : isAt (i : Int) x = false := by unfold isAt; rw [decide_eq_false]; omega
      rw [List.filter_cons_of_pos (by rw [e]; decide)]
      show tell (stepT (s.set i b) x) _ = _
      congr 1
      unfold stepT
      rw [List.set_comm _ _ hx]
      congr 2
      exact getD_off (List.getElem?_set_ne (fun e => hx e.symm))
theorem Sim.tamper {d : Dv} {r : Rv} (h : Sim d r) (hd : Sane d) (i st : Int) (s : List UInt8) : (rtamperD r i st s).1 = (tamperD d i st s).1 ∧ Sim (tamperD d i st s).2 (rtamperD r i st s).2 ∧ Sane (tamperD d i st s).2 := by
  have hl : r.st.length = d.sure.length := by rw [h.st]; simp
  unfold rtamperD tamperD
  rw [hl]
  by_cases h1 : ¬ (0 ≤ i ∧ i < d.sure.length)
  · rw [if_pos h1, if_pos (.inl h1)]; exact ⟨rfl, h, hd⟩
  · rw [if_neg h1]
    obtain ⟨j, rfl⟩ : ∃ j : Nat, i = j := ⟨i.toNat, by omega⟩
    have main : ∀ b : Blk, (b.st : Int) = st → txB b = s → blkOf st s = some b → ¬ (st < 0 ∨ 2 < st ∨ (st = 1 ∧ s.length ≠ 128) ∨ (st ≠ 1 ∧ s ≠ [])) → ((if ¬ (0 ≤ (j : Int) ∧ (j : Int) < d.sure.length) ∨ st < 0 ∨ 2 < st ∨ (st = 1 ∧ s.length ≠ 128) ∨ (st ≠ 1 ∧ s ≠ []) then (2, r)
  else (0, { r with acts := r.acts.filter fun x => decide (x.bl ≠ (j : Int)), st := r.st.set (j : Int).toNat st, da := r.da.set (j : Int).toNat s }) : Int × Rv).1 = (match blkOf st s with
    | none => (2, d)
    | some b => (0, { d with sure := d.sure.set (j : Int).toNat b, told := d.told.set (j : Int).toNat b, acts := delA d.acts (j : Int) }) : Int × Dv).1 ∧ Sim (match blkOf st s with
    | none => (2, d)
    | some b => (0, { d with sure := d.sure.set (j : Int).toNat b, told := d.told.set (j : Int).toNat b, acts := delA d.acts (j : Int) }) : Int × Dv).2 (if ¬ (0 ≤ (j : Int) ∧ (j : Int) < d.sure.length) ∨ st < 0 ∨ 2 < st ∨ (st = 1 ∧ s.length ≠ 128) ∨ (st ≠ 1 ∧ s ≠ []) then (2, r)
  else (0, { r with acts := r.acts.filter fun x => decide (x.bl ≠ (j : Int)), st := r.st.set (j : Int).toNat st, da := r.da.set (j : Int).toNat s }) : Int × Rv).2 ∧ Sane (match blkOf st s with
    | none => (2, d)
    | some b => (0, { d with sure := d.sure.set (j : Int).toNat b, told := d.told.set (j : Int).toNat b, acts := delA d.acts (j : Int) }) : Int × Dv).2) := fun b e1 e2 e3 e4 => by
      rw [if_neg (fun e => by rcases e with e | e; exact h1 e; exact e4 e), e3]
      rw [Int.toNat_natCast]
      refine ⟨rfl, ⟨?_, ?_, ?_, h.off, h.begun, h.fail, h.fl⟩, ⟨by simp [hd.len], ?_, fun x hx => ?_⟩⟩
      · show r.st.set j st = _
        rw [List.map_set, ← h.st, e1]
      · show r.da.set j s = _
        rw [List.map_set, ← h.da, e2]
      · show r.acts.filter _ = (delA d.acts (j : Int)).map raOf
        rw [h.acts, List.filter_map]
        unfold delA
        congr 1
        apply List.filter_congr
        intro x _
        show decide ((raOf x).bl ≠ (j : Int)) = !isAt (j : Int) x
        unfold isAt
        rw [raOf_bl, decide_not]
      · show d.told.set j b = tell (d.sure.set j b) (delA d.acts (j : Int))
        unfold delA
        rw [tell_set, ← hd.tl]
      · have := hd.inr x (delA_sub _ _ x hx)
        simpa using this
    by_cases hst : st = 1
    · subst hst
      by_cases hs : s.length = 128
      · exact main ⟨1, ofT s⟩ rfl (by show txB ⟨1, ofT s⟩ = s; simp [txB, txt_ofT s hs]) (by unfold blkOf; rw [if_pos ⟨rfl, hs⟩]) (by rintro (h | h | h | h); exact absurd h (by decide); exact absurd h (by decide); exact h.2 hs; exact h.1 rfl)
      · have e : blkOf 1 s = none := by unfold blkOf; rw [if_neg (fun e => hs e.2), if_neg (by rintro ⟨h | h, _⟩ <;> exact absurd h (by decide))]
        rw [e, if_pos (.inr (.inr (.inr (.inl ⟨rfl, hs⟩))))]
        exact ⟨rfl, h, hd⟩
    · by_cases h02 : st = 0 ∨ st = 2
      · by_cases hs : s = []
        · refine main ⟨st.toNat, fun _ => 0⟩ ?_ ?_ ?_ ?_
          · show ((st.toNat : Nat) : Int) = st; omega
          · subst hs
            unfold txB
            rcases h02 with rfl | rfl <;> rfl
          · unfold blkOf
            rw [if_neg (fun e => hst e.1), if_pos ⟨h02, hs⟩]
          · rintro (h | h | h | h)
            · omega
            · omega
            · exact hst h.1
            · exact h.2 hs
        · have e : blkOf st s = none := by unfold blkOf; rw [if_neg (fun e => hst e.1), if_neg (fun e => hs e.2)]
          rw [e, if_pos (.inr (.inr (.inr (.inr ⟨hst, hs⟩))))]
          exact ⟨rfl, h, hd⟩
      · have e : blkOf st s = none := by unfold blkOf; rw [if_neg (fun e => hst e.1), if_neg (fun e => h02 e.1)]
        rw [e, if_pos (by by_cases h0 : st < 0; exact .inr (.inl h0); exact .inr (.inr (.inl (by omega))))]
        exact ⟨rfl, h, hd⟩
/-- What is asked does the same to both. -/
theorem Sim.by {d : Dv} {r : Rv} (h : Sim d r) (hd : Sane d) (x : DoX) : (byR r x).1 = (withT d x).1 ∧ Sim (withT d x).2 (byR r x).2 ∧ Sane (withT d x).2 := by
  unfold byR withT withD
  by_cases h12 : x.q % 13 = 12
  · rw [if_pos h12, if_pos h12]; exact h.tamper hd _ _ _
  rw [if_neg h12, if_neg h12]
  by_cases h4 : x.q % 13 = 4
  · rw [if_pos h4, if_pos h4]; exact h.write hd _ _
  rw [if_neg h4, if_neg h4]
  by_cases h5 : x.q % 13 = 5 ∨ x.q % 13 = 6
  · rw [if_pos h5, if_pos h5]; exact h.erase hd _
  rw [if_neg h5, if_neg h5]
  by_cases h7 : x.q % 13 = 7
  · rw [if_pos h7, if_pos h7]; exact h.flush hd
  rw [if_neg h7, if_neg h7]
  by_cases h8 : x.q % 13 = 8
  · rw [if_pos h8, if_pos h8]; exact h.crash' hd _
  rw [if_neg h8, if_neg h8]
  by_cases h9 : x.q % 13 = 9 ∨ x.q % 13 = 10
  · rw [if_pos h9, if_pos h9]; exact h.start hd
  rw [if_neg h9, if_neg h9]
  by_cases h11 : x.q % 13 = 11
  · rw [if_pos h11, if_pos h11]; exact h.fail' hd _ _
  rw [if_neg h11, if_neg h11]
  exact h.write hd _ _
end Go.Proofs.Ythlaackalmgfnaa

/- The document's device in memory; its At. -/
namespace Go.Proofs.Ythlaackalmgfnaa
open Go.RowKit

/-- An act's cells. -/
def raC (x : RA) : List Value := [.int .i64 x.bl, .string (S x.da), .bool x.er]
def rac (l : List RA) : List Value := l.flatMap raC
@[simp] theorem rac_nil : rac [] = [] := rfl
@[simp] theorem rac_cons (b : RA) (l : List RA) : rac (b :: l) = raC b ++ rac l := rfl
theorem rac_append (a b : List RA) : rac (a ++ b) = rac a ++ rac b := by simp [rac]
@[simp] theorem rac_length : ∀ l : List RA, (rac l).length = l.length * 3
  | [] => rfl
  | b :: l => by simp [rac_length l, raC]; omega
theorem rac_get : ∀ (l : List RA) (i j : Nat) (x : RA), l[i]? = some x → j < 3 → (rac l)[i * 3 + j]? = (raC x)[j]?
  | [], i, j, x, h, _ => by simp at h
  | y :: l, 0, j, x, h, hj => by
    obtain rfl : y = x := by simpa using h
    rw [rac_cons, List.getElem?_append_left (by simp [raC]; omega)]
    simp
  | y :: l, i + 1, j, x, h, hj => by
    rw [rac_cons, List.getElem?_append_right (by simp [raC]; omega)]
    have e : (i + 1) * 3 + j - (raC y).length = i * 3 + j := by simp [raC]; omega
    rw [e]
    exact rac_get l i j x (by simpa using h) hj
/-- The blocks of the document's device. -/
def rblocks (q a b : Nat) (cv kv : Value) : List Nat := q :: a :: b :: (cv.ownBlock.toList ++ kv.ownBlock.toList)
structure RefAt (w : World) (q : Nat) (r : Rv) (O : Nat → Prop) (a b ca cb : Nat) (cv kv : Value) : Prop where
  cells : w.heap[q]? = some (.cells #[.slice (some ⟨a, 0, none⟩) r.st.length ca, .slice (some ⟨b, 0, none⟩) r.st.length cb, cv, .bool r.off, .int .i64 (r.begun : Int), .bool r.fails, .int .i64 r.left, kv] 35 (0, 0))
  st : Rw w a 3 (r.st.map (Value.int .i64))
  da : Rw w b 9 (sv r.da)
  len : r.da.length = r.st.length
  pos : 0 < r.st.length
  small : r.st.length ≤ 512
  acts : w.ownsRow 0 111 3 cv r.acts.length (rac r.acts)
  inr : ∀ x ∈ r.acts, 0 ≤ x.bl ∧ x.bl < r.st.length ∧ (x.er = false → x.da.length = 128)
  keep : IntsAt w kv r.keep
  lo : -9223372036854775808 < r.left
  hi : r.left < 9223372036854775808
  nodup : (rblocks q a b cv kv).Nodup
  own : ∀ k ∈ rblocks q a b cv kv, O k ∧ k < w.heap.size
/-- The document's device in block q that owns blocks. -/
def Ref (w : World) (q : Nat) (r : Rv) (O : Nat → Prop) : Prop := ∃ a b ca cb cv kv, RefAt w q r O a b ca cb cv kv
section
variable {w w' : World} {q : Nat} {r : Rv} {O O' : Nat → Prop} {a b ca cb : Nat} {cv kv : Value}
theorem RefAt.same (h : RefAt w q r O a b ca cb cv kv) (e : ∀ k ∈ rblocks q a b cv kv, w'.heap[k]? = w.heap[k]?) (hs : w.heap.size ≤ w'.heap.size) (hO : ∀ k, O k → O' k) : RefAt w' q r O' a b ca cb cv kv where
  cells := by rw [e q (by simp [rblocks])]; exact h.cells
  st := h.st.same (e a (by simp [rblocks]))
  da := h.da.same (e b (by simp [rblocks]))
  len := h.len
  pos := h.pos
  small := h.small
  acts := owns_same h.acts fun k hk => e k (by simp [rblocks, hk])
  inr := h.inr
  keep := h.keep.same fun k hk => e k (by simp [rblocks, hk])
  lo := h.lo
  hi := h.hi
  nodup := h.nodup
  own := fun k hk => ⟨hO k (h.own k hk).1, Nat.lt_of_lt_of_le (h.own k hk).2 hs⟩
theorem RefAt.below (h : RefAt w q r O a b ca cb cv kv) (hb : Below w.heap.size w w') : RefAt w' q r O a b ca cb cv kv := h.same (fun k hk => hb.block k (h.own k hk).2) hb.size fun _ h => h
theorem Ref.below (h : Ref w q r O) (hb : Below w.heap.size w w') : Ref w' q r O := by
  obtain ⟨a, b, ca, cb, cv, kv, h⟩ := h
  exact ⟨a, b, ca, cb, cv, kv, h.below hb⟩
theorem Ref.mono (h : Ref w q r O) (hO : ∀ k, O k → O' k) : Ref w q r O' := by
  obtain ⟨a, b, ca, cb, cv, kv, h⟩ := h
  exact ⟨a, b, ca, cb, cv, kv, h.same (fun _ _ => rfl) (Nat.le_refl _) hO⟩
theorem Ref.turn (h : Ref w q r O) (hb : Turn O' w w') (hO : ∀ k, O k → ¬ O' k) : Ref w' q r O := by
  obtain ⟨a, b, ca, cb, cv, kv, h⟩ := h
  exact ⟨a, b, ca, cb, cv, kv, h.same (fun k hk => hb.block k (h.own k hk).2 (hO k (h.own k hk).1)) hb.size fun _ h => h⟩
/-- What is known of its own cells. -/
theorem RefAt.c (h : RefAt w q r O a b ca cb cv kv) :
    w.cell? ⟨q, 0, none⟩ = some (.slice (some ⟨a, 0, none⟩) r.st.length ca) ∧ w.cell? ⟨q, 1, none⟩ = some (.slice (some ⟨b, 0, none⟩) r.st.length cb) ∧ w.cell? ⟨q, 2, none⟩ = some cv ∧ w.cell? ⟨q, 3, none⟩ = some (.bool r.off) ∧ w.cell? ⟨q, 4, none⟩ = some (.int .i64 (r.begun : Int)) ∧ w.cell? ⟨q, 5, none⟩ = some (.bool r.fails) ∧ w.cell? ⟨q, 6, none⟩ = some (.int .i64 r.left) ∧ w.cell? ⟨q, 7, none⟩ = some kv := by
  refine ⟨?_, ?_, ?_, ?_, ?_, ?_, ?_, ?_⟩ <;> rw [cell_of_row _ _ _ _ _ _ h.cells] <;> rfl
theorem RefAt.sl (h : RefAt w q r O a b ca cb cv kv) : ∃ x c, cv = .slice x r.acts.length c := by
  rcases h.acts.2 with ⟨h1, h2⟩ | ⟨g, cap, cur, h1, _⟩
  · exact ⟨none, 0, by rw [h1, h2]⟩
  · exact ⟨_, _, h1⟩
theorem RefAt.act (h : RefAt w q r O a b ca cb cv kv) {k : Nat} {x : RA} (hx : r.acts[k]? = some x) : ∃ g c, cv = .slice (some ⟨g, 0, none⟩) r.acts.length c ∧ w.cell? ⟨g, k * 3, none⟩ = some (.int .i64 x.bl) ∧ w.cell? ⟨g, k * 3 + 1, none⟩ = some (.string (S x.da)) ∧ w.cell? ⟨g, k * 3 + 2, none⟩ = some (.bool x.er) := by
  rcases h.acts.2 with ⟨h1, h2⟩ | ⟨g, cap, cur, h1, _⟩
  · have := (List.getElem?_eq_some_iff.1 hx).1; omega
  · have hc : ∀ j u, (raC x)[j]? = some u → w.cell? ⟨g, k * 3 + j, none⟩ = some u := fun j u hj => by
      have hl := (List.getElem?_eq_some_iff.1 hj).1
      have := h.acts.cells (g := g) (by rw [h1]; rfl) (k * 3 + j) u (by rw [rac_get r.acts k j x hx (by simpa [raC] using hl)]; exact hj)
      rw [Addr.add_mid] at this
      simpa using this
    exact ⟨g, cap, h1, hc 0 _ rfl, hc 1 _ rfl, hc 2 _ rfl⟩
theorem RefAt.sa (h : RefAt w q r O a b ca cb cv kv) {k : Nat} (hk : k < r.st.length) : w.cell? ⟨a, k, none⟩ = some (.int .i64 (r.st.getD k 0)) := by
  refine h.st.cell k _ ?_
  rw [List.getElem?_map, List.getD_eq_getElem?_getD, List.getElem?_eq_getElem hk]; rfl
theorem RefAt.dt (h : RefAt w q r O a b ca cb cv kv) {k : Nat} (hk : k < r.st.length) : w.cell? ⟨b, k, none⟩ = some (.string (S (r.da.getD k []))) := by
  refine h.da.cell k _ ?_
  unfold sv
  rw [List.getElem?_map, List.getD_eq_getElem?_getD, List.getElem?_eq_getElem (by rw [h.len]; exact hk)]; rfl
end
theorem ratN_succ (r : Rv) (i : Int) (m : Nat) (x : RA) (h : r.acts[m]? = some x) : ratN r i (m + 1) = ratS i (ratN r i m) x := by
  unfold ratN
  rw [List.take_add_one, h]
  simp
set_option maxRecDepth 100000 in
set_option maxHeartbeats 1600000 in
theorem rat_any {w : World} {q : Nat} {r : Rv} {O : Nat → Prop} (h : Ref w q r O) (i : Int) (hr : r.acts.length < 1000000) :
    Calls Try.prog 47 #[.pointer (some ⟨q, 0, none⟩), .int .i64 i] w fun e w' => e = .returned (.tuple #[.int .i64 (ratD r i).1, .string (S (ratD r i).2)]) ∧ Below w.heap.size w w' := by
  obtain ⟨a, b, ca, cb, cv, kv, h⟩ := h
  have HH : Hid (∀ wr, Below w.heap.size w wr → RefAt wr q r O a b ca cb cv kv) := fun wr hb => h.below hb
  obtain ⟨c0, c1, c2, -⟩ := h.c
  have hsm := h.small
  by_cases hi : 0 ≤ i ∧ i < r.st.length
  · obtain ⟨j, rfl⟩ : ∃ j : Nat, i = j := ⟨i.toNat, by omega⟩
    have hj : j < r.st.length := by omega
    have sa := h.sa hj
    have dt := h.dt hj
    obtain ⟨xa, xc, hcv⟩ := h.sl
    have HE : Hid (ratD r (j : Int) = ratN r (j : Int) r.acts.length) := by show _ = _; unfold ratD; rw [if_pos hi]
    rw [HE.out]
    have HZ : Hid (ratN r (j : Int) 0 = (r.st.getD j 0, r.da.getD j [])) := rfl
    have HS : Hid (∀ m x, r.acts[m]? = some x → ratN r (j : Int) (m + 1) = ratS (j : Int) (ratN r (j : Int) m) x) := ratN_succ r j
    have hj2 : (j : Int) < (r.st.length : Int) := by omega
    clear h hi HE
    generalize hst : r.st.length = n at *
    generalize r.st.getD j 0 = s0 at *
    generalize r.da.getD j [] = d0 at *
    go_enter Try.func47, Try.ntmps47
    go_wp2
    go_quiet (fail)
    go_wp2
    go_loopw [6, 7, 8] (fun s t k wr => ∃ m : Nat, m ≤ r.acts.length ∧ k = .int .i64 m ∧ s = .int .i64 (ratN r (j : Int) m).1 ∧ t = .string (S (ratN r (j : Int) m).2) ∧ Below w.heap.size w wr) (fun _ _ k _ => r.acts.length - (intOf k).toNat)
    case atStart => exact ⟨0, Nat.zero_le _, rfl, by rw [HZ.out], by rw [HZ.out], below_drewN (Below.refl _ _) _⟩
    case round =>
      clear sa dt c0 c1 c2
      obtain ⟨m, hm, rfl, rfl, rfl, hB⟩ := hrel
      have hR := HH.out wr hB
      obtain ⟨-, -, c2, -⟩ := hR.c
      by_cases hlt : m < r.acts.length
      · obtain ⟨x, hx⟩ : ∃ x, r.acts[m]? = some x := ⟨_, List.getElem?_eq_getElem hlt⟩
        obtain ⟨g, c, rfl, a0, a1, a2⟩ := hR.act hx
        have HN : Hid (ratN r (j : Int) (m + 1) = ratS (j : Int) (ratN r (j : Int) m) x) := HS.out m x hx
        have hlt2 : (m : Int) < (r.acts.length : Int) := by omega
        have HB : Hid _ := hB
        have HX : Hid _ := hx
        clear hR hx hB
        obtain ⟨bl, da, er⟩ := x
        dsimp only at a0 a1 a2
        generalize ratN r (j : Int) m = y at *
        by_cases hq : bl = (j : Int)
        · have hq2 : (bl == (j : Int)) = true := by simpa using hq
          cases er with
          | false =>
            have HN2 : Hid (ratN r (j : Int) (m + 1) = (1, da)) := by show _ = _; rw [HN.out]; unfold ratS; rw [if_pos hq]; rfl
            clear HN hq
            go_wp2
            go_quiet (fail)
            have HBq : Hid (Below w.heap.size w (wr.drewN nq)) := below_drewN HB.out _
            generalize wr.drewN nq = wx at *
            obtain hRx := HH.out wx HBq.out
            obtain ⟨-, -, c2', -⟩ := hRx.c
            obtain ⟨g', c'', e', b0, b1, b2⟩ := hRx.act HX.out
            simp at e'
            obtain ⟨rfl, rfl⟩ := e'
            dsimp only at b0 b1 b2
            clear hRx a0 a1 a2 c2
            go_wp2
            go_roundw
            case rel => exact ⟨m + 1, by omega, by go_num, by rw [HN2.out], by rw [HN2.out], HBq.out⟩
            case measure => simp [intOf]; omega
          | true =>
            have HN2 : Hid (ratN r (j : Int) (m + 1) = (2, [])) := by show _ = _; rw [HN.out]; unfold ratS; rw [if_pos hq]; rfl
            clear HN hq
            go_wp2
            go_quiet (fail)
            have HBq : Hid (Below w.heap.size w (wr.drewN nq)) := below_drewN HB.out _
            generalize wr.drewN nq = wx at *
            obtain hRx := HH.out wx HBq.out
            obtain ⟨-, -, c2', -⟩ := hRx.c
            obtain ⟨g', c'', e', b0, b1, b2⟩ := hRx.act HX.out
            simp at e'
            obtain ⟨rfl, rfl⟩ := e'
            dsimp only at b0 b1 b2
            clear hRx a0 a1 a2 c2
            go_wp2
            go_roundw
            case rel => exact ⟨m + 1, by omega, by go_num, by rw [HN2.out], by rw [HN2.out]; rfl, HBq.out⟩
            case measure => simp [intOf]; omega
        · have hq2 : (bl == (j : Int)) = false := by simpa using hq
          have HN2 : Hid (ratN r (j : Int) (m + 1) = y) := by show _ = _; rw [HN.out]; unfold ratS; rw [if_neg hq]
          clear HN hq
          go_wp2
          go_roundw
          case rel => exact ⟨m + 1, by omega, by go_num, by rw [HN2.out], by rw [HN2.out], HB.out⟩
          case measure => simp [intOf]; omega
      · obtain rfl : m = r.acts.length := by omega
        subst hcv
        have hlt2 : ¬ ((r.acts.length : Nat) : Int) < (r.acts.length : Int) := by omega
        have HB : Hid _ := hB
        clear hR hB
        go_wp2
        go_ret2
        exact ⟨rfl, HB.out⟩
  · have he : ratD r i = (-1, []) := by unfold ratD; rw [if_neg hi]
    rw [he]
    have hn : ¬ i < 0 → (r.st.length : Int) ≤ i := by omega
    clear h he hr c1 c2 HH
    generalize r.st.length = n at *
    by_cases h0 : i < 0
    · clear hn hi
      go_enter Try.func47, Try.ntmps47
      go_wp2
      go_ret2
      exact ⟨rfl, Below.refl _ _⟩
    · have h1 := hn h0
      clear hn hi
      go_enter Try.func47, Try.ntmps47
      go_wp2
      go_ret2
      exact ⟨rfl, Below.refl _ _⟩
end Go.Proofs.Ythlaackalmgfnaa

/- The document's device: torn, Read, States. -/
namespace Go.Proofs.Ythlaackalmgfnaa
open Go.RowKit

theorem mk_32r (w : World) : (Instr.makeSlice 71 (.int .i64 32) (.int .i64 32)).run Try.prog w = .ok (.slice (some ⟨w.heap.size, 0, none⟩) 32 32) (w.alloc (.cells (hv (List.replicate 32 0)) 5)) := by
  have h := run_make_row' (P := Try.prog) 71 5 (.int .u8 0) 1 Try.underlying71 (by kernel_rfl) rfl .i64 .i64 32 (by omega) (by omega) w
  have e : madeCells #[Value.int .u8 0] 32 = hv (List.replicate 32 0) := by kernel_rfl
  rw [e] at h
  exact h
theorem S_ext (l : List UInt8) (a b : Nat) : (S l).extract a b = S ((l.drop a).take (b - a)) := by
  apply ByteArray.ext
  rw [ByteArray.data_extract]
  simp [S, List.extract_toArray, List.extract_eq_take_drop]
set_option maxRecDepth 100000 in
set_option maxHeartbeats 1600000 in
theorem rtorn_any (l : List UInt8) (hl : l.length = 128) (n : Int) (h0 : 0 ≤ n) (w : World) :
    Calls Try.prog 65 #[.string (S l), .int .i64 n] w fun e w' => e = .returned (.string (S (tornN l n 4))) ∧ Below w.heap.size w w' := by
  have hsz : (S l).size = 128 := by rw [S_size, hl]
  have hmk := mk_32r
  have hcv : ∀ w : World, (convert 71 9 (.slice (some ⟨w.heap.size, 0, none⟩) 32 32)).run Try.prog (w.alloc (.cells (hv (List.replicate 32 0)) 5)) = .ok (.string (S (List.replicate 32 0))) (w.alloc (.cells (hv (List.replicate 32 0)) 5)) := fun w => by
    have := conv_row (List.replicate 32 0) _ w.heap.size 32 _ _ (heap_alloc_last w (.cells (hv (List.replicate 32 0)) 5))
    simpa using this
  have HE : Hid (∀ m : Nat, (S l).extract (32 * m) (32 * m + 32) = S ((l.drop (32 * m)).take 32)) := fun m => by rw [S_ext]; congr 2; omega
  have HN : Hid (∀ m : Nat, tornN l n (m + 1) = tornN l n m ++ (if n / 2 ^ m % 2 = 1 then (l.drop (32 * m)).take 32 else List.replicate 32 0)) := fun m => rfl
  have HA : Hid (∀ a b : List UInt8, S a ++ S b = S (a ++ b)) := S_append
  generalize hv (List.replicate 32 0) = Z at *
  have hz : (S (List.replicate 32 (0 : UInt8))).size = 32 := by rw [S_size, List.length_replicate]
  generalize List.replicate 32 (0 : UInt8) = z at *
  have HTl : Hid (∀ m, m ≤ 4 → (tornN l n m).length = 32 * m) := tornN_len l hl n
  generalize S l = A at *
  clear hl
  go_enter Try.func65, Try.ntmps65
  go_wp2
  go_loopw [5, 6] (fun t i wr => ∃ m : Nat, m ≤ 4 ∧ i = .int .i64 m ∧ t = .string (S (tornN l n m)) ∧ Below w.heap.size w wr) (fun _ i _ => 4 - (intOf i).toNat)
  case atStart => exact ⟨0, by omega, rfl, rfl, Below.refl _ _⟩
  case round =>
    obtain ⟨m, hm, rfl, rfl, hB⟩ := hrel
    have HB : Hid _ := hB
    clear hB
    by_cases hlt : m < 4
    · have hlt2 : (m : Int) < 4 := by omega
      have HN2 := HN.out m
      have hnn : 0 ≤ n / 2 ^ m := Int.ediv_nonneg h0 (Int.le_of_lt (Int.pow_pos (by decide)))
      have htm : (n / 2 ^ m).tmod 2 = n / 2 ^ m % 2 := Int.tmod_eq_emod_of_nonneg hnn
      have hTs : (S (tornN l n m)).size ≤ 128 := by rw [S_size, HTl.out m (by omega)]; omega
      by_cases hb : n / 2 ^ m % 2 = 1
      · have HX : Hid (S (tornN l n m) ++ A.extract (32 * m) (32 * m + 32) = S (tornN l n (m + 1))) := by show _ = _; rw [HN2, if_pos hb, HE.out, HA.out]
        have ht : ((n / 2 ^ m).tmod 2 == 1) = true := by rw [htm, hb]; rfl
        clear HN2 htm hb hnn
        generalize S (tornN l n m) = T at *
        go_wp2
        go_roundw
        case rel => exact ⟨m + 1, by omega, by go_num, by rw [HX.out], HB.out⟩
        case measure => simp [intOf]; omega
      · have HX : Hid (S (tornN l n m) ++ S z = S (tornN l n (m + 1))) := by show _ = _; rw [HN2, if_neg hb, HA.out]
        have ht : ((n / 2 ^ m).tmod 2 == 1) = false := by rw [htm]; simpa using hb
        have HBa : Hid (Below w.heap.size w (wr.alloc (.cells Z 5))) := HB.out.alloc HB.out.size _
        clear HN2 htm hb hnn
        generalize S (tornN l n m) = T at *
        generalize S z = zz at *
        go_wp2
        go_roundw
        case rel => exact ⟨m + 1, by omega, by go_num, by rw [HX.out], HBa.out⟩
        case measure => simp [intOf]; omega
    · obtain rfl : m = 4 := by omega
      go_wp2
      go_ret
      exact ⟨rfl, HB.out⟩
theorem rread_any {w : World} {q : Nat} {r : Rv} {O : Nat → Prop} (h : Ref w q r O) (i : Int) (hr : r.acts.length < 1000000) :
    Calls Try.prog 46 #[.pointer (some ⟨q, 0, none⟩), .int .i64 i] w fun e w' => e = .returned (.tuple #[.string (S (rreadD r i).1), .int .i64 (rreadD r i).2]) ∧ Below w.heap.size w w' := by
  have HA : Hid _ := rat_any h i hr
  obtain ⟨a, b, ca, cb, cv, kv, h⟩ := h
  have HC : Hid (∀ wr, Below w.heap.size w wr → wr.cell? ⟨q, 3, none⟩ = some (.bool r.off)) := fun wr hb => (h.below hb).c.2.2.2.1
  obtain ⟨R, hR⟩ : ∃ R, rreadD r i = R := ⟨_, rfl⟩
  rw [hR]
  unfold rreadD at hR
  clear h
  generalize ratD r i = y at *
  obtain ⟨s, t⟩ := y
  dsimp only at HA hR
  go_enter Try.func46, Try.ntmps46
  go_wp2_with fail
  refine Calls.mono HA.out ?_
  rintro e w1 ⟨rfl, hb⟩
  have c3 := HC.out w1 hb
  have HB : Hid _ := hb
  clear HC HA hb
  cases ho : r.off with
  | true =>
    rw [ho] at c3 hR
    rw [if_pos rfl] at hR
    subst hR
    clear ho
    go_wp2
    go_ret2
    exact ⟨rfl, HB.out⟩
  | false =>
    rw [ho] at c3 hR
    rw [if_neg (by decide)] at hR
    clear ho
    by_cases h1 : s < 0
    · rw [if_pos h1] at hR
      subst hR
      go_wp2
      go_ret2
      exact ⟨rfl, HB.out⟩
    rw [if_neg h1] at hR
    by_cases h2 : s = 0
    · rw [if_pos h2] at hR
      subst hR
      subst h2
      go_wp2
      go_ret2
      exact ⟨rfl, HB.out⟩
    rw [if_neg h2] at hR
    by_cases h3 : s = 2
    · rw [if_pos h3] at hR
      subst hR
      subst h3
      go_wp2
      go_ret2
      exact ⟨rfl, HB.out⟩
    rw [if_neg h3] at hR
    subst hR
    go_wp2
    go_ret2
    exact ⟨rfl, HB.out⟩
theorem owns_below {w w' : World} {base : Nat} {e : TypeId} {size : Nat} {v : Value} {n : Nat} {xs : List Value} (h : w.ownsRow base e size v n xs) (hb : Below w.heap.size w w') : w'.ownsRow base e size v n xs := owns_same h fun k hk => hb.block k (World.ownsRow.lt h k hk).2
theorem one_newsI {w : World} {n : Int} : ∀ j u, [Value.int .i64 n][j]? = some u → (w.alloc (.cells #[.int .i64 n] 3)).cell? ((⟨w.heap.size, 0, none⟩ : Addr).add j) = some u := fun j u hj => by
  have hj0 : j = 0 := by have := (List.getElem?_eq_some_iff.1 hj).1; simpa using this
  subst hj0
  obtain rfl : Value.int .i64 n = u := by simpa using hj
  rw [Addr.add_mid, cell_of_row _ _ _ _ _ _ (heap_alloc_last w _)]
  rfl
theorem one_cellsI {n : Int} : ∀ u ∈ [Value.int .i64 n], u.oneCell' = true := fun u hu => by
  obtain rfl : u = .int .i64 n := by simpa using hu
  rfl
theorem rstatesD_len (r : Rv) : (rstatesD r).length = r.st.length := by simp [rstatesD]
theorem rstatesD_get (r : Rv) (i : Nat) (h : i < r.st.length) : (rstatesD r)[i]? = some (ratD r i).1 := by
  unfold rstatesD
  rw [List.getElem?_map, List.getElem?_range h]; rfl
set_option maxRecDepth 100000 in
set_option maxHeartbeats 1600000 in
theorem rstates_any {w : World} {q : Nat} {r : Rv} {O : Nat → Prop} (h : Ref w q r O) (hr : r.acts.length < 1000000) :
    Calls Try.prog 48 #[.pointer (some ⟨q, 0, none⟩)] w fun e w' => ∃ v, e = .returned v ∧ IntsAt w' v (rstatesD r) ∧ (∀ i, v.ownBlock = some i → w.heap.size ≤ i ∧ i < w'.heap.size) ∧ Below w.heap.size w w' := by
  obtain ⟨ia, i1, i2, i3, i4⟩ := info_int
  have HIA : Hid (Try.prog.info? 3 = some ia ∧ ia.zero = some (.int .i64 0) ∧ ia.size = 1 ∧ ia.bytes = 8) := ⟨i1, i2, i3, i4⟩
  have HAt : Hid (∀ wr, Below w.heap.size w wr → ∀ m : Nat, Calls Try.prog 47 #[.pointer (some ⟨q, 0, none⟩), .int .i64 (m : Int)] wr fun e w' => e = .returned (.tuple #[.int .i64 (ratD r m).1, .string (S (ratD r m).2)]) ∧ Below wr.heap.size wr w') := fun wr hb m => rat_any (h.below hb) m hr
  obtain ⟨a, b, ca, cb, cv, kv, h⟩ := h
  have HC : Hid (∀ wr, Below w.heap.size w wr → wr.cell? ⟨q, 0, none⟩ = some (.slice (some ⟨a, 0, none⟩) r.st.length ca)) := fun wr hb => (h.below hb).c.1
  have hsm := h.small
  have HG : Hid (∀ i, i < r.st.length → (rstatesD r)[i]? = some (ratD r i).1) := rstatesD_get r
  have HL : Hid ((rstatesD r).length = r.st.length) := rstatesD_len r
  clear i1 i2 i3 i4 h
  generalize rstatesD r = L at *
  generalize r.st.length = n at *
  go_enter Try.func48, Try.ntmps48
  go_wp2
  go_loopw [3, 4] (fun v i wr => ∃ m : Nat, m ≤ n ∧ i = .int .i64 m ∧ wr.ownsRow w.heap.size 3 1 v m ((L.take m).map (Value.int .i64)) ∧ Below w.heap.size w wr) (fun _ i _ => n - (intOf i).toNat)
  case atStart => exact ⟨0, Nat.zero_le _, rfl, World.ownsRow_nil _ _ _ _, Below.refl _ _⟩
  case round =>
    obtain ⟨m, hm, rfl, hown, hB⟩ := hrel
    have c0 := HC.out wr hB
    by_cases hlt : m < n
    · have HAm : Hid _ := HAt.out wr hB m
      have hlt2 : (m : Int) < (n : Int) := by omega
      have HOw : Hid _ := hown
      have HB : Hid _ := hB
      have HTk : Hid ((L.take m).map (Value.int .i64) ++ [.int .i64 (ratD r m).1] = (L.take (m + 1)).map (Value.int .i64)) := by
        show _ = _
        rw [List.take_add_one, HG.out m hlt]
        simp
      clear hown hB HAt HG
      generalize ratD r m = y at *
      obtain ⟨s, t⟩ := y
      dsimp only at HAm HTk
      go_wp2_with fail
      refine Calls.mono HAm.out ?_
      rintro e w2 ⟨rfl, hb2⟩
      have HOw2 : Hid ((w2.alloc (.cells #[.int .i64 s] 3)).ownsRow w.heap.size 3 1 u3 m ((L.take m).map (Value.int .i64))) := (owns_below HOw.out hb2).alloc _
      have HB2 : Hid (Below w.heap.size w w2) := HB.out.trans (hb2.mono HB.out.size)
      have HSz : Hid (w.heap.size ≤ w2.heap.size) := HB2.out.size
      have HK : Hid (∀ k, u3.ownBlock = some k → w.heap.size ≤ k) := fun k hk => (World.ownsRow.lt HOw.out k hk).1
      clear HAm hb2 HOw HB c0
      go_wp2_with (refine wpList_append_own _ rfl _ _ 31 rfl w.heap.size 3 ia (.int .i64 0) 1 8 Try.underlying31 HIA.out.1 HIA.out.2.1 HIA.out.2.2.1 HIA.out.2.2.2 rfl (by omega) u3 m ((L.take m).map (Value.int .i64)) rfl HOw2.out ⟨w2.heap.size, 0, none⟩ 1 1 [.int .i64 s] rfl rfl one_newsI one_cellsI (by simp only [maxLen]; omega) (by omega) (by have := HSz.out; simp; omega) ?_; intro v' w1 r1 r2 r3; have HR : Hid (w1.ownsRow w.heap.size 3 1 v' (m + 1) ((L.take (m + 1)).map (Value.int .i64)) ∧ Below w.heap.size w w1) := ⟨by rw [← HTk.out]; exact r1, (HB2.out.alloc HSz.out _).grown r2 (by have := HSz.out; simp; omega) HK.out⟩; clear r1 r2 r3)
      go_roundw
      case rel => exact ⟨m + 1, by omega, by go_num, HR.out⟩
      case measure => simp [intOf]; omega
    · obtain rfl : m = n := by omega
      have hlt2 : ¬ ((m : Nat) : Int) < (m : Int) := by omega
      have HR : Hid (wr.ownsRow w.heap.size 3 1 u3 L.length (L.map (Value.int .i64)) ∧ Below w.heap.size w wr) := ⟨by
        have := hown
        rw [List.take_of_length_le (by rw [HL.out]; omega)] at this
        rw [HL.out]; exact this, hB⟩
      clear hown hB HAt HC
      go_wp2
      go_ret
      exact ⟨_, rfl, (ints_of_owns HR.out.1).1, (ints_of_owns HR.out.1).2, HR.out.2⟩
end Go.Proofs.Ythlaackalmgfnaa

namespace Go.Proofs.Ythlaackalmgfnaa
open Go.RowKit

theorem Rw.set {w : World} {g : Nat} {t : TypeId} {xs : List Value} (h : Rw w g t xs) (i : Nat) (hi : i < xs.length) (v : Value) : Rw (w.setCell ⟨g, i, none⟩ v) g t (xs.set i v) := by
  obtain ⟨cur, h1, rest, h2⟩ := h
  refine ⟨_, heap_set_same h1, rest, ?_⟩
  rw [Array.toList_setIfInBounds, h2, List.set_append_left _ _ hi]
theorem Rw.frozen {w : World} {g : Nat} {t : TypeId} {xs : List Value} (h : Rw w g t xs) (i : Nat) : w.frozen? ⟨g, i, none⟩ = false := by
  obtain ⟨cur, h1, _⟩ := h
  exact frozen_of_row _ _ _ _ _ h1
theorem rnodup {q a b : Nat} {cv kv : Value} (h : (rblocks q a b cv kv).Nodup) : q ≠ a ∧ q ≠ b ∧ a ≠ b ∧ (∀ k, cv.ownBlock = some k → k ≠ q ∧ k ≠ a ∧ k ≠ b ∧ kv.ownBlock ≠ some k) ∧ (∀ k, kv.ownBlock = some k → k ≠ q ∧ k ≠ a ∧ k ≠ b) := by
  simp only [rblocks, List.nodup_cons, List.mem_cons, List.mem_append, Option.mem_toList, List.nodup_append, not_or] at h
  obtain ⟨⟨h1, h2, h3, h4⟩, ⟨h5, h6, h7⟩, ⟨h8, h9⟩, h10, h11, h12⟩ := h
  refine ⟨h1, h2, h5, fun k hk => ⟨?_, ?_, ?_, ?_⟩, fun k hk => ⟨?_, ?_, ?_⟩⟩
  · rintro rfl; exact h3 hk
  · rintro rfl; exact h6 hk
  · rintro rfl; exact h8 hk
  · intro e; exact h12 k hk k e rfl
  · rintro rfl; exact h4 hk
  · rintro rfl; exact h7 hk
  · rintro rfl; exact h9 hk
section
variable {w w' : World} {q : Nat} {r : Rv} {O O' : Nat → Prop} {a b ca cb : Nat} {cv kv : Value}
theorem RefAt.q_ (h : RefAt w q r O a b ca cb cv kv) : O q ∧ O a ∧ O b ∧ q < w.heap.size ∧ a < w.heap.size ∧ b < w.heap.size :=
  ⟨(h.own q (by simp [rblocks])).1, (h.own a (by simp [rblocks])).1, (h.own b (by simp [rblocks])).1, (h.own q (by simp [rblocks])).2, (h.own a (by simp [rblocks])).2, (h.own b (by simp [rblocks])).2⟩
theorem RefAt.setSt (h : RefAt w q r O a b ca cb cv kv) (i : Nat) (hi : i < r.st.length) (v : Int) : RefAt (w.setCell ⟨a, i, none⟩ (.int .i64 v)) q { r with st := r.st.set i v } O a b ca cb cv kv := by
  obtain ⟨n1, n2, n3, n4, n5⟩ := rnodup h.nodup
  have hne : ∀ k, k ≠ a → (w.setCell ⟨a, i, none⟩ (.int .i64 v)).heap[k]? = w.heap[k]? := fun k hk => Below.heap_setCell _ _ _ _ hk
  have hl : (r.st.set i v).length = r.st.length := List.length_set
  refine ⟨?_, ?_, h.da.same (hne b n3.symm), ?_, ?_, ?_, owns_same h.acts fun k hk => hne k (n4 k hk).2.1, ?_, h.keep.same fun k hk => hne k (n5 k hk).2.1, h.lo, h.hi, h.nodup, fun k hk => ⟨(h.own k hk).1, by rw [heap_set_size]; exact (h.own k hk).2⟩⟩
  · rw [hne q n1, h.cells]; simp only [hl]
  · have := h.st.set i (by simpa using hi) (.int .i64 v)
    simpa [List.map_set] using this
  · simpa using h.len
  · simpa using h.pos
  · simpa using h.small
  · simpa using h.inr
theorem RefAt.setDa (h : RefAt w q r O a b ca cb cv kv) (i : Nat) (hi : i < r.st.length) (t : List UInt8) : RefAt (w.setCell ⟨b, i, none⟩ (.string (S t))) q { r with da := r.da.set i t } O a b ca cb cv kv := by
  obtain ⟨n1, n2, n3, n4, n5⟩ := rnodup h.nodup
  have hne : ∀ k, k ≠ b → (w.setCell ⟨b, i, none⟩ (.string (S t))).heap[k]? = w.heap[k]? := fun k hk => Below.heap_setCell _ _ _ _ hk
  refine ⟨?_, h.st.same (hne a n3), ?_, ?_, h.pos, h.small, owns_same h.acts fun k hk => hne k (n4 k hk).2.2.1, h.inr, h.keep.same fun k hk => hne k (n5 k hk).2.2, h.lo, h.hi, h.nodup, fun k hk => ⟨(h.own k hk).1, by rw [heap_set_size]; exact (h.own k hk).2⟩⟩
  · rw [hne q n2, h.cells]
  · have := h.da.set i (by simp [sv]; have := h.len; omega) (.string (S t))
    simpa [sv, List.map_set] using this
  · simpa using h.len
theorem RefAt.closed (h : RefAt w q r O a b ca cb cv kv) : RefAt (((w.setCell ⟨q, 2, none⟩ (.slice none 0 0)).setCell ⟨q, 3, none⟩ (.bool true)).setCell ⟨q, 5, none⟩ (.bool false)) q { r with acts := [], off := true, fails := false } O a b ca cb (.slice none 0 0) kv := by
  obtain ⟨n1, n2, n3, n4, n5⟩ := rnodup h.nodup
  have hne : ∀ k, k ≠ q → (((w.setCell ⟨q, 2, none⟩ (.slice none 0 0)).setCell ⟨q, 3, none⟩ (.bool true)).setCell ⟨q, 5, none⟩ (.bool false)).heap[k]? = w.heap[k]? := fun k hk => by
    rw [Below.heap_setCell _ _ _ _ hk, Below.heap_setCell _ _ _ _ hk, Below.heap_setCell _ _ _ _ hk]
  refine ⟨?_, h.st.same (hne a n1.symm), h.da.same (hne b n2.symm), h.len, h.pos, h.small, World.ownsRow_nil _ _ _ _, by simp, h.keep.same fun k hk => hne k (n5 k hk).1, h.lo, h.hi, ?_, fun k hk => ?_⟩
  · rw [heap_set_same (heap_set_same (heap_set_same h.cells))]; rfl
  · have hn := h.nodup
    simp only [rblocks, Value.ownBlock, List.nodup_cons, List.mem_cons, List.mem_append, Option.mem_toList, List.nodup_append, not_or] at hn ⊢
    obtain ⟨⟨h1, h2, h3, h4⟩, ⟨h5, h6, h7⟩, ⟨h8, h9⟩, h10, h11, h12⟩ := hn
    exact ⟨⟨h1, h2, by simp, h4⟩, ⟨h5, by simp, h7⟩, ⟨by simp, h9⟩, by simp, h11, by simp⟩
  · simp only [heap_set_size]
    refine h.own k ?_
    simp only [rblocks, Value.ownBlock, List.mem_cons, List.mem_append, Option.mem_toList] at hk ⊢
    rcases hk with hk | hk | hk | hk | hk
    · exact .inl hk
    · exact .inr (.inl hk)
    · exact .inr (.inr (.inl hk))
    · cases hk
    · exact .inr (.inr (.inr (.inr hk)))
theorem RefAt.range (h : RefAt w q r O a b ca cb cv kv) {k : Nat} {x : RA} (hx : r.acts[k]? = some x) : ∃ g c, cv = .slice (some ⟨g, 0, none⟩) r.acts.length c ∧ w.rangeAt g (k * 3) (raC x) := by
  obtain ⟨g, c, e, a0, a1, a2⟩ := h.act hx
  refine ⟨g, c, e, fun j v hj => ?_⟩
  have hl := (List.getElem?_eq_some_iff.1 hj).1
  have : j = 0 ∨ j = 1 ∨ j = 2 := by simp [raC] at hl; omega
  rcases this with rfl | rfl | rfl
  · obtain rfl : Value.int .i64 x.bl = v := by simpa [raC] using hj
    exact a0
  · obtain rfl : Value.string (S x.da) = v := by simpa [raC] using hj
    exact a1
  · obtain rfl : Value.bool x.er = v := by simpa [raC] using hj
    exact a2
end
/-- In the midst of a crash. -/
structure InRc (w : World) (q : Nat) (r : Rv) (O : Nat → Prop) (a b ca cb : Nat) (cv kv : Value) (k : List Int) (m : Nat) (wr : World) : Prop where
  dev : RefAt wr q { r with st := (rcrashN r.st r.da r.acts k m).1, da := (rcrashN r.st r.da r.acts k m).2 } O a b ca cb cv kv
  turn : Turn (fun i => i = a ∨ i = b) w wr
theorem rcrashN_len (st : List Int) (da : List (List UInt8)) (acts : List RA) (k : List Int) : ∀ m, (rcrashN st da acts k m).1.length = st.length ∧ (rcrashN st da acts k m).2.length = da.length
  | 0 => ⟨rfl, rfl⟩
  | m + 1 => by
    have h := rcrashN_len st da acts k m
    unfold rcrashN
    cases acts[m]? with
    | none => exact h
    | some x =>
      dsimp only
      split <;> split <;> simp [h]
theorem rcrashN_er {st : List Int} {da : List (List UInt8)} {acts : List RA} {k : List Int} {m : Nat} {x : RA} (h : acts[m]? = some x) (he : x.er = true) (hn : k.getD m 0 % 16 % 2 = 1) : rcrashN st da acts k (m + 1) = ((rcrashN st da acts k m).1.set x.bl.toNat 2, (rcrashN st da acts k m).2.set x.bl.toNat []) := by
  rw [rcrashN, h]; dsimp only; rw [if_pos he, if_pos hn]
theorem rcrashN_er0 {st : List Int} {da : List (List UInt8)} {acts : List RA} {k : List Int} {m : Nat} {x : RA} (h : acts[m]? = some x) (he : x.er = true) (hn : ¬ k.getD m 0 % 16 % 2 = 1) : rcrashN st da acts k (m + 1) = rcrashN st da acts k m := by
  rw [rcrashN, h]; dsimp only; rw [if_pos he, if_neg hn]
theorem rcrashN_wr {st : List Int} {da : List (List UInt8)} {acts : List RA} {k : List Int} {m : Nat} {x : RA} (h : acts[m]? = some x) (he : x.er = false) (hn : 0 < k.getD m 0 % 16) : rcrashN st da acts k (m + 1) = ((rcrashN st da acts k m).1.set x.bl.toNat 1, (rcrashN st da acts k m).2.set x.bl.toNat (tornN x.da (k.getD m 0 % 16) 4)) := by
  rw [rcrashN, h]; dsimp only; rw [if_neg (by rw [he]; decide), if_pos hn]
theorem rcrashN_wr0 {st : List Int} {da : List (List UInt8)} {acts : List RA} {k : List Int} {m : Nat} {x : RA} (h : acts[m]? = some x) (he : x.er = false) (hn : ¬ 0 < k.getD m 0 % 16) : rcrashN st da acts k (m + 1) = rcrashN st da acts k m := by
  rw [rcrashN, h]; dsimp only; rw [if_neg (by rw [he]; decide), if_neg hn]
end Go.Proofs.Ythlaackalmgfnaa
