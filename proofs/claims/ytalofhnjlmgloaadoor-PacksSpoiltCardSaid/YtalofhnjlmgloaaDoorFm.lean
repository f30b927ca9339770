/- Frames, plainly: a frame's text, its block, what a block tells; nothing of the program. -/
import Derived.Test.YtalofhnjlmgloaaDoorM2
import Derived.Test.YtalofhnjlmgloaaDoorCm
namespace Go.Proofs.YtalofhnjlmgloaaDoor
open Go.RowKit

/-- A frame. -/
structure Fr where
  k : Int
  e : Int
  i : Int
  d : List UInt8
/-- A frame as the program's value. -/
def frV (f : Fr) : Value := .agg #[.int .u8 f.k, .int .i64 f.e, .int .i64 f.i, .string (S f.d)]
def nof : Fr := ⟨0, 0, 0, []⟩
theorem Fr.ext' {f g : Fr} (h1 : f.k = g.k) (h2 : f.e = g.e) (h3 : f.i = g.i) (h4 : f.d = g.d) : f = g := by
  cases f; cases g; simp_all
/-- So many bytes from a place on. -/
def cut (l : List UInt8) (a n : Nat) : List UInt8 := (l.drop a).take n
theorem cut_length (l : List UInt8) (a n : Nat) (h : a + n ≤ l.length) : (cut l a n).length = n := by simp [cut]; omega
theorem cut_mid (a m c : List UInt8) {x n : Nat} (hx : a.length = x) (hn : m.length = n) : cut (a ++ (m ++ c)) x n = m := by
  subst hx; subst hn; simp [cut]
theorem cut_get (l : List UInt8) (a n j : Nat) : (cut l a n)[j]? = if j < n then l[a + j]? else none := by
  unfold cut
  rw [List.getElem?_take, List.getElem?_drop]
theorem cut_add (l : List UInt8) (a m n : Nat) : cut l a m ++ cut l (a + m) n = cut l a (m + n) := by
  unfold cut
  rw [← List.drop_drop, List.take_add]
theorem cut_all (l : List UInt8) (n : Nat) (h : l.length = n) : cut l 0 n = l := by
  unfold cut; rw [List.drop_zero, List.take_of_length_le (by omega)]
def kindB (k : Int) : Bool := k == 68 || k == 80 || k == 83
def epochB (e : Int) : Bool := decide (1 ≤ e) && decide (e ≤ 1073741824)
def indexB (i : Int) : Bool := decide (0 ≤ i) && decide (i ≤ 65535)
def mayB (f : Fr) : Bool := kindB f.k && epochB f.e && indexB f.i
theorem mayB_of {f : Fr} (h : mayB f = true) : (f.k = 68 ∨ f.k = 80 ∨ f.k = 83) ∧ (1 ≤ f.e ∧ f.e ≤ 1073741824) ∧ (0 ≤ f.i ∧ f.i ≤ 65535) := by
  simp [mayB, kindB, epochB, indexB] at h; omega
/-- The eight bytes ahead of the sum. -/
def headL (f : Fr) : List UInt8 := bytesOf f.k 1 ++ (bytesOf f.e 4 ++ (bytesOf f.i 2 ++ bytesOf f.d.length 1))
theorem headL_length (f : Fr) : (headL f).length = 8 := by simp [headL]
def sumF (f : Fr) : W32 := moreL 0#32 (headL f ++ f.d)
/-- A frame's text. -/
def textL (f : Fr) : List UInt8 := headL f ++ (bytesOf (iw (sumF f)) 4 ++ (f.d ++ List.replicate (112 - f.d.length) 0))
theorem textL_length {f : Fr} (h : f.d.length ≤ 112) : (textL f).length = 124 := by simp [textL, headL_length]; omega
/-- A text with the marks. -/
def markL (t : List UInt8) : List UInt8 := cut t 0 31 ++ ([165] ++ (cut t 31 31 ++ ([165] ++ (cut t 62 31 ++ ([165] ++ (cut t 93 31 ++ [165]))))))
/-- A block without them. -/
def unmL (b : List UInt8) : List UInt8 := cut b 0 31 ++ (cut b 32 31 ++ (cut b 64 31 ++ cut b 96 31))
theorem markL_length {t : List UInt8} (h : t.length = 124) : (markL t).length = 128 := by
  simp only [markL, List.length_append, List.length_cons, List.length_nil]
  rw [cut_length t 0 31 (by omega), cut_length t 31 31 (by omega), cut_length t 62 31 (by omega), cut_length t 93 31 (by omega)]
theorem unmL_length {b : List UInt8} (h : b.length = 128) : (unmL b).length = 124 := by
  simp only [unmL, List.length_append]
  rw [cut_length b 0 31 (by omega), cut_length b 32 31 (by omega), cut_length b 64 31 (by omega), cut_length b 96 31 (by omega)]
/-- Where a text's byte stands in its block. -/
theorem mark_get {t : List UInt8} (h : t.length = 124) (q : Nat) (hq : q < 124) : (markL t)[q + q / 31]? = t[q]? := by
  have l0 := cut_length t 0 31 (by omega)
  have l1 := cut_length t 31 31 (by omega)
  have l2 := cut_length t 62 31 (by omega)
  have l3 := cut_length t 93 31 (by omega)
  unfold markL
  have hd : q / 31 = 0 ∨ q / 31 = 1 ∨ q / 31 = 2 ∨ q / 31 = 3 := by omega
  rcases hd with e | e | e | e <;> rw [e]
  · rw [List.getElem?_append_left (by omega), cut_get, if_pos (by omega)]; congr 1; omega
  · rw [List.getElem?_append_right (by omega), List.getElem?_append_right (by simp; omega), List.getElem?_append_left (by simp; omega), cut_get, if_pos (by simp; omega)]
    congr 1; simp; omega
  · rw [List.getElem?_append_right (by omega), List.getElem?_append_right (by simp; omega), List.getElem?_append_right (by simp; omega), List.getElem?_append_right (by simp; omega), List.getElem?_append_left (by simp; omega), cut_get, if_pos (by simp; omega)]
    congr 1; simp; omega
  · rw [List.getElem?_append_right (by omega), List.getElem?_append_right (by simp; omega), List.getElem?_append_right (by simp; omega), List.getElem?_append_right (by simp; omega), List.getElem?_append_right (by simp; omega), List.getElem?_append_right (by simp; omega), List.getElem?_append_left (by simp; omega), cut_get, if_pos (by simp; omega)]
    congr 1; simp; omega
theorem mark_mark {t : List UInt8} (h : t.length = 124) (j : Nat) (hj : j < 4) : (markL t)[32 * j + 31]? = some 165 := by
  have l0 := cut_length t 0 31 (by omega)
  have l1 := cut_length t 31 31 (by omega)
  have l2 := cut_length t 62 31 (by omega)
  have l3 := cut_length t 93 31 (by omega)
  unfold markL
  have hd : j = 0 ∨ j = 1 ∨ j = 2 ∨ j = 3 := by omega
  rcases hd with rfl | rfl | rfl | rfl
  · rw [List.getElem?_append_right (by omega), l0]; rfl
  · rw [List.getElem?_append_right (by omega), List.getElem?_append_right (by simp; omega), List.getElem?_append_right (by simp; omega), l0, l1]; rfl
  · rw [List.getElem?_append_right (by omega), List.getElem?_append_right (by simp; omega), List.getElem?_append_right (by simp; omega), List.getElem?_append_right (by simp; omega), List.getElem?_append_right (by simp; omega), l0, l1, l2]; rfl
  · rw [List.getElem?_append_right (by omega), List.getElem?_append_right (by simp; omega), List.getElem?_append_right (by simp; omega), List.getElem?_append_right (by simp; omega), List.getElem?_append_right (by simp; omega), List.getElem?_append_right (by simp; omega), List.getElem?_append_right (by simp; omega), l0, l1, l2, l3]; rfl
theorem unm_get {b : List UInt8} (h : b.length = 128) (q : Nat) (hq : q < 124) : (unmL b)[q]? = b[q + q / 31]? := by
  have l0 := cut_length b 0 31 (by omega)
  have l1 := cut_length b 32 31 (by omega)
  have l2 := cut_length b 64 31 (by omega)
  have l3 := cut_length b 96 31 (by omega)
  unfold unmL
  have hd : q / 31 = 0 ∨ q / 31 = 1 ∨ q / 31 = 2 ∨ q / 31 = 3 := by omega
  rcases hd with e | e | e | e <;> rw [e]
  · rw [List.getElem?_append_left (by omega), cut_get, if_pos (by omega)]; congr 1; omega
  · rw [List.getElem?_append_right (by omega), List.getElem?_append_left (by omega), cut_get, if_pos (by omega)]; congr 1; omega
  · rw [List.getElem?_append_right (by omega), List.getElem?_append_right (by omega), List.getElem?_append_left (by omega), cut_get, if_pos (by omega)]; congr 1; omega
  · rw [List.getElem?_append_right (by omega), List.getElem?_append_right (by omega), List.getElem?_append_right (by omega), cut_get, if_pos (by omega)]; congr 1; omega
theorem unm_mark {t : List UInt8} (h : t.length = 124) : unmL (markL t) = t := by
  have hl := markL_length h
  apply List.ext_getElem?
  intro q
  by_cases hq : q < 124
  · rw [unm_get hl q hq, mark_get h q hq]
  · rw [List.getElem?_eq_none (by rw [unmL_length hl]; omega), List.getElem?_eq_none (by omega)]
/-- What Encode says, and the block. -/
def encE (f : Fr) : Int := if mayB f then (if f.d.length ≤ 112 then 0 else 3) else 2
def encL (f : Fr) : List UInt8 := if mayB f && decide (f.d.length ≤ 112) then markL (textL f) else []
theorem encE_ok {f : Fr} : encE f = 0 ↔ mayB f = true ∧ f.d.length ≤ 112 := by
  unfold encE
  by_cases h : mayB f = true
  · by_cases h2 : f.d.length ≤ 112
    · simp [h, h2]
    · simp [h, h2]
  · simp [h]
theorem encL_ok {f : Fr} (h : encE f = 0) : encL f = markL (textL f) := by
  obtain ⟨h1, h2⟩ := encE_ok.1 h
  simp [encL, h1, h2]
theorem encL_no {f : Fr} (h : encE f ≠ 0) : encL f = [] := by
  unfold encL
  rw [if_neg]
  intro h2
  exact h (encE_ok.2 (by simpa using h2))
theorem encL_length {f : Fr} (h : encE f = 0) : (encL f).length = 128 := by
  rw [encL_ok h]; exact markL_length (textL_length (encE_ok.1 h).2)
/-- What a text tells of. -/
def tellF (t : List UInt8) : Fr := ⟨numL (cut t 0 1), numL (cut t 1 4), numL (cut t 5 2), cut t 12 (t[7]?.getD 0).toNat⟩
theorem text_cuts (f : Fr) (_h : f.d.length ≤ 112) : cut (textL f) 0 1 = bytesOf f.k 1 ∧ cut (textL f) 1 4 = bytesOf f.e 4 ∧ cut (textL f) 5 2 = bytesOf f.i 2 ∧ cut (textL f) 7 1 = bytesOf f.d.length 1 ∧ cut (textL f) 8 4 = bytesOf (iw (sumF f)) 4 ∧ cut (textL f) 12 f.d.length = f.d ∧ cut (textL f) (12 + f.d.length) (112 - f.d.length) = List.replicate (112 - f.d.length) 0 ∧ cut (textL f) 0 8 = headL f := by
  refine ⟨?_, ?_, ?_, ?_, ?_, ?_, ?_, ?_⟩
  · have := cut_mid [] (bytesOf f.k 1) ((bytesOf f.e 4 ++ (bytesOf f.i 2 ++ bytesOf f.d.length 1)) ++ (bytesOf (iw (sumF f)) 4 ++ (f.d ++ List.replicate (112 - f.d.length) 0))) (x := 0) (n := 1) rfl (by simp)
    simpa [textL, headL] using this
  · have := cut_mid (bytesOf f.k 1) (bytesOf f.e 4) ((bytesOf f.i 2 ++ bytesOf f.d.length 1) ++ (bytesOf (iw (sumF f)) 4 ++ (f.d ++ List.replicate (112 - f.d.length) 0))) (x := 1) (n := 4) (by simp) (by simp)
    simpa [textL, headL] using this
  · have := cut_mid (bytesOf f.k 1 ++ bytesOf f.e 4) (bytesOf f.i 2) (bytesOf f.d.length 1 ++ (bytesOf (iw (sumF f)) 4 ++ (f.d ++ List.replicate (112 - f.d.length) 0))) (x := 5) (n := 2) (by simp) (by simp)
    simpa [textL, headL] using this
  · have := cut_mid (bytesOf f.k 1 ++ (bytesOf f.e 4 ++ bytesOf f.i 2)) (bytesOf f.d.length 1) (bytesOf (iw (sumF f)) 4 ++ (f.d ++ List.replicate (112 - f.d.length) 0)) (x := 7) (n := 1) (by simp) (by simp)
    simpa [textL, headL] using this
  · have := cut_mid (headL f) (bytesOf (iw (sumF f)) 4) (f.d ++ List.replicate (112 - f.d.length) 0) (x := 8) (n := 4) (headL_length f) (by simp)
    simpa [textL] using this
  · have := cut_mid (headL f ++ bytesOf (iw (sumF f)) 4) f.d (List.replicate (112 - f.d.length) 0) (x := 12) (n := f.d.length) (by simp [headL_length]) rfl
    simpa [textL] using this
  · have := cut_mid (headL f ++ (bytesOf (iw (sumF f)) 4 ++ f.d)) (List.replicate (112 - f.d.length) 0) [] (x := 12 + f.d.length) (n := 112 - f.d.length) (by simp [headL_length]; omega) (by simp)
    simpa [textL] using this
  · have := cut_mid [] (headL f) (bytesOf (iw (sumF f)) 4 ++ (f.d ++ List.replicate (112 - f.d.length) 0)) (x := 0) (n := 8) rfl (headL_length f)
    simpa [textL] using this
theorem cut_one {l : List UInt8} {a : Nat} {x : UInt8} (h : cut l a 1 = [x]) : l[a]? = some x := by
  have := congrArg (fun z : List UInt8 => z[0]?) h
  simp only [cut_get] at this
  simpa using this
theorem text_seven (f : Fr) (h : f.d.length ≤ 112) : (textL f)[7]? = some (by8 f.d.length) := by
  apply cut_one
  rw [(text_cuts f h).2.2.2.1]; rfl
theorem text_count (f : Fr) (h : f.d.length ≤ 112) : ((textL f)[7]?.getD 0).toNat = f.d.length := by
  rw [text_seven f h]
  have := by8_num (f.d.length : Int)
  show (by8 _).toNat = _
  omega
theorem tell_text (f : Fr) (hm : mayB f = true) (h : f.d.length ≤ 112) : tellF (textL f) = f := by
  obtain ⟨hk, he, hi⟩ := mayB_of hm
  obtain ⟨c1, c2, c3, c4, c5, c6, _, _⟩ := text_cuts f h
  apply Fr.ext'
  · show numL (cut (textL f) 0 1) = _; rw [c1, numL_bytesOf 1 _ (by omega) (by omega)]
  · show numL (cut (textL f) 1 4) = _; rw [c2, numL_bytesOf 4 _ (by omega) (by omega)]
  · show numL (cut (textL f) 5 2) = _; rw [c3, numL_bytesOf 2 _ (by omega) (by omega)]
  · show cut (textL f) 12 _ = _; rw [text_count f h, c6]
/-- Is it a frame's block? -/
def decB (b : List UInt8) : Bool := decide (b.length = 128) && (decide (((unmL b)[7]?.getD 0).toNat ≤ 112) && (decide (encE (tellF (unmL b)) = 0) && decide (encL (tellF (unmL b)) = b)))
def decF (b : List UInt8) : Fr := if decB b then tellF (unmL b) else nof
def decE (b : List UInt8) : Int := if decB b then 0 else 10
theorem decE_ok {b : List UInt8} : decE b = 0 ↔ decB b = true := by unfold decE; cases decB b <;> simp
theorem decE_cases (b : List UInt8) : decE b = 0 ∨ decE b = 10 := by unfold decE; cases decB b <;> simp
theorem dec_enc {f : Fr} (h : encE f = 0) : decB (encL f) = true ∧ decF (encL f) = f := by
  obtain ⟨hm, hl⟩ := encE_ok.1 h
  have hb : decB (encL f) = true := by
    unfold decB
    rw [encL_length h, encL_ok h, unm_mark (textL_length hl), text_count f hl, tell_text f hm hl, encL_ok h]
    simp [hl, h]
  refine ⟨hb, ?_⟩
  unfold decF
  rw [hb, encL_ok h, unm_mark (textL_length hl), tell_text f hm hl]; rfl
theorem enc_dec {b : List UInt8} (h : decB b = true) : encE (decF b) = 0 ∧ encL (decF b) = b := by
  unfold decF
  rw [h]
  unfold decB at h
  simp only [Bool.and_eq_true, decide_eq_true_eq] at h
  exact ⟨h.2.2.1, h.2.2.2⟩
theorem enc_inj {f g : Fr} (hf : encE f = 0) (hg : encE g = 0) (h : encL f = encL g) : f = g := by
  rw [← (dec_enc hf).2, ← (dec_enc hg).2, h]
/-- Does it lack a mark? -/
def markB (b : List UInt8) (j : Nat) : Bool := b[32 * j + 31]? == some 165
def lackB (b : List UInt8) : Bool := decide (b.length = 128) && !(markB b 0 && (markB b 1 && (markB b 2 && markB b 3)))
theorem enc_marks {f : Fr} (h : encE f = 0) (j : Nat) (hj : j < 4) : markB (encL f) j = true := by
  unfold markB
  rw [encL_ok h, mark_mark (textL_length (encE_ok.1 h).2) j hj]; rfl
theorem enc_whole {f : Fr} (h : encE f = 0) : lackB (encL f) = false := by
  unfold lackB
  rw [enc_marks h 0 (by omega), enc_marks h 1 (by omega), enc_marks h 2 (by omega), enc_marks h 3 (by omega)]
  simp
theorem torn_none {b : List UInt8} (h : lackB b = true) : decB b = false := by
  cases hd : decB b with
  | false => rfl
  | true =>
    obtain ⟨h1, h2⟩ := enc_dec hd
    have := enc_whole h1
    rw [h2, h] at this
    cases this
theorem torn_of {b : List UInt8} (hl : b.length = 128) {j : Nat} (hj : j < 4) (h : markB b j = false) : lackB b = true := by
  unfold lackB
  have : j = 0 ∨ j = 1 ∨ j = 2 ∨ j = 3 := by omega
  rcases this with rfl | rfl | rfl | rfl <;> simp [hl, h]
/-- Bytes of which just one may be another one: their sums are unlike, if it is. -/
theorem crc_one {l m : List UInt8} {q : Nat} (r : W32) (hl : l.length = m.length) (hq : q < l.length) (h : ∀ j, j ≠ q → l[j]? = m[j]?) (hs : crcL r l = crcL r m) : l[q]? = m[q]? := by
  have e1 : l = l.take q ++ [l[q]] ++ l.drop (q + 1) := by
    rw [List.append_assoc, List.singleton_append, List.getElem_cons_drop, List.take_append_drop]
  have e2 : m = m.take q ++ [m[q]'(by omega)] ++ m.drop (q + 1) := by
    rw [List.append_assoc, List.singleton_append, List.getElem_cons_drop, List.take_append_drop]
  have t1 : l.take q = m.take q := by
    apply List.ext_getElem?
    intro j
    rw [List.getElem?_take, List.getElem?_take]
    by_cases hj : j < q
    · rw [if_pos hj, if_pos hj, h j (by omega)]
    · rw [if_neg hj, if_neg hj]
  have t2 : l.drop (q + 1) = m.drop (q + 1) := by
    apply List.ext_getElem?
    intro j
    rw [List.getElem?_drop, List.getElem?_drop, h _ (by omega)]
  rw [e1, e2, t1, t2, crcL_mid] at hs
  have hb : bw l[q] = bw (m[q]'(by omega)) := by
    have := bitN_inj 8 hs
    have e := congrArg (crcL r (m.take q) ^^^ ·) this
    simpa [← BitVec.xor_assoc] using e
  rw [List.getElem?_eq_getElem hq, List.getElem?_eq_getElem (by omega)]
  congr 1
  apply UInt8.toNat_inj.1
  have := congrArg BitVec.toNat hb
  unfold bw at this
  have a1 := UInt8.toNat_lt l[q]
  have a2 := UInt8.toNat_lt (m[q]'(by omega))
  simpa using this
theorem iw_bytes_inj {a b : W32} (h : bytesOf (iw a) 4 = bytesOf (iw b) 4) : a = b := by
  have := congrArg numL h
  have a1 := a.isLt
  have b1 := b.isLt
  rw [numL_bytesOf 4 _ (by unfold iw; omega) (by unfold iw; omega), numL_bytesOf 4 _ (by unfold iw; omega) (by unfold iw; omega)] at this
  unfold iw at this
  exact BitVec.eq_of_toNat_eq (by omega)
/-- Two frames' texts of which just one byte is another one: it is the eighth. -/
theorem text_one {f g : Fr} (hf : f.d.length ≤ 112) (hg : g.d.length ≤ 112) {q : Nat} (hq : q < 124) (h7 : q ≠ 7) (h : ∀ j, j ≠ q → (textL f)[j]? = (textL g)[j]?) : (textL f)[q]? = (textL g)[q]? := by
  have hn : f.d.length = g.d.length := by
    rw [← text_count f hf, ← text_count g hg, h 7 (by omega)]
  obtain ⟨_, _, _, _, s1, d1, z1, p1⟩ := text_cuts f hf
  obtain ⟨_, _, _, _, s2, d2, z2, p2⟩ := text_cuts g hg
  have same : ∀ a n, (q < a ∨ a + n ≤ q) → cut (textL f) a n = cut (textL g) a n := fun a n hq' => by
    apply List.ext_getElem?
    intro j
    rw [cut_get, cut_get]
    by_cases hj : j < n
    · rw [if_pos hj, if_pos hj, h _ (by omega)]
    · rw [if_neg hj, if_neg hj]
  have back : ∀ a n, a ≤ q → q < a + n → cut (textL f) a n = cut (textL g) a n → (textL f)[q]? = (textL g)[q]? := fun a n h1 h2 e => by
    have := congrArg (fun z : List UInt8 => z[q - a]?) e
    simp only [cut_get, if_pos (show q - a < n by omega), show a + (q - a) = q by omega] at this
    exact this
  by_cases c1 : q < 8
  · -- the sum is the same
    have e8 := same 8 4 (by omega)
    rw [s1, s2] at e8
    have es := (moreL_eq _ _ _).1 (show moreL 0#32 (headL f ++ f.d) = moreL 0#32 (headL g ++ g.d) from iw_bytes_inj e8)
    have ed := same 12 f.d.length (by omega)
    rw [d1, hn, d2] at ed
    rw [ed] at es
    have : (headL f ++ g.d)[q]? = (headL g ++ g.d)[q]? := crc_one _ (by simp [headL_length]) (by simp [headL_length]; omega) (fun j hj => by
      by_cases hj8 : j < 8
      · rw [List.getElem?_append_left (by rw [headL_length]; omega), List.getElem?_append_left (by rw [headL_length]; omega), ← p1, ← p2, cut_get, cut_get, if_pos hj8, if_pos hj8, h _ (by omega)]
      · rw [List.getElem?_append_right (by rw [headL_length]; omega), List.getElem?_append_right (by rw [headL_length]; omega), headL_length, headL_length]) es
    rw [List.getElem?_append_left (by rw [headL_length]; omega), List.getElem?_append_left (by rw [headL_length]; omega), ← p1, ← p2, cut_get, cut_get, if_pos c1, if_pos c1, Nat.zero_add] at this
    exact this
  have eh : headL f = headL g := by rw [← p1, ← p2]; exact same 0 8 (by omega)
  by_cases c2 : q < 12
  · -- what is summed is the same
    have ed := same 12 f.d.length (by omega)
    rw [d1, hn, d2] at ed
    apply back 8 4 (by omega) (by omega)
    rw [s1, s2]
    unfold sumF
    rw [eh, ed]
  by_cases c3 : q < 12 + f.d.length
  · have e8 := same 8 4 (by omega)
    rw [s1, s2] at e8
    have es := (moreL_eq _ _ _).1 (show moreL 0#32 (headL f ++ f.d) = moreL 0#32 (headL g ++ g.d) from iw_bytes_inj e8)
    rw [eh, crcL_append, crcL_append] at es
    apply back 12 f.d.length (by omega) (by omega)
    rw [d1, hn, d2]
    have one : ∀ j, j ≠ q - 12 → f.d[j]? = g.d[j]? := fun j hj => by
      by_cases hjl : j < f.d.length
      · have := h (12 + j) (by omega)
        rw [← d1, ← d2, cut_get, cut_get, if_pos hjl, if_pos (by omega)]
        exact this
      · rw [List.getElem?_eq_none (by omega), List.getElem?_eq_none (by omega)]
    have hx := crc_one _ hn (show q - 12 < f.d.length by omega) one es
    apply List.ext_getElem?
    intro j
    by_cases hj : j = q - 12
    · rw [hj]; exact hx
    · exact one j hj
  · apply back (12 + f.d.length) (112 - f.d.length) (by omega) (by omega)
    rw [z1, hn, z2]
/-- A frame's block of which one byte, but the eighth, is another one, is none of a frame. -/
theorem one_none {f : Fr} (hf : encE f = 0) {b : List UInt8} {p : Nat} (_hl : b.length = 128) (hp : p < 128) (h7 : p ≠ 7) (h : ∀ j, j ≠ p → (encL f)[j]? = b[j]?) (hne : (encL f)[p]? ≠ b[p]?) : decB b = false := by
  cases hd : decB b with
  | false => rfl
  | true =>
    exfalso
    obtain ⟨g1, g2⟩ := enc_dec hd
    generalize decF b = g at g1 g2
    obtain ⟨_, lf⟩ := encE_ok.1 hf
    obtain ⟨_, lg⟩ := encE_ok.1 g1
    have tf := textL_length lf
    have tg := textL_length lg
    rw [← g2] at h hne
    rw [encL_ok hf, encL_ok g1] at h hne
    by_cases hm : p % 32 = 31
    · apply hne
      have hp2 : p = 32 * (p / 32) + 31 := by omega
      rw [hp2, mark_mark tf _ (by omega), mark_mark tg _ (by omega)]
    · have hq : (p - p / 32) + (p - p / 32) / 31 = p := by omega
      apply hne
      have := text_one lf lg (q := p - p / 32) (by omega) (by omega) (fun j hj => by
        by_cases hj2 : j < 124
        · rw [← mark_get tf j hj2, ← mark_get tg j hj2]
          exact h _ (by omega)
        · rw [List.getElem?_eq_none (by omega), List.getElem?_eq_none (by omega)])
      rw [← mark_get tf _ (by omega), ← mark_get tg _ (by omega), hq] at this
      exact this
end Go.Proofs.YtalofhnjlmgloaaDoor
