/- The words of a block, one by one; how a hash is reckoned by the kernel: nothing of the program. -/
import Derived.Test.YtficmbaffkkfhabDoorSd
import Derived.Test.YtficmbaffkkfhabDoorSf0
namespace Go.Proofs.YtficmbaffkkfhabDoor
open Go.RowKit

theorem schT_keep (l : List UInt8) (t j : Nat) (h : j ≠ t + 16) : schT l (t + 1) j = schT l t j := upd_other _ _ h
theorem schT_stay (l : List UInt8) (j : Nat) : ∀ n t, j < t + 16 → schT l (t + n) j = schT l t j
  | 0, _, _ => rfl
  | n + 1, t, h => by
    rw [show t + (n + 1) = (t + n) + 1 by omega, schT_keep l (t + n) j (by omega)]
    exact schT_stay l j n t h
theorem sch_at (l : List UInt8) (t j : Nat) (ht : t ≤ 48) (h : j < t + 16) : sch l j = schT l t j := by
  unfold sch
  rw [show 48 = t + (48 - t) by omega]
  exact schT_stay l j _ t h
theorem sch_first (l : List UInt8) (j : Nat) (h : j < 16) : sch l j = fill l 64 j := sch_at l 0 j (by omega) (by omega)
theorem sch_next (l : List UInt8) (t : Nat) (h : t < 48) : sch l (t + 16) = s1 (sch l (t + 14)) + sch l (t + 9) + s0 (sch l (t + 1)) + sch l t := by
  rw [sch_at l (t + 1) (t + 16) (by omega) (by omega), sch_at l t (t + 14) (by omega) (by omega), sch_at l t (t + 9) (by omega) (by omega), sch_at l t (t + 1) (by omega) (by omega), sch_at l t t (by omega) (by omega)]
  exact upd_same _ _ _

/-- A number is reckoned ahead of what goes on with it. -/
def fz {α : Type} (n : Nat) (k : Nat → α) : α := Nat.rec (k 0) (fun m _ => k (Nat.succ m)) n
theorem fz_eq {α : Type} (n : Nat) (k : Nat → α) : fz n k = k n := by cases n <;> rfl
/-- Words, the last one first. -/
def sc1 (l : List UInt8) : Nat → List Nat → List Nat
  | 0, ws => ws
  | n + 1, ws => fz (fill l 64 (15 - n)).toNat fun x => sc1 l n (x :: ws)
def wd (ws : List Nat) (i : Nat) : W32 := BitVec.ofNat 32 (ws.getD i 0)
def sc2 : Nat → List Nat → List Nat
  | 0, ws => ws
  | n + 1, ws => fz (s1 (wd ws 1) + wd ws 6 + s0 (wd ws 14) + wd ws 15).toNat fun x => sc2 n (x :: ws)
/-- As many words of a block, the last one first. -/
def Back (l : List UInt8) (n : Nat) (ws : List Nat) : Prop := ws.length = n ∧ ∀ i, i < n → wd ws i = sch l (n - 1 - i)
theorem Back.snoc {l : List UInt8} {n : Nat} {ws : List Nat} (h : Back l n ws) (x : W32) (hx : x = sch l n) : Back l (n + 1) (x.toNat :: ws) := by
  refine ⟨by simp [h.1], fun i hi => ?_⟩
  cases i with
  | zero => simp [wd, hx]
  | succ i =>
    have := h.2 i (by omega)
    rw [show n + 1 - 1 - (i + 1) = n - 1 - i by omega, ← this]
    simp [wd]
theorem sc1_back (l : List UInt8) : ∀ n ws, n ≤ 16 → Back l (16 - n) ws → Back l 16 (sc1 l n ws)
  | 0, _, _, h => h
  | n + 1, ws, hn, h => by
    rw [sc1, fz_eq]
    refine sc1_back l n _ (by omega) ?_
    have := h.snoc (fill l 64 (15 - n)) (by rw [sch_first l _ (by omega), show 16 - (n + 1) = 15 - n by omega])
    rwa [show 16 - (n + 1) + 1 = 16 - n by omega] at this
theorem sc2_back (l : List UInt8) : ∀ n ws, n ≤ 48 → Back l (64 - n) ws → Back l 64 (sc2 n ws)
  | 0, _, _, h => h
  | n + 1, ws, hn, h => by
    rw [sc2, fz_eq]
    refine sc2_back l n _ (by omega) ?_
    have e := sch_next l (47 - n) (by omega)
    have := h.snoc (s1 (wd ws 1) + wd ws 6 + s0 (wd ws 14) + wd ws 15) (by
      rw [h.2 1 (by omega), h.2 6 (by omega), h.2 14 (by omega), h.2 15 (by omega), show 64 - (n + 1) = 47 - n + 16 by omega, e]
      rw [show 47 - n + 16 - 1 - 1 = 47 - n + 14 by omega, show 47 - n + 16 - 1 - 6 = 47 - n + 9 by omega, show 47 - n + 16 - 1 - 14 = 47 - n + 1 by omega, show 47 - n + 16 - 1 - 15 = 47 - n by omega])
    rwa [show 64 - (n + 1) + 1 = 64 - n by omega] at this
/-- A block's 64 words, in order. -/
def scL (l : List UInt8) : List Nat := (sc2 48 (sc1 l 16 [])).reverse
theorem scL_at (l : List UInt8) (i : Nat) (h : i < 64) : wd (scL l) i = sch l i := by
  have hb := sc2_back l 48 (sc1 l 16 []) (by omega) (sc1_back l 16 [] (by omega) ⟨rfl, fun i hi => by omega⟩)
  have := hb.2 (63 - i) (by omega)
  rw [show 64 - 1 - (63 - i) = i by omega] at this
  rw [← this]
  unfold wd scL
  congr 1
  rw [List.getD_eq_getElem?_getD, List.getD_eq_getElem?_getD, List.getElem?_reverse (by rw [hb.1]; exact h), hb.1]
theorem scL_length (l : List UInt8) : (scL l).length = 64 := by
  have hb := sc2_back l 48 (sc1 l 16 []) (by omega) (sc1_back l 16 [] (by omega) ⟨rfl, fun i hi => by omega⟩)
  simp [scL, hb.1]
/-- Eight words. -/
def vv (a b c d e f g h : Nat) : Nat → W32 := wd [a, b, c, d, e, f, g, h]
def ev : List Nat → List Nat → Nat → Nat → Nat → Nat → Nat → Nat → Nat → Nat → List Nat
  | k :: ks, w :: ws, a, b, c, d, e, f, g, h =>
    fz (tOne (vv a b c d e f g h) (BitVec.ofNat 32 k) (BitVec.ofNat 32 w)).toNat fun t1 =>
    fz (BitVec.ofNat 32 t1 + tTwo (vv a b c d e f g h)).toNat fun x =>
    fz (BitVec.ofNat 32 d + BitVec.ofNat 32 t1).toNat fun y => ev ks ws x a b c y e f g
  | _, _, a, b, c, d, e, f, g, h => [a, b, c, d, e, f, g, h]
theorem turn_congr {u v : Nat → W32} (h : ∀ j, j < 8 → u j = v j) (k w : W32) : ∀ j, j < 8 → turn u k w j = turn v k w j := by
  intro j hj
  have e1 : tOne u k w = tOne v k w := by unfold tOne; rw [h 7 (by omega), h 4 (by omega), h 5 (by omega), h 6 (by omega)]
  have e2 : tTwo u = tTwo v := by unfold tTwo; rw [h 0 (by omega), h 1 (by omega), h 2 (by omega)]
  unfold turn
  rw [e1, e2, h 3 (by omega)]
  by_cases h0 : j = 0
  · simp [h0]
  · simp only [h0, if_false]; rw [h (j - 1) (by omega)]
theorem ofn (x : W32) : BitVec.ofNat 32 x.toNat = x := by simp
theorem ev_spec (wf s : Nat → W32) : ∀ (n t : Nat) (ks ws : List Nat) (a b c d e f g h : Nat), n + t = 64 → ks.length = n → ws.length = n → (∀ i, i < n → wd ks i = kk (t + i)) → (∀ i, i < n → wd ws i = wf (t + i)) →
    (∀ j, j < 8 → turns wf s t j = vv a b c d e f g h j) → ∀ j, j < 8 → turns wf s 64 j = wd (ev ks ws a b c d e f g h) j
  | 0, t, [], [], a, b, c, d, e, f, g, h, hn, _, _, _, _, hv, j, hj => by
    obtain rfl : t = 64 := by omega
    exact hv j hj
  | n + 1, t, k :: ks, w :: ws, a, b, c, d, e, f, g, h, hn, hk, hw, hks, hws, hv, j, hj => by
    rw [ev, fz_eq, fz_eq, fz_eq]
    refine ev_spec wf s n (t + 1) ks ws _ _ _ _ _ _ _ _ (by omega) (by simpa using hk) (by simpa using hw) (fun i hi => ?_) (fun i hi => ?_) ?_ j hj
    · have := hks (i + 1) (by omega)
      rw [show t + (i + 1) = t + 1 + i by omega] at this
      simpa [wd] using this
    · have := hws (i + 1) (by omega)
      rw [show t + (i + 1) = t + 1 + i by omega] at this
      simpa [wd] using this
    · intro j hj
      have e1 : kk t = BitVec.ofNat 32 k := by have := hks 0 (by omega); simpa [wd] using this.symm
      have e2 : wf t = BitVec.ofNat 32 w := by have := hws 0 (by omega); simpa [wd] using this.symm
      rw [turns, turn_congr hv _ _ j hj, e1, e2]
      have : j = 0 ∨ j = 1 ∨ j = 2 ∨ j = 3 ∨ j = 4 ∨ j = 5 ∨ j = 6 ∨ j = 7 := by omega
      rcases this with rfl | rfl | rfl | rfl | rfl | rfl | rfl | rfl
      · show tOne _ _ _ + tTwo _ = BitVec.ofNat 32 (BitVec.ofNat 32 (tOne _ _ _).toNat + tTwo _).toNat
        rw [ofn, ofn]
      · rfl
      · rfl
      · rfl
      · show BitVec.ofNat 32 d + tOne _ _ _ = BitVec.ofNat 32 (BitVec.ofNat 32 d + BitVec.ofNat 32 (tOne _ _ _).toNat).toNat
        rw [ofn, ofn]
      · rfl
      · rfl
      · rfl
  | 0, _, _ :: _, _, _, _, _, _, _, _, _, _, _, hk, _, _, _, _, _, _ => by simp at hk
  | 0, _, [], _ :: _, _, _, _, _, _, _, _, _, _, _, hw, _, _, _, _, _ => by simp at hw
  | n + 1, _, [], _, _, _, _, _, _, _, _, _, _, hk, _, _, _, _, _, _ => by simp at hk
  | n + 1, _, _ :: _, [], _, _, _, _, _, _, _, _, _, _, hw, _, _, _, _, _ => by simp at hw
/-- The state behind one block, reckoned. -/
def ev1 (l : List UInt8) : List Nat := ev kList (scL l) 1779033703 3144134277 1013904242 2773480762 1359893119 2600822924 528734635 1541459225
theorem ev1_spec (l : List UInt8) (j : Nat) (hj : j < 8) : bhd ini l j = ini j + wd (ev1 l) j := by
  unfold bhd
  congr 1
  exact ev_spec (sch l) ini 64 0 kList (scL l) _ _ _ _ _ _ _ _ rfl rfl (scL_length l) (fun i _ => by rw [Nat.zero_add]; rfl) (fun i hi => by rw [Nat.zero_add]; exact scL_at l i hi) (fun j hj => by
    show ini j = _
    have : j = 0 ∨ j = 1 ∨ j = 2 ∨ j = 3 ∨ j = 4 ∨ j = 5 ∨ j = 6 ∨ j = 7 := by omega
    rcases this with rfl | rfl | rfl | rfl | rfl | rfl | rfl | rfl <;> rfl) j hj
theorem hb_congr {u v : Nat → W32} (h : ∀ j, j < 8 → u j = v j) (i : Nat) (hi : i < 32) : hb u i = hb v i := by
  unfold hb; rw [h (i / 4) (by omega)]
theorem hashT_congr {u v : Nat → W32} (h : ∀ j, j < 8 → u j = v j) : hashT u 32 = hashT v 32 := by
  unfold hashT
  apply List.map_congr_left
  intro i hi
  exact hb_congr h i (by simpa using hi)
/-- The hash of a text whose message is one block, reckoned. -/
def hash1 (b : List UInt8) : List UInt8 := match ev1 b with
  | [a, b, c, d, e, f, g, h] => hashT (fun j => ini j + vv a b c d e f g h j) 32
  | _ => []
theorem ev_form : ∀ (ks ws : List Nat) (a b c d e f g h : Nat), ∃ a' b' c' d' e' f' g' h', ev ks ws a b c d e f g h = [a', b', c', d', e', f', g', h']
  | k :: ks, w :: ws, a, b, c, d, e, f, g, h => by
    rw [ev, fz_eq, fz_eq, fz_eq]
    exact ev_form ks ws _ _ _ _ _ _ _ _
  | [], _, a, b, c, d, e, f, g, h => ⟨a, b, c, d, e, f, g, h, by rw [ev]; intro _ _ _ _ h; cases h⟩
  | _ :: _, [], a, b, c, d, e, f, g, h => ⟨a, b, c, d, e, f, g, h, by rw [ev]; intro _ _ _ _ _ h; cases h⟩
theorem shaL_one (l : List UInt8) (h : (l ++ endL l.length).length = 64) : shaL l = hash1 (l ++ endL l.length) := by
  unfold shaL
  generalize l ++ endL l.length = m at *
  have e : stOf m = bhd ini m := by
    unfold stOf
    rw [h]
    show bhd ini ((m.drop (64 * 0)).take 64) = _
    rw [Nat.mul_zero, List.drop_zero, List.take_of_length_le (by omega)]
  rw [e, hashT_congr (ev1_spec m)]
  unfold hash1
  obtain ⟨a, b, c, d, e, f, g, h, hev⟩ := ev_form kList (scL m) 1779033703 3144134277 1013904242 2773480762 1359893119 2600822924 528734635 1541459225
  unfold ev1
  rw [hev]
  rfl
end Go.Proofs.YtficmbaffkkfhabDoor
