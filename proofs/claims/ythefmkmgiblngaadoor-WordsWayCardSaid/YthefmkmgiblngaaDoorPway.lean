/- The walk of the law WordsWay: what was read was written: just its bytes stand there. -/
import Derived.Test.YthefmkmgiblngaaDoorWe
import Derived.Test.YthefmkmgiblngaaDoorMw
import Derived.Deep.RegionHeld
import Derived.Deep.QuietTactic
import Derived.BigQuiet
import Derived.Deep.DeepCutAuto
namespace Go.Proofs.YthefmkmgiblngaaDoor
open Go.RowKit

theorem bytesOf_numL : ∀ (k : Nat) (l : List UInt8), l.length = k → bytesOf (numL l) k = l := by
  intro k
  induction k with
  | zero => intro l h; simp at h; subst h; rfl
  | succ k ih =>
    intro l h
    obtain ⟨m, b, rfl⟩ : ∃ m b, l = m ++ [b] := ⟨l.dropLast, l.getLast (by intro e; simp [e] at h), (List.dropLast_concat_getLast _).symm⟩
    have hm : m.length = k := by simpa using h
    have h0 := numL_nonneg m
    have hb := u8_lt b
    rw [numL_snoc, bytesOf, show (numL m * 256 + (b.toNat : Int)) / 256 = numL m by omega, ih m hm]
    congr 1
    unfold by8
    rw [show (numL m * 256 + (b.toNat : Int)) % 256 = (b.toNat : Int) by omega]
    simp
theorem getB_facts {s : ByteArray} {a size : Int} (h : getB s a size = true) : ∃ a' size' : Nat, a = a' ∧ size = size' ∧ isSz size = true ∧ a' + size' ≤ s.size ∧ (size' = 8 → ∀ h : a' < s.size, ((s[a']'h).toNat : Int) < 128) := by
  unfold getB at h
  simp only [Bool.and_eq_true, Bool.not_eq_true', Bool.and_eq_false_iff] at h
  obtain ⟨⟨h1, h2⟩, h3⟩ := h
  obtain ⟨h4, h5⟩ := stB_iff.1 h2
  have hsz := isSz_of h1
  obtain ⟨a', rfl⟩ := Int.eq_ofNat_of_zero_le h4
  obtain ⟨size', rfl⟩ := Int.eq_ofNat_of_zero_le (show 0 ≤ size by omega)
  refine ⟨a', size', rfl, rfl, h1, by omega, fun h8 hlt => ?_⟩
  subst h8
  rcases h3 with h3 | h3
  · simp at h3
  · rw [Int.toNat_natCast, hiB_eq s a' hlt] at h3
    have := of_decide_eq_false h3
    omega
/-- What stays while a region with a call is gone through. -/
theorem held_drew {n : Nat} {w w' : World} {cs : List Value} (h : w'.rangeAt n 0 cs ∧ (Tab w' ∧ Below n w w' ∧ n < w'.heap.size)) : w'.drew.rangeAt n 0 cs ∧ (Tab w'.drew ∧ Below n w w'.drew ∧ n < w'.drew.heap.size) :=
  ⟨fun j v hj => h.1 j v hj, h.2.1, h.2.2.1.drew, h.2.2.2⟩
theorem held_alloc {w : World} {C : Array Value} {t : TypeId} (hT : Tab w) : (w.alloc (.cells C t)).rangeAt w.heap.size 0 C.toList ∧ (Tab (w.alloc (.cells C t)) ∧ Below w.heap.size w (w.alloc (.cells C t)) ∧ w.heap.size < (w.alloc (.cells C t)).heap.size) := by
  refine ⟨?_, ?_, ?_, by simp⟩
  · intro j v hj
    rw [Nat.zero_add, World.cell?_alloc_at _ _ _ _ rfl]
    simpa using hj
  · exact hT.below ((Below.refl _ _).alloc (Nat.le_refl _) _)
  · exact (Below.refl _ _).alloc (Nat.le_refl _) _
theorem held_next {n : Nat} {w w' w'' : World} {cs : List Value} (h : w'.rangeAt n 0 cs ∧ (Tab w' ∧ Below n w w' ∧ n < w'.heap.size)) (hb : Below w'.heap.size w' w'') : w''.rangeAt n 0 cs ∧ (Tab w'' ∧ Below n w w'' ∧ n < w''.heap.size) := by
  obtain ⟨h1, h2, h3, h4⟩ := h
  refine ⟨fun j v hj => ?_, h2.below hb, h3.trans (hb.mono (by omega)), by have := hb.size; omega⟩
  rw [hb.cell (p := ⟨n, 0 + j, none⟩) h4]
  exact h1 j v hj
theorem held_end {n : Nat} {w w' : World} {cs : List Value} (h : w'.rangeAt n 0 cs ∧ (Tab w' ∧ Below n w w' ∧ n < w'.heap.size)) : Tab w' ∧ Below n w w' := ⟨h.2.1, h.2.2.1⟩
/-- What Get reads is what Put writes. -/
theorem put_of_get (s : ByteArray) (a size : Nat) (hz : isSz size = true) (h : a + size ≤ s.size) (h8 : size = 8 → ∀ h : a < s.size, ((s[a]'h).toNat : Int) < 128) : putL (numL (win s a size)) size = win s a size := by
  have hsz := isSz_of hz
  have hl := win_length s a size h
  have h0 := numL_nonneg (win s a size)
  have hlt := numL_win_lt s a size h
  have hf : fitB (numL (win s a size)) size = true := by
    have : size = 1 ∨ size = 2 ∨ size = 4 ∨ size = 8 := by omega
    rcases this with rfl | rfl | rfl | rfl
    · simp only [Int.reducePow] at hlt; simp [fitB, lim]; omega
    · simp only [Int.reducePow] at hlt; simp [fitB, lim]; omega
    · simp only [Int.reducePow] at hlt; simp [fitB, lim]; omega
    · have : numL (win s a 8) < 128 * 256 ^ 7 := numL_win_low s a 7 h (h8 rfl (by omega))
      simp only [Int.reducePow, Int.reduceMul] at this; simp [fitB, lim]; omega
  unfold putL
  rw [hz, hf]
  show bytesOf _ size = _
  exact bytesOf_numL size _ hl

/-- What Get reads, for the law. -/
theorem way_num (s : ByteArray) (a size : Int) (ha : -9223372036854775808 ≤ a ∧ a ≤ 9223372036854775807) (_hs : s.size ≤ 2000) : ∃ (n m : Int) (b : Bool), getV s a size = .tuple #[.int .i64 n, .int .i64 m, .bool b] ∧
    (b = true → ∃ (a' size' : Nat) (p : ByteArray), a = a' ∧ size = size' ∧ 0 ≤ n ∧ m = (a' : Int) + size' ∧ a' + size' ≤ s.size ∧ size' ≤ 8 ∧ s.extract a' (a' + size') = p ∧ ∀ W, Tab W → Calls Tryd.prog 11 #[.int .i64 n, .int .i64 size'] W fun e w' => e = .returned (.string p) ∧ Below W.heap.size W w') := by
  cases hg : getB s a size with
  | false => exact ⟨_, _, _, getV_no hg, fun h => by cases h⟩
  | true =>
    refine ⟨_, _, _, getV_yes hg, fun _ => ?_⟩
    obtain ⟨a', size', rfl, rfl, hz, hle, h8⟩ := getB_facts hg
    have hsz := isSz_of hz
    refine ⟨a', size', S (win s a' size'), rfl, rfl, numL_nonneg _, rfl, hle, by omega, extract_win s a' size', fun W hW => ?_⟩
    have hn : numL (win s a' size') ≤ 9223372036854775807 := by
      have hlt := numL_win_lt s a' size' hle
      have : size' = 1 ∨ size' = 2 ∨ size' = 4 ∨ size' = 8 := by omega
      rcases this with rfl | rfl | rfl | rfl
      · simp only [Int.reducePow] at hlt; omega
      · simp only [Int.reducePow] at hlt; omega
      · simp only [Int.reducePow] at hlt; omega
      · have : numL (win s a' 8) < 128 * 256 ^ 7 := numL_win_low s a' 7 hle (h8 rfl (by omega))
        simp only [Int.reducePow, Int.reduceMul] at this; omega
    have := put_any (numL (win s a' size')) size' W hW hn
    rw [put_of_get s a' size' hz hle h8] at this
    exact this
theorem way_txt (s : ByteArray) (a : Int) (hs : s.size ≤ 2000) : ∃ (t : ByteArray) (m : Int) (b : Bool), txtV s a = .tuple #[.string t, .int .i64 m, .bool b] ∧ t.size ≤ 2000 ∧
    (b = true → ∃ a' : Nat, a = a' ∧ m = (a' : Int) + 2 + t.size ∧ a' + 2 + t.size ≤ s.size ∧ s.extract a' (a' + 2 + t.size) = S (putT t.data.toList)) := by
  cases hg : txtB s a with
  | false => exact ⟨_, _, _, txtV_no hg, by rw [S_size]; simp, fun h => by cases h⟩
  | true =>
    obtain ⟨h0, h1, h2⟩ := txtB_iff.1 hg
    obtain ⟨a', rfl⟩ := Int.eq_ofNat_of_zero_le h0
    rw [Int.toNat_natCast] at h2
    have hl : (win s (a' + 2) (tlen s a')).length = tlen s a' := win_length s _ _ (by omega)
    have hsz : (S (win s (a' + 2) (tlen s a'))).size = tlen s a' := by rw [S_size, hl]
    refine ⟨_, _, _, txtV_yes hg, ?_, fun _ => ⟨a', rfl, ?_, ?_, ?_⟩⟩
    · rw [Int.toNat_natCast, hsz]; omega
    · rw [Int.toNat_natCast, hsz]
    · rw [Int.toNat_natCast, hsz]; omega
    · rw [Int.toNat_natCast, hsz, S_toList, show a' + 2 + tlen s a' = a' + (2 + tlen s a') by omega, extract_win]
      congr 1
      unfold putT
      rw [hl]
      have e1 : win s a' (2 + tlen s a') = win s a' 2 ++ win s (a' + 2) (tlen s a') := by
        unfold win
        rw [← List.drop_drop, List.take_add]
      rw [e1, show ((tlen s a' : Nat) : Int) = numL (win s a' 2) from (tlen_eq s a').symm, bytesOf_numL 2 _ (win_length s a' 2 (by omega))]
theorem way_hash (s : ByteArray) (a : Int) : ∃ (l : List UInt8) (m : Int) (b : Bool), ghV s a = .tuple #[.agg (hv l), .int .i64 m, .bool b] ∧ l.length = 32 ∧
    (b = true → ∃ a' : Nat, a = a' ∧ m = (a' : Int) + 32 ∧ a' + 32 ≤ s.size ∧ s.extract a' (a' + 32) = S l) := by
  cases hg : stB s a 32 with
  | false => exact ⟨_, _, _, ghV_no hg, padTo_length (by decide), fun h => by cases h⟩
  | true =>
    obtain ⟨h0, h1⟩ := stB_iff.1 hg
    obtain ⟨a', rfl⟩ := Int.eq_ofNat_of_zero_le h0
    exact ⟨_, _, _, ghV_yes hg, win_length s _ _ (by omega), fun _ => ⟨a', rfl, rfl, by omega, extract_win s a' 32⟩⟩

set_option maxRecDepth 100000 in
set_option maxHeartbeats 8000000 in
theorem way_walk (s : ByteArray) (a size : Int) (w : World) (hT : Tab w) (hs : ¬ (2000 : Int) < s.size) (ha : -9223372036854775808 ≤ a ∧ a ≤ 9223372036854775807) :
    Calls Tryd.prog 6 #[.string s, .int .i64 a, .int .i64 size] w fun e w' => e = .returned (.bool true) ∧ Below w.heap.size w w' := by
  obtain ⟨n, m, b, hv1, hf1⟩ := way_num s a size ha (by omega)
  obtain ⟨t, m2, b2, hv2, ht, hf2⟩ := way_txt s a (by omega)
  obtain ⟨l, m3, b3, hv3, hl, hf3⟩ := way_hash s a
  have HF1 : Hid _ := hf1
  have HF2 : Hid _ := hf2
  have HF3 : Hid _ := hf3
  clear hf1 hf2 hf3
  have hs2 : s.size ≤ 140737488351232 := by omega
  go_enter Tryd.func6, Tryd.ntmps6
  go_wp2_with fail
  refine (get_any s a size _ hT hs2 ha).mono ?_
  rintro e w0 ⟨rfl, rfl⟩
  go_wp2_with fail
  go_cut [56] (fun v wc => v = .bool false ∧ Tab wc ∧ Below w0.heap.size w0 wc)
  case first =>
    cases b with
    | false =>
      clear HF1 HF2 HF3
      go_quiet (fail)
      go_wp2_with fail
      go_meet
      exact ⟨rfl, hT, Go.below_drewN (Below.refl _ _) _⟩
    | true =>
      obtain ⟨a', size', p, rfl, rfl, h0, rfl, hle, h8, hx, hp⟩ := HF1.out rfl
      have HP : Hid _ := hp
      clear HF1 HF2 HF3 hp hv2 hv3
      have d1 : decide (n < 0) = false := decide_eq_false (by omega)
      have hwr : IntKind.i64.wrap ((a' : Int) + (size' : Int)) = (a' : Int) + (size' : Int) := by rw [IntKind.wrap_i64]; omega
      have d3 : decide ((s.size : Int) < (a' : Int) + (size' : Int)) = false := decide_eq_false (by omega)
      go_region_held (fun w' => Tab w' ∧ Below w0.heap.size w0 w') (first | exact ⟨hT, (Below.refl _ _).drew⟩ | exact ⟨Tab.below (w := w0.drew) hT (by assumption), Below.trans (Below.drew (Below.refl _ _)) (by assumption)⟩) (first | (go_at_call 11; refine (HP.out _ ?_).mono ?_; exact hT; rintro e w' ⟨rfl, hb⟩))
      all_goals
        go_wp2_with fail
        go_meet
        exact ⟨rfl, by assumption⟩
  case rest =>
    obtain ⟨rfl, Tc, Bc⟩ := hcut
    clear HF1 hv1
    have hsc := Bc.size
    go_wp2_with fail
    refine (getText_any s a _ Tc hs2 ha).mono ?_
    rintro e w1 ⟨rfl, b1⟩
    have T1 := Tc.below b1
    have B1 := Bc.trans (b1.mono hsc)
    have hs1 := B1.size
    clear b1 Tc Bc hsc
    go_wp2_with fail
    refine (putText_yes t _ T1 (by omega)).mono ?_
    rintro e w2 ⟨rfl, b2⟩
    have T2 := T1.below b2
    have B2 := B1.trans (b2.mono hs1)
    have hs2' := B2.size
    clear b2 T1 B1 hs1
    go_upto_region 8 with fail
    obtain ⟨W2, hW2⟩ : ∃ W, W = w2 := ⟨_, rfl⟩
    subst hW2
    go_cut [95] (fun v wc => v = .bool false ∧ wc = W2)
    case first =>
      have hus : (S (putT t.data.toList)).size = t.size + 2 := by
        have : t.data.toList.length = t.size := rfl
        rw [S_size]; simp only [List.length_append, putT, bytesOf_length]; omega
      cases b2 with
      | false =>
        clear HF2 HF3
        go_wp2_with fail
        go_meet
        exact ⟨rfl, rfl⟩
      | true =>
        obtain ⟨a', rfl, rfl, hle, hx⟩ := HF2.out rfl
        clear HF2 HF3 hv2 hv3
        generalize S (putT t.data.toList) = u at *
        have d1 : (((a' : Int) + 2 + (t.size : Int)) != (a' : Int) + (u.size : Int)) = false := by simp; omega
        have d2 : decide ((s.size : Int) < (a' : Int) + 2 + (t.size : Int)) = false := decide_eq_false (by omega)
        have HU : Hid (u.size = t.size + 2) := hus
        have hub : u.size ≤ 2002 := by omega
        clear hus
        go_wp2_with fail
        go_meet
        exact ⟨rfl, rfl⟩
    case rest =>
      obtain ⟨rfl, rfl⟩ := hcut
      clear HF2 hv2
      go_wp2_with fail
      refine (getHash_any s a _ hs2 ha).mono ?_
      rintro e w3 ⟨rfl, b4⟩
      have T3 := T2.below b4
      have B3 := B2.trans (b4.mono hs2')
      have hs3 := B3.size
      clear b4 T2 B2 hs2'
      have hsz : (hv l).size = 32 := by rw [hv_size, hl]
      have hone : (hv l).all (·.oneCell') = true := hv_one l
      have z2 : (hv (padTo 32 [])).size = 32 := by rw [hv_size, padTo_length (by decide)]
      rw [zero_h32] at z2
      have Z2 : Hid _ := z2
      clear z2
      have hu := Tryd.underlying32
      have hin : (Tryd.prog.info? 32).map (·.size) = some (hv l).toList.length := by rw [Array.length_toList, hsz]; exact info_h32
      have HPH : Hid (∀ W, Calls Tryd.prog 20 #[.agg (hv l)] W fun e w' => e = .returned (.string (S l)) ∧ Below W.heap.size W w') := fun W => putHash_any l W hl
      have HU : Hid (Tryd.prog.underlying 32 = some (.array 32 5)) := hu
      have HI : Hid _ := hin
      clear hu hin
      generalize hv l = C at *
      generalize S l = q at *
      go_wp2_with (refine store_last rfl 32 _ _ rfl 32 _ _ C rfl rfl info_h32 Z2.out hsz hone ?_)
      have hS : (w3.alloc (.cells C 32)).rangeAt w3.heap.size 0 C.toList ∧ (Tab (w3.alloc (.cells C 32)) ∧ Below w3.heap.size w3 (w3.alloc (.cells C 32)) ∧ w3.heap.size < (w3.alloc (.cells C 32)).heap.size) := held_alloc T3
      have HS : Hid _ := hS
      clear hS
      go_cut [124] (fun v wc => v = .bool false ∧ Tab wc ∧ Below w3.heap.size w3 wc)
      case first =>
        cases b3 with
        | false =>
          clear HF3
          go_quiet (fail)
          go_wp2_with fail
          go_meet
          exact ⟨rfl, HS.out.2.1, Go.below_drewN HS.out.2.2.1 _⟩
        | true =>
          obtain ⟨a', rfl, rfl, hle, hx⟩ := HF3.out rfl
          clear HF3 hv3
          have hu := HU.out
          have hin := HI.out
          have hwr : IntKind.i64.wrap ((a' : Int) + 32) = (a' : Int) + 32 := by rw [IntKind.wrap_i64]; omega
          have d3 : decide ((s.size : Int) < (a' : Int) + 32) = false := decide_eq_false (by omega)
          go_region_held (fun w' => w'.rangeAt w3.heap.size 0 C.toList ∧ (Tab w' ∧ Below w3.heap.size w3 w' ∧ w3.heap.size < w'.heap.size)) (first | exact held_drew HS.out | assumption | exact held_next (by assumption) (by assumption)) (first | (go_at_call 20; refine (HPH.out _).mono ?_; rintro e w' ⟨rfl, hb⟩))
          all_goals
            go_wp2_with fail
            go_meet
            exact ⟨rfl, held_end (n := w3.heap.size) (w := w3) (cs := C.toList) (by assumption)⟩
      case rest =>
        obtain ⟨rfl, Td, Bd⟩ := hcut
        clear HF3 hv3
        go_wp2_with fail
        refine (does_any _ Td).mono ?_
        rintro e w5 ⟨rfl, b5⟩
        have hsd := Bd.size
        go_wp2
        go_ret
        exact ⟨rfl, (B3.trans (Bd.mono hs3)).trans (b5.mono (by omega))⟩
set_option maxRecDepth 100000 in
theorem way_long (s : ByteArray) (a size : Int) (w : World) (hs : (2000 : Int) < s.size) :
    Calls Tryd.prog 6 #[.string s, .int .i64 a, .int .i64 size] w fun e w' => e = .returned (.bool true) ∧ Below w.heap.size w w' := by
  go_enter Tryd.func6, Tryd.ntmps6
  go_wp2
  go_ret
  exact ⟨rfl, Below.refl _ _⟩
theorem waylaw_walk (s : ByteArray) (a size : Int) (w : World) (hT : Tab w) (ha : -9223372036854775808 ≤ a ∧ a ≤ 9223372036854775807) :
    Calls Tryd.prog 6 #[.string s, .int .i64 a, .int .i64 size] w fun e w' => e = .returned (.bool true) ∧ Below w.heap.size w w' := by
  by_cases hs : (2000 : Int) < s.size
  · exact way_long s a size w hs
  · exact way_walk s a size w hT hs ha
end Go.Proofs.YthefmkmgiblngaaDoor
