/- The law RunsGiven (layer 7). -/
import Derived.Test.YtbnfhhjgalphgaaZp
import Derived.OwnWalk
namespace Go.Proofs.Ytbnfhhjgalphgaa
open Go.RowKit

theorem st_given {st : List Int} {m : Nat} {z : Int} (h : st[m]? = some z) : blankB st m = decide (z = 0) := by unfold blankB; rw [h]; simp
theorem made_zero (n : Nat) : (madeCells (Value.cells (.int .i64 0)) (n * 1)).toList = niv (List.replicate n 0) := by
  rw [Nat.mul_one]
  apply List.ext_getElem?
  intro i
  simp only [madeCells, niv, Array.toList_map, List.getElem?_map, Value.cells]
  rw [List.getElem?_replicate]
  by_cases h : i < n
  · rw [if_pos h]
    have e : (Array.range n).toList[i]? = some i := by simp [h]
    rw [e]
    simp [Nat.mod_one]
  · rw [if_neg h]
    have e : (Array.range n).toList[i]? = none := by simp; omega
    rw [e]
    rfl
theorem none_blank {st : List Int} : ∀ {n : Nat}, (∀ j, j < n → blankB st j = false) → freeN st n = []
  | 0, _ => rfl
  | n + 1, h => by rw [freeN, h n (by omega)]; exact none_blank fun j hj => h j (by omega)
set_option maxRecDepth 100000 in
set_option linter.unusedSimpArgs false in
set_option maxHeartbeats 4000000 in
theorem given_walk {W : World} {v : Value} {l : List Int} (h : U8At W v l) : Calls Try.prog 6 #[v] W fun e w' => e = .returned (.bool true) ∧ Below W.heap.size W w' := by
  obtain ⟨_, a, q, rfl, _⟩ := id h
  by_cases h2 : 200 < l.length
  · have h3 : (l.length : Int) > 200 := by omega
    clear h
    go_enter Try.func6, Try.ntmps6
    go_wp2
    go_ret
    exact ⟨rfl, Below.refl _ _⟩
  have h3 : ¬ (l.length : Int) > 200 := by omega
  have hb8 := h.1
  have HU : Hid (∀ i x, l[i]? = some x → (0 ≤ x ∧ x < 256) ∧ ∃ b o, a = some ⟨b, o, none⟩ ∧ ∀ w', Below W.heap.size W w' → w'.cell? ⟨b, o + i, none⟩ = some (.int .u8 x)) := fun i x hi => by
    obtain ⟨b, o, e, h1⟩ := (by obtain ⟨_, a', c', e, hh⟩ := h; obtain ⟨rfl, -, -⟩ := Value.slice.inj e; exact hh i x hi : ∃ b o, a = some ⟨b, o, none⟩ ∧ W.cell? ⟨b, o + i, none⟩ = some (.int .u8 x))
    exact ⟨hb8 x (List.mem_of_getElem? hi), b, o, e, fun w' hb => cell_stays h1 hb⟩
  obtain ⟨ia, i1, i2, i3, i4⟩ := info_num
  clear h hb8
  go_enter Try.func6, Try.ntmps6
  go_wp2_with (refine wpList_make_full _ rfl _ _ 35 rfl W.heap.size 3 ia (.int .i64 0) 1 Try.underlying35 i1 i2 i3 .i64 .i64 256 256 256 rfl rfl rfl rfl (by rw [i4]; omega) (by simp only [maxLen]; omega) (Nat.le_refl _) ?_; intro w1 r1 r2; have hN : Nw W (.slice (some ⟨W.heap.size, 0, none⟩) 256 256) (List.replicate 256 0) w1 := ⟨⟨(Below.refl _ _).grown r2 (Nat.le_refl _) (fun j hj => by cases hj), Nat.le_refl _, by rw [List.length_replicate, ← made_zero]; exact r1⟩⟩; have HN : Hid _ := hN; clear r1 r2 hN i1 i2 i3 i4)
  obtain ⟨g, hgd⟩ : ∃ g, W.heap.size = g := ⟨_, rfl⟩
  have HG : Hid (W.heap.size = g) := hgd
  rw [hgd] at HN
  rw [hgd]
  clear hgd
  have hl256 : (List.replicate 256 (0 : Int)).length = 256 := List.length_replicate
  have h01 : ∀ (j : Nat) (x : Int), (List.replicate 256 (0 : Int))[j]? = some x → x = 0 ∨ x = 1 := fun j x hx => by
    rw [List.getElem?_replicate] at hx
    split at hx
    · exact .inl (Option.some.inj hx).symm
    · cases hx
  generalize List.replicate 256 (0 : Int) = S0 at *
  have HL0 : Hid (S0.length = 256) := hl256
  have H010 : Hid (∀ (j : Nat) (x : Int), S0[j]? = some x → x = 0 ∨ x = 1) := h01
  clear hl256 h01
  go_loopw [5] (fun iv wr => ∃ (m : Nat) (S : List Int), m ≤ 256 ∧ iv = .int .i64 m ∧ S.length = 256 ∧ (∀ (j : Nat) (x : Int), S[j]? = some x → x = 0 ∨ x = 1) ∧ (∀ j, j < m → S[j]? = some 1) ∧ Nw W (.slice (some ⟨g, 0, none⟩) 256 256) S wr) (fun iv _ => 256 - (intOf iv).toNat)
  case atStart => exact ⟨0, S0, Nat.zero_le _, rfl, HL0.out, H010.out, fun j hj => (by omega), HN.out⟩
  case round =>
    obtain ⟨m, S, hm, rfl, hSl, hS01, hS1, hN⟩ := hrel
    clear HN HL0 H010
    by_cases hlt : m < 256
    · obtain ⟨x, hx⟩ : ∃ x, S[m]? = some x := ⟨_, List.getElem?_eq_getElem (by omega)⟩
      obtain ⟨g2, e2, -, c1, f1, hset⟩ := hN.at_ hx
      obtain rfl : g = g2 := by simpa using e2
      have HN : Hid (Nw W (.slice (some ⟨g, 0, none⟩) 256 256) (S.set m 1) (wr.setCell ⟨g, m, none⟩ (.int .i64 1))) := hset 1
      have HSl : Hid ((S.set m 1).length = 256) := by show _ = _; rw [List.length_set]; exact hSl
      have H01 : Hid (∀ (j : Nat) (x : Int), (S.set m 1)[j]? = some x → x = 0 ∨ x = 1) := fun j y hy => by
        rw [List.getElem?_set] at hy
        split at hy
        · split at hy
          · exact .inr (Option.some.inj hy).symm
          · cases hy
        · exact hS01 j y hy
      have H1 : Hid (∀ j, j < m + 1 → (S.set m 1)[j]? = some 1) := fun j hj => by
        rw [List.getElem?_set]
        by_cases e : m = j
        · rw [if_pos e, if_pos (by omega)]
        · rw [if_neg e]; exact hS1 j (by omega)
      have hlt2 : (m : Int) < 256 := by omega
      clear hN hSl hS01 hS1 hx e2 hset
      go_wp2
      go_roundw
      case rel => exact ⟨m + 1, S.set m 1, by omega, by go_num, HSl.out, H01.out, H1.out, HN.out⟩
      case measure => simp [intOf]; omega
    obtain rfl : m = 256 := by omega
    have hfr : freeL S = [] := by
      unfold freeL
      rw [hSl]
      exact none_blank fun j hj => by rw [st_given (hS1 j hj)]; rfl
    have HN : Hid _ := hN
    have HSl : Hid (S.length = 256) := hSl
    have H01 : Hid (∀ (j : Nat) (x : Int), S[j]? = some x → x = 0 ∨ x = 1) := hS01
    have HFr : Hid (freeL S = []) := hfr
    have hgw : g < wr.heap.size := by
      obtain ⟨g2, e2, hg2, -, -, -⟩ := hN.at_ (hS1 0 (by omega))
      obtain rfl : g = g2 := by simpa using e2
      exact hg2
    clear hN hSl hS01 hS1 hfr hlt
    generalize hwz : wr = wz at *
    clear hwz
    go_wp2
    go_loopw [3, 6] (fun hv iv wr => ∃ (m : Nat) (S : List Int), m ≤ l.length ∧ iv = .int .i64 m ∧ S.length = 256 ∧ (∀ (j : Nat) (x : Int), S[j]? = some x → x = 0 ∨ x = 1) ∧ Nw W (.slice (some ⟨g, 0, none⟩) 256 256) S wr ∧ Below wz.heap.size wz wz ∧ ∃ xa xc, hv = .slice xa (freeL S).length xc ∧ RB wz.heap.size wr (.slice xa (freeL S).length xc) (freeL S) ∧ wz.heap.size ≤ wr.heap.size) (fun _ iv _ => l.length - (intOf iv).toNat)
    case atStart => exact ⟨0, S, Nat.zero_le _, rfl, HSl.out, H01.out, HN.out, Below.refl _ _, none, 0, by rw [HFr.out]; rfl, by rw [HFr.out]; exact ⟨rl_nil _, fun i hi => by cases hi⟩, Nat.le_refl _⟩
    case round =>
      clear HN HSl H01 HFr
      obtain ⟨m, S, hm, rfl, hSl, hS01, hN, -, xa, xc, rfl, hH, hsz⟩ := hrel
      have HW : Hid (BW W wr) := hN.bw
      have HN : Hid (Nw W (.slice (some ⟨g, 0, none⟩) 256 256) S wr) := hN
      have HH : Hid (RB wz.heap.size wr (.slice xa (freeL S).length xc) (freeL S)) := hH
      have hfl : (freeL S).length ≤ 256 := by rw [← hSl]; exact free_len S
      have h80 : S.length ≤ 80000 := by omega
      have HSl : Hid (S.length = 256) := hSl
      have H01 : Hid (∀ (j : Nat) (x : Int), S[j]? = some x → x = 0 ∨ x = 1) := hS01
      clear hN hH
      by_cases hlt : m < l.length
      rotate_left
      · obtain rfl : m = l.length := by omega
        have hlt2 : ¬ ((l.length : Nat) : Int) < (l.length : Int) := by omega
        go_wp2_with fail
        refine (HN.out.free h80).mono ?_
        rintro e w2 ⟨fa, fc, rfl, hF, b⟩
        have HF : Hid _ := hF.rl
        clear hF
        have HW : Hid _ := HW.out.below b
        have HN : Hid _ := HN.out.below b
        have HH : Hid _ := HH.out.below b
        clear b
        go_wp2_with fail
        refine (same_rl HH.out.rl HF.out).mono ?_
        rintro e w3 ⟨rfl, b⟩
        rw [sameB_iff.2 rfl]
        have HW : Hid _ := HW.out.below b
        have HN : Hid _ := HN.out.below b
        have HH : Hid _ := HH.out.below b
        have HF : Hid _ := HF.out.below b
        clear b
        go_wp2_with fail
        refine (check_rl HH.out.rl).mono ?_
        rintro e w4 ⟨rfl, b⟩
        have HW : Hid _ := HW.out.below b
        have HN : Hid _ := HN.out.below b
        have HH : Hid _ := HH.out.below b
        have HF : Hid _ := HF.out.below b
        clear b
        go_wp2_with fail
        refine (does_any w4).mono ?_
        rintro e w5 ⟨rfl, b⟩
        have HW : Hid _ := HW.out.below b
        have HN : Hid _ := HN.out.below b
        have HH : Hid _ := HH.out.below b
        have HF : Hid _ := HF.out.below b
        clear b
        go_wp2
        go_ret
        exact ⟨rfl, HW.out.h⟩
      obtain ⟨x, hx⟩ : ∃ x, l[m]? = some x := ⟨_, List.getElem?_eq_getElem hlt⟩
      obtain ⟨⟨x0, x1⟩, b, o, rfl, hk⟩ := HU.out m x hx
      obtain ⟨k, rfl⟩ : ∃ k : Nat, x = (k : Int) := ⟨x.toNat, by omega⟩
      have hk256 : k < 256 := by omega
      have c0 := hk wr HW.out.h
      have hlt2 : (m : Int) < (l.length : Int) := by omega
      have hki : (k : Int) < 256 := by omega
      obtain ⟨z, hz⟩ : ∃ z, S[k]? = some z := ⟨_, List.getElem?_eq_getElem (by omega)⟩
      have HZ : Hid (S[k]? = some z) := hz
      have hz01 := hS01 k z hz
      have hbl := st_given hz
      have HTn : Hid (z = 0 → giveT (freeL S) ⟨k, 1⟩ = none) := fun e => turn_no S (by omega) k (by omega) (by rw [hbl, e]; rfl)
      have HTs : Hid (¬ z = 0 → giveT (freeL S) ⟨k, 1⟩ = some (freeL (S.set k 0))) := fun e => turn_runs S (by omega) k (by omega) (by rw [hbl]; simpa using e)
      clear hx hk hz hbl hSl hS01
      rcases hz01 with rfl | rfl
      · skip
        have hG := HTn.out rfl
        clear HTn HTs
        go_wp2_with fail
        refine (give_no ⟨k, 1⟩ HH.out.rl (by omega) (by simp only; omega) (by simp only; omega) hG).mono ?_
        rintro e w2 ⟨rfl, b⟩
        have hs2 := b.size
        have HW : Hid _ := HW.out.below b
        have HN : Hid _ := HN.out.below b
        have HH : Hid _ := HH.out.below b
        clear b
        obtain ⟨g2, e2, -, c1, -, -⟩ := HN.out.at_ HZ.out
        obtain rfl : g = g2 := by simpa using e2
        clear e2 hG
        go_wp2
        go_roundw
        case rel =>
          repeat apply Exists.intro
          refine ⟨?_, rfl⟩
          exact ⟨m + 1, S, by omega, by go_num, HSl.out, H01.out, HN.out, Below.refl _ _, xa, xc, rfl, HH.out, by omega⟩
        case measure => simp [intOf]; omega
      · skip
        have hG := HTs.out (by omega)
        have HSl2 : Hid ((S.set k 0).length = 256) := by show _ = _; rw [List.length_set]; exact HSl.out
        have H012 : Hid (∀ (j : Nat) (x : Int), (S.set k 0)[j]? = some x → x = 0 ∨ x = 1) := fun j y hy => by
          rw [List.getElem?_set] at hy
          split at hy
          · split at hy
            · exact .inl (Option.some.inj hy).symm
            · cases hy
          · exact H01.out j y hy
        clear HTn HTs
        go_wp2_with fail
        refine (give_yb ⟨k, 1⟩ HH.out.rl (by omega) (by simp only; omega) (by simp only; omega) hG).mono ?_
        rintro e w2 ⟨ya, yc, rfl, hX, b⟩
        have hs2 := b.size
        have HX : Hid _ := hX.mono hsz
        clear hX
        have HW : Hid _ := HW.out.below b
        have HN : Hid _ := HN.out.below b
        have HH : Hid _ := HH.out.below b
        clear b
        obtain ⟨g2, e2, -, c1, f1, hset⟩ := HN.out.at_ HZ.out
        obtain rfl : g = g2 := by simpa using e2
        have HN2 : Hid (Nw W (.slice (some ⟨g, 0, none⟩) 256 256) (S.set k 0) (w2.setCell ⟨g, k, none⟩ (.int .i64 0))) := hset 0
        have HX2 : Hid (RB wz.heap.size (w2.setCell ⟨g, k, none⟩ (.int .i64 0)) (.slice ya (freeL (S.set k 0)).length yc) (freeL (S.set k 0))) := HX.out.set hgw k _
        have hs3 : wz.heap.size ≤ (w2.setCell ⟨g, k, none⟩ (.int .i64 0)).heap.size := by rw [heap_set_size]; omega
        clear e2 hG hset
        generalize hS2 : S.set k 0 = S2 at *
        clear hS2
        go_wp2
        go_roundw
        case rel =>
          repeat apply Exists.intro
          refine ⟨?_, rfl⟩
          exact ⟨m + 1, S2, by omega, by go_num, HSl2.out, H012.out, HN2.out, Below.refl _ _, ya, yc, rfl, HX2.out, hs3⟩
        case measure => simp [intOf]; omega
end Go.Proofs.Ytbnfhhjgalphgaa
