/- The document's own Free (layer 7). -/
import Derived.Test.YtbnfhhjgalphgaaYc
import Derived.Test.YtbnfhhjgalphgaaY1
namespace Go.Proofs.Ytbnfhhjgalphgaa
open Go.RowKit

set_option maxRecDepth 100000 in
set_option maxHeartbeats 2000000 in
theorem rfree_any {w : World} {v : Value} {st : List Int} (h : NumsAt w v st) (hl : st.length ≤ 100000) :
    Calls Try.prog 22 #[v] w fun e w' => ∃ a c, e = .returned (.slice a (freeL st).length c) ∧ Mr w w.heap.size [] (.slice a (freeL st).length c) (freeL st) w' := by
  obtain ⟨a, q, rfl, -⟩ := id h
  have HL : Hid _ := h.cells.2
  have HM0 : Hid (Mr w w.heap.size [] (.slice none 0 0) [] w) := Mr.start (Below.refl _ _) (fun v l h => (by cases h))
  clear h
  go_enter Try.func22, Try.ntmps22
  go_wp2
  go_loopw [3, 4] (fun v iv wr => ∃ m : Nat, m ≤ st.length ∧ iv = .int .i64 m ∧ ∃ xa xc, v = .slice xa (freeN st m).length xc ∧ Mr w w.heap.size [] (.slice xa (freeN st m).length xc) (freeN st m) wr) (fun _ iv _ => st.length - (intOf iv).toNat)
  case atStart => exact ⟨0, Nat.zero_le _, rfl, none, 0, rfl, HM0.out⟩
  case round =>
    obtain ⟨m, hm, rfl, xa, xc, rfl, hM⟩ := hrel
    by_cases hlt : m < st.length
    rotate_left
    · obtain rfl : m = st.length := by omega
      have HM : Hid _ := hM
      have hlt2 : ¬ ((st.length : Nat) : Int) < (st.length : Int) := by omega
      clear hM
      go_wp2
      go_ret
      exact ⟨xa, xc, rfl, HM.out⟩
    obtain ⟨x, hx⟩ : ∃ x, st[m]? = some x := ⟨_, List.getElem?_eq_getElem hlt⟩
    obtain ⟨b, o, rfl, k1⟩ := HL.out m x hx
    have c1 := k1 wr hM.below
    have hlt2 : (m : Int) < (st.length : Int) := by omega
    have hok := freeN_ok st (by omega) m (by omega)
    have hlen := freeN_len st m
    by_cases hx0 : x = 0
    rotate_left
    · have hx1 : (x != 0) = true := by simpa using hx0
      have HN : Hid (freeN st (m + 1) = freeN st m) := by
        show _ = _
        rw [freeN, if_neg]
        simp [blankB, hx, hx0]
      have HM : Hid _ := hM
      clear hM hx hx0 k1 hok hlen
      go_wp2
      go_roundw
      case rel => exact ⟨m + 1, by omega, by go_num, xa, xc, by rw [HN.out], by rw [HN.out]; exact HM.out⟩
      case measure => simp [intOf]; omega
    subst hx0
    have hb : blankB st m = true := by simp [blankB, hx]
    cases m with
    | zero =>
      have HN : Hid (freeN st (0 + 1) = freeN st 0 ++ [(⟨0, 1⟩ : Rn)]) := by
        show _ = _
        simp [freeN, hb]
      rw [Nat.add_zero] at c1
      have HM2 := hM.alloc (.cells #[.int .i64 0, .int .i64 1] 24)
      have hR := RunsAt.made wr 0 1
      have HLn : Hid ((freeN st (0) ++ [(⟨0, 1⟩ : Rn)]).length = (freeN st (0)).length + 1) := by show _ = _; simp
      clear hM hx k1 hok
      go_wp2_with (first
        | (refine wpList_append_mr rfl (.tmp 36) (.tmp 39) rfl HM2 (.slice (some ⟨wr.heap.size, 0, none⟩) 1 1) [(⟨0, 1⟩ : Rn)] (freeN st (0) ++ [(⟨0, 1⟩ : Rn)]) ((freeN st (0)).length + 1) rfl rfl hR (Or.inl ⟨_, _, _, _, rfl⟩) rfl HLn.out (by omega) ?_; intro ya yc w5 _ HM5; have HMh : Hid _ := HM5; clear HM5 HM2 hR)
        | fail)
      go_roundw
      case rel => exact ⟨0 + 1, by omega, by go_num, ya, yc, by rw [HN.out, HLn.out], by rw [HN.out, HLn.out]; exact HMh.out⟩
      case measure => simp [intOf]; omega
    | succ j =>
      obtain ⟨y, hy⟩ : ∃ y, st[j]? = some y := ⟨_, List.getElem?_eq_getElem (by omega)⟩
      have d1 : wr.cell? ⟨b, o + j, none⟩ = some (.int .i64 y) := by
        obtain ⟨b', o', e, hk⟩ := HL.out j y hy
        simp at e
        obtain ⟨rfl, rfl⟩ := e
        exact hk wr hM.below
      have hj1 : ¬ ((j : Int) < 0) := by omega
      have hj2 : (j : Int) < (st.length : Int) := by omega
      have hj3 : ¬ ((j : Int) + 1 < 0) := by omega
      have hj4 : (0 : Int) < (j : Int) + 1 := by omega
      by_cases hy0 : y = 0
      · subst hy0
        have hbj : blankB st j = true := by simp [blankB, hy]
        obtain ⟨p, r, hpr, hre⟩ := hok.last (by omega) (by simpa using hbj)
        have HN : Hid (freeN st (j + 1 + 1) = p ++ [⟨r.s, r.c + 1⟩]) := by
          show _ = _
          rw [freeN, if_pos hb, if_pos ⟨by omega, by simpa using hbj⟩, hpr, bump_snoc]
        have hr1 := oneB_iff.1 (chk_one hok.chk r (by rw [hpr]; simp))
        rw [hpr] at hM hlen
        rw [hpr]
        have hpl : (p ++ [r]).length = p.length + 1 := by simp
        rw [hpl] at hM hlen ⊢
        obtain ⟨g, rfl⟩ := hM.addr (by omega)
        obtain ⟨e1, e2, hM2⟩ := hM.setC (i := p.length) (r := r) (by simp) (r.c + 1)
        have HSt : Hid ((p ++ [r]).set p.length ⟨r.s, r.c + 1⟩ = p ++ [⟨r.s, r.c + 1⟩]) := by show _ = _; simp
        have HM2 : Hid _ := hM2
        have hq1 : ¬ ((p.length : Int) < 0) := by omega
        have hq2 : (p.length : Int) < (p.length : Int) + 1 := by omega
        have hq3 : IntKind.i64.wrap (r.c + 1) = r.c + 1 := by rw [IntKind.wrap_i64]; omega
        clear hM hM2 hx hy k1 hok hpr hre
        go_wp2
        go_roundw
        case rel => exact ⟨j + 1 + 1, by omega, by go_num, some ⟨g, 0, none⟩, xc, by rw [HN.out]; simp, by rw [HN.out]; have := HM2.out; rw [HSt.out] at this; simpa using this⟩
        case measure => simp [intOf]; omega
      · have hy1 : (y == 0) = false := by simpa using hy0
        have HN : Hid (freeN st (j + 1 + 1) = freeN st (j + 1) ++ [(⟨((j + 1 : Nat) : Int), 1⟩ : Rn)]) := by
          show _ = _
          rw [freeN, if_pos hb, if_neg]
          rintro ⟨_, h⟩
          simp [blankB, hy, hy0] at h
        clear hy hy0
        have HM2 := hM.alloc (.cells #[.int .i64 ((j + 1 : Nat) : Int), .int .i64 1] 24)
        have hR := RunsAt.made wr ((j + 1 : Nat) : Int) 1
        have HLn : Hid ((freeN st (j + 1) ++ [(⟨((j + 1 : Nat) : Int), 1⟩ : Rn)]).length = (freeN st (j + 1)).length + 1) := by show _ = _; simp
        clear hM hx k1 hok
        go_wp2_with (first
          | (refine wpList_append_mr rfl (.tmp 36) (.tmp 39) rfl HM2 (.slice (some ⟨wr.heap.size, 0, none⟩) 1 1) [(⟨((j + 1 : Nat) : Int), 1⟩ : Rn)] (freeN st (j + 1) ++ [(⟨((j + 1 : Nat) : Int), 1⟩ : Rn)]) ((freeN st (j + 1)).length + 1) rfl rfl hR (Or.inl ⟨_, _, _, _, rfl⟩) rfl HLn.out (by omega) ?_; intro ya yc w5 _ HM5; have HMh : Hid _ := HM5; clear HM5 HM2 hR)
          | fail)
        go_roundw
        case rel => exact ⟨j + 1 + 1, by omega, by go_num, ya, yc, by rw [HN.out, HLn.out], by rw [HN.out, HLn.out]; exact HMh.out⟩
        case measure => simp [intOf]; omega
end Go.Proofs.Ytbnfhhjgalphgaa
