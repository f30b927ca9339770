/- The law's collides: are two unlike pairs on the way one node's? (layer 9) -/
import Derived.Test.YtnigcngaegafoaaDoorR9k
import Derived.Test.YtnigcngaegafoaaDoorR9s
import Derived.Test.YtnigcngaegafoaaDoorR9b
import Derived.Deep.DeepCutAuto
namespace Go.Proofs.YtnigcngaegafoaaDoor
open Go.RowKit

section
variable {H : Type} [DecidableEq H] (em : H) (nd : H → H → H)
theorem colF_fuel : ∀ (n m : Nat) (a b : List H) (i : Nat), a.length ≤ n → a.length ≤ m → colF em nd n a b i = colF em nd m a b i
  | 0, 0, _, _, _, _, _ => rfl
  | 0, m + 1, a, b, i, h, _ => by
    unfold colF
    rw [if_neg (by omega)]
  | n + 1, 0, a, b, i, _, h => by
    unfold colF
    rw [if_neg (by omega)]
  | n + 1, m + 1, a, b, i, h1, h2 => by
    unfold colF
    by_cases h : 2 ≤ a.length
    · obtain ⟨s1, s2, s3, _⟩ := split_ok h
      rw [if_pos h, if_pos h, colF_fuel n m (a.take (splitN a.length)) _ _ (by rw [List.length_take]; omega) (by rw [List.length_take]; omega), colF_fuel n m (a.drop (splitN a.length)) _ _ (by rw [List.length_drop]; omega) (by rw [List.length_drop]; omega)]
    · rw [if_neg h, if_neg h]
end
/-- What the law's collides tells. -/
def colH (a b : List (List UInt8)) (i : Nat) : Bool := colF (shaL []) nodeL a.length a b i
theorem colH_one {a b : List (List UInt8)} {i : Nat} (h : a.length < 2) : colH a b i = false := by
  unfold colH
  cases hn : a.length with
  | zero => rfl
  | succ n => unfold colF; rw [if_neg (by omega)]
theorem colH_node {a b : List (List UInt8)} {i k : Nat} (h : 2 ≤ a.length) (hk : splitN a.length = k) :
    colH a b i = if (rootH (a.take k) ≠ rootH (b.take k) ∨ rootH (a.drop k) ≠ rootH (b.drop k)) ∧ nodeL (rootH (a.take k)) (rootH (a.drop k)) = nodeL (rootH (b.take k)) (rootH (b.drop k)) then true
      else if i < k then colH (a.take k) (b.take k) i else colH (a.drop k) (b.drop k) (i - k) := by
  subst hk
  obtain ⟨s1, s2, s3, _⟩ := split_ok h
  obtain ⟨n, hn⟩ : ∃ n, a.length = n + 1 := ⟨a.length - 1, by omega⟩
  unfold colH
  rw [show colF (shaL []) nodeL a.length a b i = colF (shaL []) nodeL (n + 1) a b i by rw [hn]]
  conv => lhs; unfold colF
  rw [if_pos h, colF_fuel _ _ n (a.take (splitN a.length)).length _ _ _ (by rw [List.length_take]; omega) (Nat.le_refl _), colF_fuel _ _ n (a.drop (splitN a.length)).length _ _ _ (by rw [List.length_drop]; omega) (Nat.le_refl _)]
  rfl
theorem zero_pair : hv (padTo 64 []) = #[.int .u8 0, .int .u8 0, .int .u8 0, .int .u8 0, .int .u8 0, .int .u8 0, .int .u8 0, .int .u8 0, .int .u8 0, .int .u8 0, .int .u8 0, .int .u8 0, .int .u8 0, .int .u8 0, .int .u8 0, .int .u8 0, .int .u8 0, .int .u8 0, .int .u8 0, .int .u8 0, .int .u8 0, .int .u8 0, .int .u8 0, .int .u8 0, .int .u8 0, .int .u8 0, .int .u8 0, .int .u8 0, .int .u8 0, .int .u8 0, .int .u8 0, .int .u8 0, .int .u8 0, .int .u8 0, .int .u8 0, .int .u8 0, .int .u8 0, .int .u8 0, .int .u8 0, .int .u8 0, .int .u8 0, .int .u8 0, .int .u8 0, .int .u8 0, .int .u8 0, .int .u8 0, .int .u8 0, .int .u8 0, .int .u8 0, .int .u8 0, .int .u8 0, .int .u8 0, .int .u8 0, .int .u8 0, .int .u8 0, .int .u8 0, .int .u8 0, .int .u8 0, .int .u8 0, .int .u8 0, .int .u8 0, .int .u8 0, .int .u8 0, .int .u8 0] := by rfl
theorem pair_box (w : World) : ∃ w', w.alloc (.cells #[.int .u8 0, .int .u8 0, .int .u8 0, .int .u8 0, .int .u8 0, .int .u8 0, .int .u8 0, .int .u8 0, .int .u8 0, .int .u8 0, .int .u8 0, .int .u8 0, .int .u8 0, .int .u8 0, .int .u8 0, .int .u8 0, .int .u8 0, .int .u8 0, .int .u8 0, .int .u8 0, .int .u8 0, .int .u8 0, .int .u8 0, .int .u8 0, .int .u8 0, .int .u8 0, .int .u8 0, .int .u8 0, .int .u8 0, .int .u8 0, .int .u8 0, .int .u8 0, .int .u8 0, .int .u8 0, .int .u8 0, .int .u8 0, .int .u8 0, .int .u8 0, .int .u8 0, .int .u8 0, .int .u8 0, .int .u8 0, .int .u8 0, .int .u8 0, .int .u8 0, .int .u8 0, .int .u8 0, .int .u8 0, .int .u8 0, .int .u8 0, .int .u8 0, .int .u8 0, .int .u8 0, .int .u8 0, .int .u8 0, .int .u8 0, .int .u8 0, .int .u8 0, .int .u8 0, .int .u8 0, .int .u8 0, .int .u8 0, .int .u8 0, .int .u8 0] 45) = w' ∧ Below w.heap.size w w' ∧ w'.heap[w.heap.size]? = some (.cells (hv (padTo 64 [])) 45 (0, 0)) := ⟨_, rfl, (Below.refl _ _).alloc (Nat.le_refl _) _, by rw [zero_pair]; exact heap_alloc_last w _⟩
theorem range_fst {w : World} {b : Nat} {x y : List UInt8} {t : TypeId} (h : w.heap[b]? = some (.cells (hv (x ++ y)) t (0, 0))) : w.rangeAt b 0 (hv x).toList := fun j v hj => by
  rw [cell_of_row _ _ _ _ _ _ h, Nat.zero_add, ← Array.getElem?_toList]
  have hj' : (hv x).toList[j]? = some v := by simpa using hj
  simp only [hv, List.map_append] at hj' ⊢
  rw [List.getElem?_append_left (List.getElem?_eq_some_iff.1 hj').1]
  exact hj'
theorem range_snd {w : World} {b : Nat} {x y : List UInt8} {t : TypeId} (hx : x.length = 32) (h : w.heap[b]? = some (.cells (hv (x ++ y)) t (0, 0))) : w.rangeAt b 32 (hv y).toList := fun j v hj => by
  rw [cell_of_row _ _ _ _ _ _ h, ← Array.getElem?_toList]
  have hj' : (hv y).toList[j]? = some v := by simpa using hj
  simp only [hv, List.map_append] at hj' ⊢
  rw [List.getElem?_append_right (by simp [hx]), List.length_map, hx, show 32 + j - 32 = j by omega]
  exact hj'
theorem range_all {w : World} {b : Nat} {C : Array Value} {t : TypeId} (h : w.heap[b]? = some (.cells C t (0, 0))) : w.rangeAt b 0 C.toList := fun j v hj => by
  rw [cell_of_row _ _ _ _ _ _ h, Nat.zero_add, ← Array.getElem?_toList]; exact hj
theorem info_pr : (Tryd.prog.info? 45).map (·.size) = some 64 := by kernel_rfl
def lenV : Value → Nat
  | .slice _ n _ => n
  | _ => 0
set_option maxRecDepth 100000 in
set_option maxHeartbeats 8000000 in
set_option linter.unusedSimpArgs false in
theorem collides_any {w : World} (A0 B0 : List (List UInt8)) (i0 : Nat) (ba oa ca bb ob cb : Nat) (hK : TabL w) (hA0 : HsAt w (.slice (some ⟨ba, oa, none⟩) A0.length ca) A0) (hB0 : HsAt w (.slice (some ⟨bb, ob, none⟩) A0.length cb) B0) (hl : B0.length = A0.length) (hca : A0.length ≤ ca) (hcb : A0.length ≤ cb) (hn : A0.length ≤ 100) (hi : i0 < A0.length) :
    Calls Tryd.prog 17 #[.slice (some ⟨ba, oa, none⟩) A0.length ca, .slice (some ⟨bb, ob, none⟩) A0.length cb, .int .i64 i0] w fun e w' => e = .returned (.bool (colH A0 B0 i0)) ∧ Below w.heap.size w w' := by
  have HK : Hid (∀ w', Below w.heap.size w w' → TabL w') := fun w' h => hK.below h hK.lt
  have HA : Hid (HsAt w (.slice (some ⟨ba, oa, none⟩) A0.length ca) A0) := hA0
  have HB : Hid (HsAt w (.slice (some ⟨bb, ob, none⟩) A0.length cb) B0) := hB0
  clear hK hA0 hB0
  go_enter Tryd.func17, Tryd.ntmps17
  go_wp2
  go_loopw [0, 1, 2] (fun av bv iv wr => ∃ (A B : List (List UInt8)) (i n a1 o1 c1 a2 o2 c2 : Nat), A.length = n ∧ B.length = n ∧ i < n ∧ n ≤ 100 ∧ n ≤ c1 ∧ n ≤ c2 ∧ av = .slice (some ⟨a1, o1, none⟩) n c1 ∧ bv = .slice (some ⟨a2, o2, none⟩) n c2 ∧ iv = .int .i64 i ∧ HsAt wr (.slice (some ⟨a1, o1, none⟩) n c1) A ∧ HsAt wr (.slice (some ⟨a2, o2, none⟩) n c2) B ∧ colH A0 B0 i0 = colH A B i ∧ Below w.heap.size w wr) (fun av _ _ _ => lenV av)
  case atStart => exact ⟨A0, B0, i0, A0.length, ba, oa, ca, bb, ob, cb, rfl, hl, hi, hn, hca, hcb, rfl, rfl, rfl, HA.out, HB.out, rfl, Below.refl _ _⟩
  case round =>
    obtain ⟨A, B, i, n, a1, o1, c1, a2, o2, c2, lA, lB, hin, hn100, hc1, hc2, rfl, rfl, rfl, hA, hB, hcol, hbw⟩ := hrel
    clear HA HB hl hca hcb hn hi
    by_cases hlt : (n : Int) > 1
    · obtain ⟨s1, s2, s3, _⟩ := split_ok (n := n) (by omega)
      obtain ⟨k, hk⟩ : ∃ k, splitN n = k := ⟨_, rfl⟩
      have HSp : Hid (∀ w' : World, Calls Tryd.prog 13 #[.int .i64 n] w' fun e w'' => e = .returned (.int .i64 k) ∧ w'' = w') := fun w' => by
        have := split_any (n : Int) w' (by omega) (by omega)
        rwa [splitZ_nat, hk] at this
      rw [hk] at s1 s2 s3
      have hcol2 := colH_node (a := A) (b := B) (i := i) (k := k) (by omega) (by rw [lA]; exact hk)
      have q1 : decide ((k : Int) < 1) = false := by simp; omega
      have q2 : decide (n ≤ k) = false := by simp; omega
      have HW : Hid (∀ w', Below wr.heap.size wr w' → Below w.heap.size w w') := fun w' h => hbw.trans (h.mono hbw.size)
      have HKr : Hid (∀ w', Below wr.heap.size wr w' → TabL w') := fun w' h => HK.out w' (HW.out w' h)
      have hAt := hA.take k (by omega)
      have hBt := hB.take k (by omega)
      have hAd := hA.rest k (by omega) hc1
      have hBd := hB.rest k (by omega) hc2
      rw [if_neg (by omega)] at hAd hBd
      have H1 : Hid (∀ w', Below wr.heap.size wr w' → Calls Tryd.prog 9 #[.slice (some ⟨a1, o1, none⟩) k c1] w' fun e w'' => e = .returned (.agg (hv (rootH (A.take k)))) ∧ Below w'.heap.size w' w'') := fun w' h => root_any (HKr.out w' h) (hAt.below h) (fun a n c e => by have := Value.slice.inj e; omega) (by rw [List.length_take]; omega)
      have H2 : Hid (∀ w', Below wr.heap.size wr w' → Calls Tryd.prog 9 #[.slice (some ⟨a1, o1 + k * 32, none⟩) (n - k) (c1 - k)] w' fun e w'' => e = .returned (.agg (hv (rootH (A.drop k)))) ∧ Below w'.heap.size w' w'') := fun w' h => root_any (HKr.out w' h) (hAd.below h) (fun a n c e => by have := Value.slice.inj e; omega) (by rw [List.length_drop]; omega)
      have H3 : Hid (∀ w', Below wr.heap.size wr w' → Calls Tryd.prog 9 #[.slice (some ⟨a2, o2, none⟩) k c2] w' fun e w'' => e = .returned (.agg (hv (rootH (B.take k)))) ∧ Below w'.heap.size w' w'') := fun w' h => root_any (HKr.out w' h) (hBt.below h) (fun a n c e => by have := Value.slice.inj e; omega) (by rw [List.length_take]; omega)
      have H4 : Hid (∀ w', Below wr.heap.size wr w' → Calls Tryd.prog 9 #[.slice (some ⟨a2, o2 + k * 32, none⟩) (n - k) (c2 - k)] w' fun e w'' => e = .returned (.agg (hv (rootH (B.drop k)))) ∧ Below w'.heap.size w' w'') := fun w' h => root_any (HKr.out w' h) (hBd.below h) (fun a n c e => by have := Value.slice.inj e; omega) (by rw [List.length_drop]; omega)
      have HAt : Hid (∀ w', Below wr.heap.size wr w' → HsAt w' (.slice (some ⟨a1, o1, none⟩) k c1) (A.take k)) := fun w' h => hAt.below h
      have HBt : Hid (∀ w', Below wr.heap.size wr w' → HsAt w' (.slice (some ⟨a2, o2, none⟩) k c2) (B.take k)) := fun w' h => hBt.below h
      have HAd : Hid (∀ w', Below wr.heap.size wr w' → HsAt w' (.slice (some ⟨a1, o1 + k * 32, none⟩) (n - k) (c1 - k)) (A.drop k)) := fun w' h => hAd.below h
      have HBd : Hid (∀ w', Below wr.heap.size wr w' → HsAt w' (.slice (some ⟨a2, o2 + k * 32, none⟩) (n - k) (c2 - k)) (B.drop k)) := fun w' h => hBd.below h
      obtain ⟨x0, hx0⟩ : ∃ x, rootH (A.take k) = x := ⟨_, rfl⟩
      obtain ⟨x1, hx1⟩ : ∃ x, rootH (A.drop k) = x := ⟨_, rfl⟩
      obtain ⟨y0, hy0⟩ : ∃ x, rootH (B.take k) = x := ⟨_, rfl⟩
      obtain ⟨y1, hy1⟩ : ∃ x, rootH (B.drop k) = x := ⟨_, rfl⟩
      have l0 : x0.length = 32 := by rw [← hx0]; exact rootH_32 hAt.len
      have l1 : x1.length = 32 := by rw [← hx1]; exact rootH_32 hAd.len
      have m0 : y0.length = 32 := by rw [← hy0]; exact rootH_32 hBt.len
      have m1 : y1.length = 32 := by rw [← hy1]; exact rootH_32 hBd.len
      rw [hx0] at H1 hcol2
      rw [hx1] at H2 hcol2
      rw [hy0] at H3 hcol2
      rw [hy1] at H4 hcol2
      have HCol : Hid (colH A0 B0 i0 = colH A B i) := hcol
      have HCol2 : Hid _ := hcol2
      have hbA : ∀ w9 : World, (Instr.build 45 #[(0, .agg (hv x0)), (1, .agg (hv x1))]).run Tryd.prog w9 = .ok (.agg (hv (x0 ++ x1))) w9 := fun w9 => run_build w9 _ _ _ (built_pair x0 x1 l0 l1)
      have hbB : ∀ w9 : World, (Instr.build 45 #[(0, .agg (hv y0)), (1, .agg (hv y1))]).run Tryd.prog w9 = .ok (.agg (hv (y0 ++ y1))) w9 := fun w9 => run_build w9 _ _ _ (built_pair y0 y1 m0 m1)
      clear hA hB hAt hBt hAd hBd hcol hcol2 hx0 hx1 hy0 hy1 hk hbw
      have f1 : (k : Int) ≤ (n : Int) := by omega
      have f2 : (k : Int) ≤ (c1 : Int) := by omega
      have f3 : (n : Int) ≤ (c1 : Int) := by omega
      have f4 : (k : Int) ≤ (c2 : Int) := by omega
      have f5 : (n : Int) ≤ (c2 : Int) := by omega
      have f6 : ¬ c1 = k := by omega
      have f7 : ¬ c2 = k := by omega
      have f8 : k ≤ c1 := by omega
      have f9 : k ≤ c2 := by omega
      go_wp2_with fail
      refine (HSp.out _).mono ?_
      rintro e w' ⟨rfl, hw'⟩
      have hw'' := hw'.symm
      clear hw'
      subst hw''
      go_upto_region 5 with fail
      go_cut [7, 8, 9] (fun kv p8 p9 wx => kv = .int .i64 k ∧ ∃ b8 b9, p8 = .pointer (some ⟨b8, 0, none⟩) ∧ p9 = .pointer (some ⟨b9, 0, none⟩) ∧ wx.heap[b8]? = some (.cells (hv (x0 ++ x1)) 45 (0, 0)) ∧ wx.heap[b9]? = some (.cells (hv (y0 ++ y1)) 45 (0, 0)) ∧ Below wr.heap.size wr wx)
      case first =>
        have sA : (hv (x0 ++ x1)).size = 64 := by rw [hv_size, List.length_append, l0, l1]
        have sB : (hv (y0 ++ y1)).size = 64 := by rw [hv_size, List.length_append, m0, m1]
        have oA := hv_one (x0 ++ x1)
        have oB := hv_one (y0 ++ y1)
        have z1 : Hid ((hv (padTo 64 [])).size = 64) := by show _ = _; rw [hv_size, padTo_length (by decide)]
        have HPB : Hid (∀ w : World, ∃ w', w.alloc (.cells #[.int .u8 0, .int .u8 0, .int .u8 0, .int .u8 0, .int .u8 0, .int .u8 0, .int .u8 0, .int .u8 0, .int .u8 0, .int .u8 0, .int .u8 0, .int .u8 0, .int .u8 0, .int .u8 0, .int .u8 0, .int .u8 0, .int .u8 0, .int .u8 0, .int .u8 0, .int .u8 0, .int .u8 0, .int .u8 0, .int .u8 0, .int .u8 0, .int .u8 0, .int .u8 0, .int .u8 0, .int .u8 0, .int .u8 0, .int .u8 0, .int .u8 0, .int .u8 0, .int .u8 0, .int .u8 0, .int .u8 0, .int .u8 0, .int .u8 0, .int .u8 0, .int .u8 0, .int .u8 0, .int .u8 0, .int .u8 0, .int .u8 0, .int .u8 0, .int .u8 0, .int .u8 0, .int .u8 0, .int .u8 0, .int .u8 0, .int .u8 0, .int .u8 0, .int .u8 0, .int .u8 0, .int .u8 0, .int .u8 0, .int .u8 0, .int .u8 0, .int .u8 0, .int .u8 0, .int .u8 0, .int .u8 0, .int .u8 0, .int .u8 0, .int .u8 0] 45) = w' ∧ Below w.heap.size w w' ∧ w'.heap[w.heap.size]? = some (.cells (hv (padTo 64 [])) 45 (0, 0))) := pair_box
        generalize hv (padTo 64 []) = Z at *
        generalize hv (x0 ++ x1) = PA at *
        generalize hv (y0 ++ y1) = PB at *
        generalize hv x0 = X0 at *
        generalize hv x1 = X1 at *
        generalize hv y0 = Y0 at *
        generalize hv y1 = Y1 at *
        clear l0 l1 m0 m1 HK HW HKr HAt HBt HAd HBd HCol HCol2 lA lB
        refine wp_region_held (S := Below wr.heap.size wr) (by kernel_rfl) ?_
        change wpAnyH _ _ _ _ _ _ _ _ (World.drew _)
        have HX : Below wr.heap.size wr wr.drew := (Below.refl _ _).drew
        generalize World.drew _ = x0 at *
        refine wpAnyH_take (i := 0) (v := .slice (some ⟨a1, o1, none⟩) n c1) rfl (by kernel_rfl) (by kernel_rfl) (by kernel_rfl) (fun _ _ _ h => h) (Or.inl ⟨by rfl, by intro w9 _; go_simp⟩) HX ?_
        simp only [List.getElem_toArray, List.getElem_cons_succ, List.getElem_cons_zero, Act.put, List.setIfInBounds_toArray, List.set_cons_zero, List.set_cons_succ]
        refine wpAnyH_take (i := 1) (v := .int .i64 k) rfl (by kernel_rfl) (by kernel_rfl) (by kernel_rfl) (fun _ _ _ h => h) (Or.inl ⟨by rfl, by intro w9 _; go_simp⟩) HX ?_
        simp only [List.getElem_toArray, List.getElem_cons_succ, List.getElem_cons_zero, Act.put, List.setIfInBounds_toArray, List.set_cons_zero, List.set_cons_succ]
        refine wpAnyH_take (i := 2) (v := .slice (some ⟨a1, o1, none⟩) k c1) rfl (by kernel_rfl) (by kernel_rfl) (by kernel_rfl) (fun _ _ _ h => h) (Or.inl ⟨by rfl, by intro w9 _; go_simp⟩) HX ?_
        simp only [List.getElem_toArray, List.getElem_cons_succ, List.getElem_cons_zero, Act.put, List.setIfInBounds_toArray, List.set_cons_zero, List.set_cons_succ]
        refine wpAnyH_take (i := 4) (v := .slice (some ⟨a1, o1, none⟩) n c1) rfl (by kernel_rfl) (by kernel_rfl) (by kernel_rfl) (fun _ _ _ h => h) (Or.inl ⟨by rfl, by intro w9 _; go_simp⟩) HX ?_
        simp only [List.getElem_toArray, List.getElem_cons_succ, List.getElem_cons_zero, Act.put, List.setIfInBounds_toArray, List.set_cons_zero, List.set_cons_succ]
        refine wpAnyH_take (i := 5) (v := .int .i64 k) rfl (by kernel_rfl) (by kernel_rfl) (by kernel_rfl) (fun _ _ _ h => h) (Or.inl ⟨by rfl, by intro w9 _; go_simp⟩) HX ?_
        simp only [List.getElem_toArray, List.getElem_cons_succ, List.getElem_cons_zero, Act.put, List.setIfInBounds_toArray, List.set_cons_zero, List.set_cons_succ]
        refine wpAnyH_take (i := 6) (v := .slice (some ⟨a1, o1 + k * 32, none⟩) (n - k) (c1 - k)) rfl (by kernel_rfl) (by kernel_rfl) (by kernel_rfl) (fun _ _ _ h => h) (Or.inl ⟨by rfl, by intro w9 _; go_simp⟩) HX ?_
        simp only [List.getElem_toArray, List.getElem_cons_succ, List.getElem_cons_zero, Act.put, List.setIfInBounds_toArray, List.set_cons_zero, List.set_cons_succ]
        refine wpAnyH_take (i := 9) (v := .slice (some ⟨a2, o2, none⟩) n c2) rfl (by kernel_rfl) (by kernel_rfl) (by kernel_rfl) (fun _ _ _ h => h) (Or.inl ⟨by rfl, by intro w9 _; go_simp⟩) HX ?_
        simp only [List.getElem_toArray, List.getElem_cons_succ, List.getElem_cons_zero, Act.put, List.setIfInBounds_toArray, List.set_cons_zero, List.set_cons_succ]
        refine wpAnyH_take (i := 10) (v := .int .i64 k) rfl (by kernel_rfl) (by kernel_rfl) (by kernel_rfl) (fun _ _ _ h => h) (Or.inl ⟨by rfl, by intro w9 _; go_simp⟩) HX ?_
        simp only [List.getElem_toArray, List.getElem_cons_succ, List.getElem_cons_zero, Act.put, List.setIfInBounds_toArray, List.set_cons_zero, List.set_cons_succ]
        refine wpAnyH_take (i := 11) (v := .slice (some ⟨a2, o2, none⟩) k c2) rfl (by kernel_rfl) (by kernel_rfl) (by kernel_rfl) (fun _ _ _ h => h) (Or.inl ⟨by rfl, by intro w9 _; go_simp⟩) HX ?_
        simp only [List.getElem_toArray, List.getElem_cons_succ, List.getElem_cons_zero, Act.put, List.setIfInBounds_toArray, List.set_cons_zero, List.set_cons_succ]
        refine wpAnyH_take (i := 13) (v := .slice (some ⟨a2, o2, none⟩) n c2) rfl (by kernel_rfl) (by kernel_rfl) (by kernel_rfl) (fun _ _ _ h => h) (Or.inl ⟨by rfl, by intro w9 _; go_simp⟩) HX ?_
        simp only [List.getElem_toArray, List.getElem_cons_succ, List.getElem_cons_zero, Act.put, List.setIfInBounds_toArray, List.set_cons_zero, List.set_cons_succ]
        refine wpAnyH_take (i := 14) (v := .int .i64 k) rfl (by kernel_rfl) (by kernel_rfl) (by kernel_rfl) (fun _ _ _ h => h) (Or.inl ⟨by rfl, by intro w9 _; go_simp⟩) HX ?_
        simp only [List.getElem_toArray, List.getElem_cons_succ, List.getElem_cons_zero, Act.put, List.setIfInBounds_toArray, List.set_cons_zero, List.set_cons_succ]
        refine wpAnyH_take (i := 15) (v := .slice (some ⟨a2, o2 + k * 32, none⟩) (n - k) (c2 - k)) rfl (by kernel_rfl) (by kernel_rfl) (by kernel_rfl) (fun _ _ _ h => h) (Or.inl ⟨by rfl, by intro w9 _; go_simp⟩) HX ?_
        simp only [List.getElem_toArray, List.getElem_cons_succ, List.getElem_cons_zero, Act.put, List.setIfInBounds_toArray, List.set_cons_zero, List.set_cons_succ]
        refine wpAnyH_ready (rs := [3, 18, 19]) (by kernel_rfl) (by simp) (AllReadyH.cons (by simp only [List.getElem?_toArray, List.getElem?_cons_succ, List.getElem?_cons_zero]; rfl) (fun K hK => ?_) (AllReadyH.cons (by simp only [List.getElem?_toArray, List.getElem?_cons_succ, List.getElem?_cons_zero]; rfl) (fun K hK => ?_) (AllReadyH.cons (by simp only [List.getElem?_toArray, List.getElem?_cons_succ, List.getElem?_cons_zero]; rfl) (fun K hK => ?_) AllReadyH.nil)))
        · refine step_want (by rfl) ?_
          go_simp
          refine (H1.out _ HX).mono ?_
          rintro e x1 ⟨rfl, bc⟩
          have HX : Below wr.heap.size wr x1 := HX.trans (bc.mono HX.size)
          clear bc
          refine hK.out _ _ HX (fun _ => ?_)
          clear hK K
          try simp only [List.getElem_toArray, List.getElem_cons_succ, List.getElem_cons_zero, Act.put, List.setIfInBounds_toArray, List.set_cons_zero, List.set_cons_succ]
          refine wpAnyH_ready (rs := [7, 18, 19]) (by kernel_rfl) (by simp) (AllReadyH.cons (by simp only [List.getElem?_toArray, List.getElem?_cons_succ, List.getElem?_cons_zero]; rfl) (fun K hK => ?_) (AllReadyH.cons (by simp only [List.getElem?_toArray, List.getElem?_cons_succ, List.getElem?_cons_zero]; rfl) (fun K hK => ?_) (AllReadyH.cons (by simp only [List.getElem?_toArray, List.getElem?_cons_succ, List.getElem?_cons_zero]; rfl) (fun K hK => ?_) AllReadyH.nil)))
          · refine step_want (by rfl) ?_
            go_simp
            refine (H2.out _ HX).mono ?_
            rintro e x2 ⟨rfl, bc⟩
            have HX : Below wr.heap.size wr x2 := HX.trans (bc.mono HX.size)
            clear bc
            refine hK.out _ _ HX (fun _ => ?_)
            clear hK K
            try simp only [List.getElem_toArray, List.getElem_cons_succ, List.getElem_cons_zero, Act.put, List.setIfInBounds_toArray, List.set_cons_zero, List.set_cons_succ]
            refine wpAnyH_take (i := 8) (v := .agg PA) rfl (by kernel_rfl) (by kernel_rfl) (by kernel_rfl) (fun _ _ _ h => h) (yields_build2 (by rfl) _ (.tmp 27) (.tmp 31) rfl (.agg X0) (.agg X1) rfl rfl PA hbA) HX ?_
            simp only [List.getElem_toArray, List.getElem_cons_succ, List.getElem_cons_zero, Act.put, List.setIfInBounds_toArray, List.set_cons_zero, List.set_cons_succ]
            refine wpAnyH_ready (rs := [12, 18, 19]) (by kernel_rfl) (by simp) (AllReadyH.cons (by simp only [List.getElem?_toArray, List.getElem?_cons_succ, List.getElem?_cons_zero]; rfl) (fun K hK => ?_) (AllReadyH.cons (by simp only [List.getElem?_toArray, List.getElem?_cons_succ, List.getElem?_cons_zero]; rfl) (fun K hK => ?_) (AllReadyH.cons (by simp only [List.getElem?_toArray, List.getElem?_cons_succ, List.getElem?_cons_zero]; rfl) (fun K hK => ?_) AllReadyH.nil)))
            · refine step_want (by rfl) ?_
              go_simp
              refine (H3.out _ HX).mono ?_
              rintro e x3 ⟨rfl, bc⟩
              have HX : Below wr.heap.size wr x3 := HX.trans (bc.mono HX.size)
              clear bc
              refine hK.out _ _ HX (fun _ => ?_)
              clear hK K
              try simp only [List.getElem_toArray, List.getElem_cons_succ, List.getElem_cons_zero, Act.put, List.setIfInBounds_toArray, List.set_cons_zero, List.set_cons_succ]
              refine wpAnyH_ready (rs := [16, 18, 19]) (by kernel_rfl) (by simp) (AllReadyH.cons (by simp only [List.getElem?_toArray, List.getElem?_cons_succ, List.getElem?_cons_zero]; rfl) (fun K hK => ?_) (AllReadyH.cons (by simp only [List.getElem?_toArray, List.getElem?_cons_succ, List.getElem?_cons_zero]; rfl) (fun K hK => ?_) (AllReadyH.cons (by simp only [List.getElem?_toArray, List.getElem?_cons_succ, List.getElem?_cons_zero]; rfl) (fun K hK => ?_) AllReadyH.nil)))
              · refine step_want (by rfl) ?_
                go_simp
                refine (H4.out _ HX).mono ?_
                rintro e x4 ⟨rfl, bc⟩
                have HX : Below wr.heap.size wr x4 := HX.trans (bc.mono HX.size)
                clear bc
                refine hK.out _ _ HX (fun _ => ?_)
                clear hK K
                try simp only [List.getElem_toArray, List.getElem_cons_succ, List.getElem_cons_zero, Act.put, List.setIfInBounds_toArray, List.set_cons_zero, List.set_cons_succ]
                refine wpAnyH_take (i := 17) (v := .agg PB) rfl (by kernel_rfl) (by kernel_rfl) (by kernel_rfl) (fun _ _ _ h => h) (yields_build2 (by rfl) _ (.tmp 36) (.tmp 40) rfl (.agg Y0) (.agg Y1) rfl rfl PB hbB) HX ?_
                simp only [List.getElem_toArray, List.getElem_cons_succ, List.getElem_cons_zero, Act.put, List.setIfInBounds_toArray, List.set_cons_zero, List.set_cons_succ]
                refine wpAnyH_ready (rs := [18, 19]) (by kernel_rfl) (by simp) (AllReadyH.cons (by simp only [List.getElem?_toArray, List.getElem?_cons_succ, List.getElem?_cons_zero]; rfl) (fun K hK => ?_) (AllReadyH.cons (by simp only [List.getElem?_toArray, List.getElem?_cons_succ, List.getElem?_cons_zero]; rfl) (fun K hK => ?_) AllReadyH.nil))
                · refine step_want (by rfl) ?_
                  obtain ⟨x5, hw, bc, g8⟩ := HPB.out x4
                  go_simp
                  have hle8 : wr.heap.size ≤ x4.heap.size := HX.size
                  have HX : Below wr.heap.size wr x5 := HX.trans (bc.mono HX.size)
                  clear hw bc
                  generalize x4.heap.size = b8 at *
                  refine hK.out _ _ HX (fun _ => ?_)
                  clear hK K
                  try simp only [List.getElem_toArray, List.getElem_cons_succ, List.getElem_cons_zero, Act.put, List.setIfInBounds_toArray, List.set_cons_zero, List.set_cons_succ]
                  refine wpAnyH_ready (rs := [19]) (by kernel_rfl) (by simp) (AllReadyH.cons (by simp only [List.getElem?_toArray, List.getElem?_cons_succ, List.getElem?_cons_zero]; rfl) (fun K hK => ?_) AllReadyH.nil)
                  refine step_want (by rfl) ?_
                  obtain ⟨x6, hw, bc, g9⟩ := HPB.out x5
                  go_simp
                  have hle9 : wr.heap.size ≤ x5.heap.size := HX.size
                  have hne : b8 ≠ x5.heap.size := Nat.ne_of_lt (Array.getElem?_eq_some_iff.1 g8).1
                  have HX : Below wr.heap.size wr x6 := HX.trans (bc.mono HX.size)
                  have g8 := (bc.block _ (Array.getElem?_eq_some_iff.1 g8).1).trans g8
                  clear hw bc
                  generalize x5.heap.size = b9 at *
                  refine hK.out _ _ HX (fun _ => ?_)
                  clear hK K
                  try simp only [List.getElem_toArray, List.getElem_cons_succ, List.getElem_cons_zero, Act.put, List.setIfInBounds_toArray, List.set_cons_zero, List.set_cons_succ]
                  refine wpAnyH_ready (rs := [20]) (by kernel_rfl) (by simp) (AllReadyH.cons (by simp only [List.getElem?_toArray, List.getElem?_cons_succ, List.getElem?_cons_zero]; rfl) (fun K hK => ?_) AllReadyH.nil)
                  refine step_want (by rfl) ?_
                  refine wp_store_row 45 (.tmp 8) _ rfl b8 PA rfl rfl _ _ g8 (by rw [info_pr, sA]) (by rw [z1.out, sA]) oA ?_
                  have HX : Below wr.heap.size wr (x6.setRow b8 PA) := below_setRow HX hle8 PA
                  have g9 : (x6.setRow b8 PA).heap[b9]? = _ := (setRow_other x6 b8 b9 PA (Ne.symm hne)).trans g9
                  have g8 := heap_setRow_same (ds := PA) g8
                  generalize x6.setRow b8 PA = x7 at *
                  refine hK.out _ _ HX (fun _ => ?_)
                  clear hK K
                  try simp only [List.getElem_toArray, List.getElem_cons_succ, List.getElem_cons_zero, Act.put, List.setIfInBounds_toArray, List.set_cons_zero, List.set_cons_succ]
                  refine wpAnyH_ready (rs := [21]) (by kernel_rfl) (by simp) (AllReadyH.cons (by simp only [List.getElem?_toArray, List.getElem?_cons_succ, List.getElem?_cons_zero]; rfl) (fun K hK => ?_) AllReadyH.nil)
                  refine step_want (by rfl) ?_
                  refine wp_store_row 45 (.tmp 9) _ rfl b9 PB rfl rfl _ _ g9 (by rw [info_pr, sB]) (by rw [z1.out, sB]) oB ?_
                  have HX : Below wr.heap.size wr (x7.setRow b9 PB) := below_setRow HX hle9 PB
                  have g8 : (x7.setRow b9 PB).heap[b8]? = _ := (setRow_other x7 b9 b8 PB hne).trans g8
                  have g9 := heap_setRow_same (ds := PB) g9
                  generalize x7.setRow b9 PB = x8 at *
                  refine hK.out _ _ HX (fun _ => ?_)
                  clear hK K
                  try simp only [List.getElem_toArray, List.getElem_cons_succ, List.getElem_cons_zero, Act.put, List.setIfInBounds_toArray, List.set_cons_zero, List.set_cons_succ]
                  refine wpAnyH_done (by kernel_rfl) ?_ _
                  go_wp2_with fail
                  go_meet
                  exact ⟨rfl, b8, b9, rfl, rfl, g8, g9, HX⟩
                · refine step_want (by rfl) ?_
                  obtain ⟨x5, hw, bc, g9⟩ := HPB.out x4
                  go_simp
                  have hle9 : wr.heap.size ≤ x4.heap.size := HX.size
                  have HX : Below wr.heap.size wr x5 := HX.trans (bc.mono HX.size)
                  clear hw bc
                  generalize x4.heap.size = b9 at *
                  refine hK.out _ _ HX (fun _ => ?_)
                  clear hK K
                  try simp only [List.getElem_toArray, List.getElem_cons_succ, List.getElem_cons_zero, Act.put, List.setIfInBounds_toArray, List.set_cons_zero, List.set_cons_succ]
                  refine wpAnyH_ready (rs := [18]) (by kernel_rfl) (by simp) (AllReadyH.cons (by simp only [List.getElem?_toArray, List.getElem?_cons_succ, List.getElem?_cons_zero]; rfl) (fun K hK => ?_) AllReadyH.nil)
                  refine step_want (by rfl) ?_
                  obtain ⟨x6, hw, bc, g8⟩ := HPB.out x5
                  go_simp
                  have hle8 : wr.heap.size ≤ x5.heap.size := HX.size
                  have hne : b9 ≠ x5.heap.size := Nat.ne_of_lt (Array.getElem?_eq_some_iff.1 g9).1
                  have HX : Below wr.heap.size wr x6 := HX.trans (bc.mono HX.size)
                  have g9 := (bc.block _ (Array.getElem?_eq_some_iff.1 g9).1).trans g9
                  clear hw bc
                  generalize x5.heap.size = b8 at *
                  refine hK.out _ _ HX (fun _ => ?_)
                  clear hK K
                  try simp only [List.getElem_toArray, List.getElem_cons_succ, List.getElem_cons_zero, Act.put, List.setIfInBounds_toArray, List.set_cons_zero, List.set_cons_succ]
                  refine wpAnyH_ready (rs := [20]) (by kernel_rfl) (by simp) (AllReadyH.cons (by simp only [List.getElem?_toArray, List.getElem?_cons_succ, List.getElem?_cons_zero]; rfl) (fun K hK => ?_) AllReadyH.nil)
                  refine step_want (by rfl) ?_
                  refine wp_store_row 45 (.tmp 8) _ rfl b8 PA rfl rfl _ _ g8 (by rw [info_pr, sA]) (by rw [z1.out, sA]) oA ?_
                  have HX : Below wr.heap.size wr (x6.setRow b8 PA) := below_setRow HX hle8 PA
                  have g9 : (x6.setRow b8 PA).heap[b9]? = _ := (setRow_other x6 b8 b9 PA hne).trans g9
                  have g8 := heap_setRow_same (ds := PA) g8
                  generalize x6.setRow b8 PA = x7 at *
                  refine hK.out _ _ HX (fun _ => ?_)
                  clear hK K
                  try simp only [List.getElem_toArray, List.getElem_cons_succ, List.getElem_cons_zero, Act.put, List.setIfInBounds_toArray, List.set_cons_zero, List.set_cons_succ]
                  refine wpAnyH_ready (rs := [21]) (by kernel_rfl) (by simp) (AllReadyH.cons (by simp only [List.getElem?_toArray, List.getElem?_cons_succ, List.getElem?_cons_zero]; rfl) (fun K hK => ?_) AllReadyH.nil)
                  refine step_want (by rfl) ?_
                  refine wp_store_row 45 (.tmp 9) _ rfl b9 PB rfl rfl _ _ g9 (by rw [info_pr, sB]) (by rw [z1.out, sB]) oB ?_
                  have HX : Below wr.heap.size wr (x7.setRow b9 PB) := below_setRow HX hle9 PB
                  have g8 : (x7.setRow b9 PB).heap[b8]? = _ := (setRow_other x7 b9 b8 PB (Ne.symm hne)).trans g8
                  have g9 := heap_setRow_same (ds := PB) g9
                  generalize x7.setRow b9 PB = x8 at *
                  refine hK.out _ _ HX (fun _ => ?_)
                  clear hK K
                  try simp only [List.getElem_toArray, List.getElem_cons_succ, List.getElem_cons_zero, Act.put, List.setIfInBounds_toArray, List.set_cons_zero, List.set_cons_succ]
                  refine wpAnyH_done (by kernel_rfl) ?_ _
                  go_wp2_with fail
                  go_meet
                  exact ⟨rfl, b8, b9, rfl, rfl, g8, g9, HX⟩
              · refine step_want (by rfl) ?_
                obtain ⟨x4, hw, bc, g8⟩ := HPB.out x3
                go_simp
                have hle8 : wr.heap.size ≤ x3.heap.size := HX.size
                have HX : Below wr.heap.size wr x4 := HX.trans (bc.mono HX.size)
                clear hw bc
                generalize x3.heap.size = b8 at *
                refine hK.out _ _ HX (fun _ => ?_)
                clear hK K
                try simp only [List.getElem_toArray, List.getElem_cons_succ, List.getElem_cons_zero, Act.put, List.setIfInBounds_toArray, List.set_cons_zero, List.set_cons_succ]
                refine wpAnyH_ready (rs := [16, 19]) (by kernel_rfl) (by simp) (AllReadyH.cons (by simp only [List.getElem?_toArray, List.getElem?_cons_succ, List.getElem?_cons_zero]; rfl) (fun K hK => ?_) (AllReadyH.cons (by simp only [List.getElem?_toArray, List.getElem?_cons_succ, List.getElem?_cons_zero]; rfl) (fun K hK => ?_) AllReadyH.nil))
                · refine step_want (by rfl) ?_
                  go_simp
                  refine (H4.out _ HX).mono ?_
                  rintro e x5 ⟨rfl, bc⟩
                  have HX : Below wr.heap.size wr x5 := HX.trans (bc.mono HX.size)
                  have g8 := (bc.block _ (Array.getElem?_eq_some_iff.1 g8).1).trans g8
                  clear bc
                  refine hK.out _ _ HX (fun _ => ?_)
                  clear hK K
                  try simp only [List.getElem_toArray, List.getElem_cons_succ, List.getElem_cons_zero, Act.put, List.setIfInBounds_toArray, List.set_cons_zero, List.set_cons_succ]
                  refine wpAnyH_take (i := 17) (v := .agg PB) rfl (by kernel_rfl) (by kernel_rfl) (by kernel_rfl) (fun _ _ _ h => h) (yields_build2 (by rfl) _ (.tmp 36) (.tmp 40) rfl (.agg Y0) (.agg Y1) rfl rfl PB hbB) HX ?_
                  simp only [List.getElem_toArray, List.getElem_cons_succ, List.getElem_cons_zero, Act.put, List.setIfInBounds_toArray, List.set_cons_zero, List.set_cons_succ]
                  refine wpAnyH_ready (rs := [19]) (by kernel_rfl) (by simp) (AllReadyH.cons (by simp only [List.getElem?_toArray, List.getElem?_cons_succ, List.getElem?_cons_zero]; rfl) (fun K hK => ?_) AllReadyH.nil)
                  refine step_want (by rfl) ?_
                  obtain ⟨x6, hw, bc, g9⟩ := HPB.out x5
                  go_simp
                  have hle9 : wr.heap.size ≤ x5.heap.size := HX.size
                  have hne : b8 ≠ x5.heap.size := Nat.ne_of_lt (Array.getElem?_eq_some_iff.1 g8).1
                  have HX : Below wr.heap.size wr x6 := HX.trans (bc.mono HX.size)
                  have g8 := (bc.block _ (Array.getElem?_eq_some_iff.1 g8).1).trans g8
                  clear hw bc
                  generalize x5.heap.size = b9 at *
                  refine hK.out _ _ HX (fun _ => ?_)
                  clear hK K
                  try simp only [List.getElem_toArray, List.getElem_cons_succ, List.getElem_cons_zero, Act.put, List.setIfInBounds_toArray, List.set_cons_zero, List.set_cons_succ]
                  refine wpAnyH_ready (rs := [20]) (by kernel_rfl) (by simp) (AllReadyH.cons (by simp only [List.getElem?_toArray, List.getElem?_cons_succ, List.getElem?_cons_zero]; rfl) (fun K hK => ?_) AllReadyH.nil)
                  refine step_want (by rfl) ?_
                  refine wp_store_row 45 (.tmp 8) _ rfl b8 PA rfl rfl _ _ g8 (by rw [info_pr, sA]) (by rw [z1.out, sA]) oA ?_
                  have HX : Below wr.heap.size wr (x6.setRow b8 PA) := below_setRow HX hle8 PA
                  have g9 : (x6.setRow b8 PA).heap[b9]? = _ := (setRow_other x6 b8 b9 PA (Ne.symm hne)).trans g9
                  have g8 := heap_setRow_same (ds := PA) g8
                  generalize x6.setRow b8 PA = x7 at *
                  refine hK.out _ _ HX (fun _ => ?_)
                  clear hK K
                  try simp only [List.getElem_toArray, List.getElem_cons_succ, List.getElem_cons_zero, Act.put, List.setIfInBounds_toArray, List.set_cons_zero, List.set_cons_succ]
                  refine wpAnyH_ready (rs := [21]) (by kernel_rfl) (by simp) (AllReadyH.cons (by simp only [List.getElem?_toArray, List.getElem?_cons_succ, List.getElem?_cons_zero]; rfl) (fun K hK => ?_) AllReadyH.nil)
                  refine step_want (by rfl) ?_
                  refine wp_store_row 45 (.tmp 9) _ rfl b9 PB rfl rfl _ _ g9 (by rw [info_pr, sB]) (by rw [z1.out, sB]) oB ?_
                  have HX : Below wr.heap.size wr (x7.setRow b9 PB) := below_setRow HX hle9 PB
                  have g8 : (x7.setRow b9 PB).heap[b8]? = _ := (setRow_other x7 b9 b8 PB hne).trans g8
                  have g9 := heap_setRow_same (ds := PB) g9
                  generalize x7.setRow b9 PB = x8 at *
                  refine hK.out _ _ HX (fun _ => ?_)
                  clear hK K
                  try simp only [List.getElem_toArray, List.getElem_cons_succ, List.getElem_cons_zero, Act.put, List.setIfInBounds_toArray, List.set_cons_zero, List.set_cons_succ]
                  refine wpAnyH_done (by kernel_rfl) ?_ _
                  go_wp2_with fail
                  go_meet
                  exact ⟨rfl, b8, b9, rfl, rfl, g8, g9, HX⟩
                · refine step_want (by rfl) ?_
                  obtain ⟨x5, hw, bc, g9⟩ := HPB.out x4
                  go_simp
                  have hle9 : wr.heap.size ≤ x4.heap.size := HX.size
                  have hne : b8 ≠ x4.heap.size := Nat.ne_of_lt (Array.getElem?_eq_some_iff.1 g8).1
                  have HX : Below wr.heap.size wr x5 := HX.trans (bc.mono HX.size)
                  have g8 := (bc.block _ (Array.getElem?_eq_some_iff.1 g8).1).trans g8
                  clear hw bc
                  generalize x4.heap.size = b9 at *
                  refine hK.out _ _ HX (fun _ => ?_)
                  clear hK K
                  try simp only [List.getElem_toArray, List.getElem_cons_succ, List.getElem_cons_zero, Act.put, List.setIfInBounds_toArray, List.set_cons_zero, List.set_cons_succ]
                  refine wpAnyH_ready (rs := [16]) (by kernel_rfl) (by simp) (AllReadyH.cons (by simp only [List.getElem?_toArray, List.getElem?_cons_succ, List.getElem?_cons_zero]; rfl) (fun K hK => ?_) AllReadyH.nil)
                  refine step_want (by rfl) ?_
                  go_simp
                  refine (H4.out _ HX).mono ?_
                  rintro e x6 ⟨rfl, bc⟩
                  have HX : Below wr.heap.size wr x6 := HX.trans (bc.mono HX.size)
                  have g8 := (bc.block _ (Array.getElem?_eq_some_iff.1 g8).1).trans g8
                  have g9 := (bc.block _ (Array.getElem?_eq_some_iff.1 g9).1).trans g9
                  clear bc
                  refine hK.out _ _ HX (fun _ => ?_)
                  clear hK K
                  try simp only [List.getElem_toArray, List.getElem_cons_succ, List.getElem_cons_zero, Act.put, List.setIfInBounds_toArray, List.set_cons_zero, List.set_cons_succ]
                  refine wpAnyH_take (i := 17) (v := .agg PB) rfl (by kernel_rfl) (by kernel_rfl) (by kernel_rfl) (fun _ _ _ h => h) (yields_build2 (by rfl) _ (.tmp 36) (.tmp 40) rfl (.agg Y0) (.agg Y1) rfl rfl PB hbB) HX ?_
                  simp only [List.getElem_toArray, List.getElem_cons_succ, List.getElem_cons_zero, Act.put, List.setIfInBounds_toArray, List.set_cons_zero, List.set_cons_succ]
                  refine wpAnyH_ready (rs := [20]) (by kernel_rfl) (by simp) (AllReadyH.cons (by simp only [List.getElem?_toArray, List.getElem?_cons_succ, List.getElem?_cons_zero]; rfl) (fun K hK => ?_) AllReadyH.nil)
                  refine step_want (by rfl) ?_
                  refine wp_store_row 45 (.tmp 8) _ rfl b8 PA rfl rfl _ _ g8 (by rw [info_pr, sA]) (by rw [z1.out, sA]) oA ?_
                  have HX : Below wr.heap.size wr (x6.setRow b8 PA) := below_setRow HX hle8 PA
                  have g9 : (x6.setRow b8 PA).heap[b9]? = _ := (setRow_other x6 b8 b9 PA (Ne.symm hne)).trans g9
                  have g8 := heap_setRow_same (ds := PA) g8
                  generalize x6.setRow b8 PA = x7 at *
                  refine hK.out _ _ HX (fun _ => ?_)
                  clear hK K
                  try simp only [List.getElem_toArray, List.getElem_cons_succ, List.getElem_cons_zero, Act.put, List.setIfInBounds_toArray, List.set_cons_zero, List.set_cons_succ]
                  refine wpAnyH_ready (rs := [21]) (by kernel_rfl) (by simp) (AllReadyH.cons (by simp only [List.getElem?_toArray, List.getElem?_cons_succ, List.getElem?_cons_zero]; rfl) (fun K hK => ?_) AllReadyH.nil)
                  refine step_want (by rfl) ?_
                  refine wp_store_row 45 (.tmp 9) _ rfl b9 PB rfl rfl _ _ g9 (by rw [info_pr, sB]) (by rw [z1.out, sB]) oB ?_
                  have HX : Below wr.heap.size wr (x7.setRow b9 PB) := below_setRow HX hle9 PB
                  have g8 : (x7.setRow b9 PB).heap[b8]? = _ := (setRow_other x7 b9 b8 PB hne).trans g8
                  have g9 := heap_setRow_same (ds := PB) g9
                  generalize x7.setRow b9 PB = x8 at *
                  refine hK.out _ _ HX (fun _ => ?_)
                  clear hK K
                  try simp only [List.getElem_toArray, List.getElem_cons_succ, List.getElem_cons_zero, Act.put, List.setIfInBounds_toArray, List.set_cons_zero, List.set_cons_succ]
                  refine wpAnyH_done (by kernel_rfl) ?_ _
                  go_wp2_with fail
                  go_meet
                  exact ⟨rfl, b8, b9, rfl, rfl, g8, g9, HX⟩
              · refine step_want (by rfl) ?_
                obtain ⟨x4, hw, bc, g9⟩ := HPB.out x3
                go_simp
                have hle9 : wr.heap.size ≤ x3.heap.size := HX.size
                have HX : Below wr.heap.size wr x4 := HX.trans (bc.mono HX.size)
                clear hw bc
                generalize x3.heap.size = b9 at *
                refine hK.out _ _ HX (fun _ => ?_)
                clear hK K
                try simp only [List.getElem_toArray, List.getElem_cons_succ, List.getElem_cons_zero, Act.put, List.setIfInBounds_toArray, List.set_cons_zero, List.set_cons_succ]
                refine wpAnyH_ready (rs := [16, 18]) (by kernel_rfl) (by simp) (AllReadyH.cons (by simp only [List.getElem?_toArray, List.getElem?_cons_succ, List.getElem?_cons_zero]; rfl) (fun K hK => ?_) (AllReadyH.cons (by simp only [List.getElem?_toArray, List.getElem?_cons_succ, List.getElem?_cons_zero]; rfl) (fun K hK => ?_) AllReadyH.nil))
                · refine step_want (by rfl) ?_
                  go_simp
                  refine (H4.out _ HX).mono ?_
                  rintro e x5 ⟨rfl, bc⟩
                  have HX : Below wr.heap.size wr x5 := HX.trans (bc.mono HX.size)
                  have g9 := (bc.block _ (Array.getElem?_eq_some_iff.1 g9).1).trans g9
                  clear bc
                  refine hK.out _ _ HX (fun _ => ?_)
                  clear hK K
                  try simp only [List.getElem_toArray, List.getElem_cons_succ, List.getElem_cons_zero, Act.put, List.setIfInBounds_toArray, List.set_cons_zero, List.set_cons_succ]
                  refine wpAnyH_take (i := 17) (v := .agg PB) rfl (by kernel_rfl) (by kernel_rfl) (by kernel_rfl) (fun _ _ _ h => h) (yields_build2 (by rfl) _ (.tmp 36) (.tmp 40) rfl (.agg Y0) (.agg Y1) rfl rfl PB hbB) HX ?_
                  simp only [List.getElem_toArray, List.getElem_cons_succ, List.getElem_cons_zero, Act.put, List.setIfInBounds_toArray, List.set_cons_zero, List.set_cons_succ]
                  refine wpAnyH_ready (rs := [18]) (by kernel_rfl) (by simp) (AllReadyH.cons (by simp only [List.getElem?_toArray, List.getElem?_cons_succ, List.getElem?_cons_zero]; rfl) (fun K hK => ?_) AllReadyH.nil)
                  refine step_want (by rfl) ?_
                  obtain ⟨x6, hw, bc, g8⟩ := HPB.out x5
                  go_simp
                  have hle8 : wr.heap.size ≤ x5.heap.size := HX.size
                  have hne : b9 ≠ x5.heap.size := Nat.ne_of_lt (Array.getElem?_eq_some_iff.1 g9).1
                  have HX : Below wr.heap.size wr x6 := HX.trans (bc.mono HX.size)
                  have g9 := (bc.block _ (Array.getElem?_eq_some_iff.1 g9).1).trans g9
                  clear hw bc
                  generalize x5.heap.size = b8 at *
                  refine hK.out _ _ HX (fun _ => ?_)
                  clear hK K
                  try simp only [List.getElem_toArray, List.getElem_cons_succ, List.getElem_cons_zero, Act.put, List.setIfInBounds_toArray, List.set_cons_zero, List.set_cons_succ]
                  refine wpAnyH_ready (rs := [20]) (by kernel_rfl) (by simp) (AllReadyH.cons (by simp only [List.getElem?_toArray, List.getElem?_cons_succ, List.getElem?_cons_zero]; rfl) (fun K hK => ?_) AllReadyH.nil)
                  refine step_want (by rfl) ?_
                  refine wp_store_row 45 (.tmp 8) _ rfl b8 PA rfl rfl _ _ g8 (by rw [info_pr, sA]) (by rw [z1.out, sA]) oA ?_
                  have HX : Below wr.heap.size wr (x6.setRow b8 PA) := below_setRow HX hle8 PA
                  have g9 : (x6.setRow b8 PA).heap[b9]? = _ := (setRow_other x6 b8 b9 PA hne).trans g9
                  have g8 := heap_setRow_same (ds := PA) g8
                  generalize x6.setRow b8 PA = x7 at *
                  refine hK.out _ _ HX (fun _ => ?_)
                  clear hK K
                  try simp only [List.getElem_toArray, List.getElem_cons_succ, List.getElem_cons_zero, Act.put, List.setIfInBounds_toArray, List.set_cons_zero, List.set_cons_succ]
                  refine wpAnyH_ready (rs := [21]) (by kernel_rfl) (by simp) (AllReadyH.cons (by simp only [List.getElem?_toArray, List.getElem?_cons_succ, List.getElem?_cons_zero]; rfl) (fun K hK => ?_) AllReadyH.nil)
                  refine step_want (by rfl) ?_
                  refine wp_store_row 45 (.tmp 9) _ rfl b9 PB rfl rfl _ _ g9 (by rw [info_pr, sB]) (by rw [z1.out, sB]) oB ?_
                  have HX : Below wr.heap.size wr (x7.setRow b9 PB) := below_setRow HX hle9 PB
                  have g8 : (x7.setRow b9 PB).heap[b8]? = _ := (setRow_other x7 b9 b8 PB (Ne.symm hne)).trans g8
                  have g9 := heap_setRow_same (ds := PB) g9
                  generalize x7.setRow b9 PB = x8 at *
                  refine hK.out _ _ HX (fun _ => ?_)
                  clear hK K
                  try simp only [List.getElem_toArray, List.getElem_cons_succ, List.getElem_cons_zero, Act.put, List.setIfInBounds_toArray, List.set_cons_zero, List.set_cons_succ]
                  refine wpAnyH_done (by kernel_rfl) ?_ _
                  go_wp2_with fail
                  go_meet
                  exact ⟨rfl, b8, b9, rfl, rfl, g8, g9, HX⟩
                · refine step_want (by rfl) ?_
                  obtain ⟨x5, hw, bc, g8⟩ := HPB.out x4
                  go_simp
                  have hle8 : wr.heap.size ≤ x4.heap.size := HX.size
                  have hne : b9 ≠ x4.heap.size := Nat.ne_of_lt (Array.getElem?_eq_some_iff.1 g9).1
                  have HX : Below wr.heap.size wr x5 := HX.trans (bc.mono HX.size)
                  have g9 := (bc.block _ (Array.getElem?_eq_some_iff.1 g9).1).trans g9
                  clear hw bc
                  generalize x4.heap.size = b8 at *
                  refine hK.out _ _ HX (fun _ => ?_)
                  clear hK K
                  try simp only [List.getElem_toArray, List.getElem_cons_succ, List.getElem_cons_zero, Act.put, List.setIfInBounds_toArray, List.set_cons_zero, List.set_cons_succ]
                  refine wpAnyH_ready (rs := [16]) (by kernel_rfl) (by simp) (AllReadyH.cons (by simp only [List.getElem?_toArray, List.getElem?_cons_succ, List.getElem?_cons_zero]; rfl) (fun K hK => ?_) AllReadyH.nil)
                  refine step_want (by rfl) ?_
                  go_simp
                  refine (H4.out _ HX).mono ?_
                  rintro e x6 ⟨rfl, bc⟩
                  have HX : Below wr.heap.size wr x6 := HX.trans (bc.mono HX.size)
                  have g9 := (bc.block _ (Array.getElem?_eq_some_iff.1 g9).1).trans g9
                  have g8 := (bc.block _ (Array.getElem?_eq_some_iff.1 g8).1).trans g8
                  clear bc
                  refine hK.out _ _ HX (fun _ => ?_)
                  clear hK K
                  try simp only [List.getElem_toArray, List.getElem_cons_succ, List.getElem_cons_zero, Act.put, List.setIfInBounds_toArray, List.set_cons_zero, List.set_cons_succ]
                  refine wpAnyH_take (i := 17) (v := .agg PB) rfl (by kernel_rfl) (by kernel_rfl) (by kernel_rfl) (fun _ _ _ h => h) (yields_build2 (by rfl) _ (.tmp 36) (.tmp 40) rfl (.agg Y0) (.agg Y1) rfl rfl PB hbB) HX ?_
                  simp only [List.getElem_toArray, List.getElem_cons_succ, List.getElem_cons_zero, Act.put, List.setIfInBounds_toArray, List.set_cons_zero, List.set_cons_succ]
                  refine wpAnyH_ready (rs := [20]) (by kernel_rfl) (by simp) (AllReadyH.cons (by simp only [List.getElem?_toArray, List.getElem?_cons_succ, List.getElem?_cons_zero]; rfl) (fun K hK => ?_) AllReadyH.nil)
                  refine step_want (by rfl) ?_
                  refine wp_store_row 45 (.tmp 8) _ rfl b8 PA rfl rfl _ _ g8 (by rw [info_pr, sA]) (by rw [z1.out, sA]) oA ?_
                  have HX : Below wr.heap.size wr (x6.setRow b8 PA) := below_setRow HX hle8 PA
                  have g9 : (x6.setRow b8 PA).heap[b9]? = _ := (setRow_other x6 b8 b9 PA hne).trans g9
                  have g8 := heap_setRow_same (ds := PA) g8
                  generalize x6.setRow b8 PA = x7 at *
                  refine hK.out _ _ HX (fun _ => ?_)
                  clear hK K
                  try simp only [List.getElem_toArray, List.getElem_cons_succ, List.getElem_cons_zero, Act.put, List.setIfInBounds_toArray, List.set_cons_zero, List.set_cons_succ]
                  refine wpAnyH_ready (rs := [21]) (by kernel_rfl) (by simp) (AllReadyH.cons (by simp only [List.getElem?_toArray, List.getElem?_cons_succ, List.getElem?_cons_zero]; rfl) (fun K hK => ?_) AllReadyH.nil)
                  refine step_want (by rfl) ?_
                  refine wp_store_row 45 (.tmp 9) _ rfl b9 PB rfl rfl _ _ g9 (by rw [info_pr, sB]) (by rw [z1.out, sB]) oB ?_
                  have HX : Below wr.heap.size wr (x7.setRow b9 PB) := below_setRow HX hle9 PB
                  have g8 : (x7.setRow b9 PB).heap[b8]? = _ := (setRow_other x7 b9 b8 PB (Ne.symm hne)).trans g8
                  have g9 := heap_setRow_same (ds := PB) g9
                  generalize x7.setRow b9 PB = x8 at *
                  refine hK.out _ _ HX (fun _ => ?_)
                  clear hK K
                  try simp only [List.getElem_toArray, List.getElem_cons_succ, List.getElem_cons_zero, Act.put, List.setIfInBounds_toArray, List.set_cons_zero, List.set_cons_succ]
                  refine wpAnyH_done (by kernel_rfl) ?_ _
                  go_wp2_with fail
                  go_meet
                  exact ⟨rfl, b8, b9, rfl, rfl, g8, g9, HX⟩
            · refine step_want (by rfl) ?_
              obtain ⟨x3, hw, bc, g8⟩ := HPB.out x2
              go_simp
              have hle8 : wr.heap.size ≤ x2.heap.size := HX.size
              have HX : Below wr.heap.size wr x3 := HX.trans (bc.mono HX.size)
              clear hw bc
              generalize x2.heap.size = b8 at *
              refine hK.out _ _ HX (fun _ => ?_)
              clear hK K
              try simp only [List.getElem_toArray, List.getElem_cons_succ, List.getElem_cons_zero, Act.put, List.setIfInBounds_toArray, List.set_cons_zero, List.set_cons_succ]
              refine wpAnyH_ready (rs := [12, 19]) (by kernel_rfl) (by simp) (AllReadyH.cons (by simp only [List.getElem?_toArray, List.getElem?_cons_succ, List.getElem?_cons_zero]; rfl) (fun K hK => ?_) (AllReadyH.cons (by simp only [List.getElem?_toArray, List.getElem?_cons_succ, List.getElem?_cons_zero]; rfl) (fun K hK => ?_) AllReadyH.nil))
              · refine step_want (by rfl) ?_
                go_simp
                refine (H3.out _ HX).mono ?_
                rintro e x4 ⟨rfl, bc⟩
                have HX : Below wr.heap.size wr x4 := HX.trans (bc.mono HX.size)
                have g8 := (bc.block _ (Array.getElem?_eq_some_iff.1 g8).1).trans g8
                clear bc
                refine hK.out _ _ HX (fun _ => ?_)
                clear hK K
                try simp only [List.getElem_toArray, List.getElem_cons_succ, List.getElem_cons_zero, Act.put, List.setIfInBounds_toArray, List.set_cons_zero, List.set_cons_succ]
                refine wpAnyH_ready (rs := [16, 19]) (by kernel_rfl) (by simp) (AllReadyH.cons (by simp only [List.getElem?_toArray, List.getElem?_cons_succ, List.getElem?_cons_zero]; rfl) (fun K hK => ?_) (AllReadyH.cons (by simp only [List.getElem?_toArray, List.getElem?_cons_succ, List.getElem?_cons_zero]; rfl) (fun K hK => ?_) AllReadyH.nil))
                · refine step_want (by rfl) ?_
                  go_simp
                  refine (H4.out _ HX).mono ?_
                  rintro e x5 ⟨rfl, bc⟩
                  have HX : Below wr.heap.size wr x5 := HX.trans (bc.mono HX.size)
                  have g8 := (bc.block _ (Array.getElem?_eq_some_iff.1 g8).1).trans g8
                  clear bc
                  refine hK.out _ _ HX (fun _ => ?_)
                  clear hK K
                  try simp only [List.getElem_toArray, List.getElem_cons_succ, List.getElem_cons_zero, Act.put, List.setIfInBounds_toArray, List.set_cons_zero, List.set_cons_succ]
                  refine wpAnyH_take (i := 17) (v := .agg PB) rfl (by kernel_rfl) (by kernel_rfl) (by kernel_rfl) (fun _ _ _ h => h) (yields_build2 (by rfl) _ (.tmp 36) (.tmp 40) rfl (.agg Y0) (.agg Y1) rfl rfl PB hbB) HX ?_
                  simp only [List.getElem_toArray, List.getElem_cons_succ, List.getElem_cons_zero, Act.put, List.setIfInBounds_toArray, List.set_cons_zero, List.set_cons_succ]
                  refine wpAnyH_ready (rs := [19]) (by kernel_rfl) (by simp) (AllReadyH.cons (by simp only [List.getElem?_toArray, List.getElem?_cons_succ, List.getElem?_cons_zero]; rfl) (fun K hK => ?_) AllReadyH.nil)
                  refine step_want (by rfl) ?_
                  obtain ⟨x6, hw, bc, g9⟩ := HPB.out x5
                  go_simp
                  have hle9 : wr.heap.size ≤ x5.heap.size := HX.size
                  have hne : b8 ≠ x5.heap.size := Nat.ne_of_lt (Array.getElem?_eq_some_iff.1 g8).1
                  have HX : Below wr.heap.size wr x6 := HX.trans (bc.mono HX.size)
                  have g8 := (bc.block _ (Array.getElem?_eq_some_iff.1 g8).1).trans g8
                  clear hw bc
                  generalize x5.heap.size = b9 at *
                  refine hK.out _ _ HX (fun _ => ?_)
                  clear hK K
                  try simp only [List.getElem_toArray, List.getElem_cons_succ, List.getElem_cons_zero, Act.put, List.setIfInBounds_toArray, List.set_cons_zero, List.set_cons_succ]
                  refine wpAnyH_ready (rs := [20]) (by kernel_rfl) (by simp) (AllReadyH.cons (by simp only [List.getElem?_toArray, List.getElem?_cons_succ, List.getElem?_cons_zero]; rfl) (fun K hK => ?_) AllReadyH.nil)
                  refine step_want (by rfl) ?_
                  refine wp_store_row 45 (.tmp 8) _ rfl b8 PA rfl rfl _ _ g8 (by rw [info_pr, sA]) (by rw [z1.out, sA]) oA ?_
                  have HX : Below wr.heap.size wr (x6.setRow b8 PA) := below_setRow HX hle8 PA
                  have g9 : (x6.setRow b8 PA).heap[b9]? = _ := (setRow_other x6 b8 b9 PA (Ne.symm hne)).trans g9
                  have g8 := heap_setRow_same (ds := PA) g8
                  generalize x6.setRow b8 PA = x7 at *
                  refine hK.out _ _ HX (fun _ => ?_)
                  clear hK K
                  try simp only [List.getElem_toArray, List.getElem_cons_succ, List.getElem_cons_zero, Act.put, List.setIfInBounds_toArray, List.set_cons_zero, List.set_cons_succ]
                  refine wpAnyH_ready (rs := [21]) (by kernel_rfl) (by simp) (AllReadyH.cons (by simp only [List.getElem?_toArray, List.getElem?_cons_succ, List.getElem?_cons_zero]; rfl) (fun K hK => ?_) AllReadyH.nil)
                  refine step_want (by rfl) ?_
                  refine wp_store_row 45 (.tmp 9) _ rfl b9 PB rfl rfl _ _ g9 (by rw [info_pr, sB]) (by rw [z1.out, sB]) oB ?_
                  have HX : Below wr.heap.size wr (x7.setRow b9 PB) := below_setRow HX hle9 PB
                  have g8 : (x7.setRow b9 PB).heap[b8]? = _ := (setRow_other x7 b9 b8 PB hne).trans g8
                  have g9 := heap_setRow_same (ds := PB) g9
                  generalize x7.setRow b9 PB = x8 at *
                  refine hK.out _ _ HX (fun _ => ?_)
                  clear hK K
                  try simp only [List.getElem_toArray, List.getElem_cons_succ, List.getElem_cons_zero, Act.put, List.setIfInBounds_toArray, List.set_cons_zero, List.set_cons_succ]
                  refine wpAnyH_done (by kernel_rfl) ?_ _
                  go_wp2_with fail
                  go_meet
                  exact ⟨rfl, b8, b9, rfl, rfl, g8, g9, HX⟩
                · refine step_want (by rfl) ?_
                  obtain ⟨x5, hw, bc, g9⟩ := HPB.out x4
                  go_simp
                  have hle9 : wr.heap.size ≤ x4.heap.size := HX.size
                  have hne : b8 ≠ x4.heap.size := Nat.ne_of_lt (Array.getElem?_eq_some_iff.1 g8).1
                  have HX : Below wr.heap.size wr x5 := HX.trans (bc.mono HX.size)
                  have g8 := (bc.block _ (Array.getElem?_eq_some_iff.1 g8).1).trans g8
                  clear hw bc
                  generalize x4.heap.size = b9 at *
                  refine hK.out _ _ HX (fun _ => ?_)
                  clear hK K
                  try simp only [List.getElem_toArray, List.getElem_cons_succ, List.getElem_cons_zero, Act.put, List.setIfInBounds_toArray, List.set_cons_zero, List.set_cons_succ]
                  refine wpAnyH_ready (rs := [16]) (by kernel_rfl) (by simp) (AllReadyH.cons (by simp only [List.getElem?_toArray, List.getElem?_cons_succ, List.getElem?_cons_zero]; rfl) (fun K hK => ?_) AllReadyH.nil)
                  refine step_want (by rfl) ?_
                  go_simp
                  refine (H4.out _ HX).mono ?_
                  rintro e x6 ⟨rfl, bc⟩
                  have HX : Below wr.heap.size wr x6 := HX.trans (bc.mono HX.size)
                  have g8 := (bc.block _ (Array.getElem?_eq_some_iff.1 g8).1).trans g8
                  have g9 := (bc.block _ (Array.getElem?_eq_some_iff.1 g9).1).trans g9
                  clear bc
                  refine hK.out _ _ HX (fun _ => ?_)
                  clear hK K
                  try simp only [List.getElem_toArray, List.getElem_cons_succ, List.getElem_cons_zero, Act.put, List.setIfInBounds_toArray, List.set_cons_zero, List.set_cons_succ]
                  refine wpAnyH_take (i := 17) (v := .agg PB) rfl (by kernel_rfl) (by kernel_rfl) (by kernel_rfl) (fun _ _ _ h => h) (yields_build2 (by rfl) _ (.tmp 36) (.tmp 40) rfl (.agg Y0) (.agg Y1) rfl rfl PB hbB) HX ?_
                  simp only [List.getElem_toArray, List.getElem_cons_succ, List.getElem_cons_zero, Act.put, List.setIfInBounds_toArray, List.set_cons_zero, List.set_cons_succ]
                  refine wpAnyH_ready (rs := [20]) (by kernel_rfl) (by simp) (AllReadyH.cons (by simp only [List.getElem?_toArray, List.getElem?_cons_succ, List.getElem?_cons_zero]; rfl) (fun K hK => ?_) AllReadyH.nil)
                  refine step_want (by rfl) ?_
                  refine wp_store_row 45 (.tmp 8) _ rfl b8 PA rfl rfl _ _ g8 (by rw [info_pr, sA]) (by rw [z1.out, sA]) oA ?_
                  have HX : Below wr.heap.size wr (x6.setRow b8 PA) := below_setRow HX hle8 PA
                  have g9 : (x6.setRow b8 PA).heap[b9]? = _ := (setRow_other x6 b8 b9 PA (Ne.symm hne)).trans g9
                  have g8 := heap_setRow_same (ds := PA) g8
                  generalize x6.setRow b8 PA = x7 at *
                  refine hK.out _ _ HX (fun _ => ?_)
                  clear hK K
                  try simp only [List.getElem_toArray, List.getElem_cons_succ, List.getElem_cons_zero, Act.put, List.setIfInBounds_toArray, List.set_cons_zero, List.set_cons_succ]
                  refine wpAnyH_ready (rs := [21]) (by kernel_rfl) (by simp) (AllReadyH.cons (by simp only [List.getElem?_toArray, List.getElem?_cons_succ, List.getElem?_cons_zero]; rfl) (fun K hK => ?_) AllReadyH.nil)
                  refine step_want (by rfl) ?_
                  refine wp_store_row 45 (.tmp 9) _ rfl b9 PB rfl rfl _ _ g9 (by rw [info_pr, sB]) (by rw [z1.out, sB]) oB ?_
                  have HX : Below wr.heap.size wr (x7.setRow b9 PB) := below_setRow HX hle9 PB
                  have g8 : (x7.setRow b9 PB).heap[b8]? = _ := (setRow_other x7 b9 b8 PB hne).trans g8
                  have g9 := heap_setRow_same (ds := PB) g9
                  generalize x7.setRow b9 PB = x8 at *
                  refine hK.out _ _ HX (fun _ => ?_)
                  clear hK K
                  try simp only [List.getElem_toArray, List.getElem_cons_succ, List.getElem_cons_zero, Act.put, List.setIfInBounds_toArray, List.set_cons_zero, List.set_cons_succ]
                  refine wpAnyH_done (by kernel_rfl) ?_ _
                  go_wp2_with fail
                  go_meet
                  exact ⟨rfl, b8, b9, rfl, rfl, g8, g9, HX⟩
              · refine step_want (by rfl) ?_
                obtain ⟨x4, hw, bc, g9⟩ := HPB.out x3
                go_simp
                have hle9 : wr.heap.size ≤ x3.heap.size := HX.size
                have hne : b8 ≠ x3.heap.size := Nat.ne_of_lt (Array.getElem?_eq_some_iff.1 g8).1
                have HX : Below wr.heap.size wr x4 := HX.trans (bc.mono HX.size)
                have g8 := (bc.block _ (Array.getElem?_eq_some_iff.1 g8).1).trans g8
                clear hw bc
                generalize x3.heap.size = b9 at *
                refine hK.out _ _ HX (fun _ => ?_)
                clear hK K
                try simp only [List.getElem_toArray, List.getElem_cons_succ, List.getElem_cons_zero, Act.put, List.setIfInBounds_toArray, List.set_cons_zero, List.set_cons_succ]
                refine wpAnyH_ready (rs := [12]) (by kernel_rfl) (by simp) (AllReadyH.cons (by simp only [List.getElem?_toArray, List.getElem?_cons_succ, List.getElem?_cons_zero]; rfl) (fun K hK => ?_) AllReadyH.nil)
                refine step_want (by rfl) ?_
                go_simp
                refine (H3.out _ HX).mono ?_
                rintro e x5 ⟨rfl, bc⟩
                have HX : Below wr.heap.size wr x5 := HX.trans (bc.mono HX.size)
                have g8 := (bc.block _ (Array.getElem?_eq_some_iff.1 g8).1).trans g8
                have g9 := (bc.block _ (Array.getElem?_eq_some_iff.1 g9).1).trans g9
                clear bc
                refine hK.out _ _ HX (fun _ => ?_)
                clear hK K
                try simp only [List.getElem_toArray, List.getElem_cons_succ, List.getElem_cons_zero, Act.put, List.setIfInBounds_toArray, List.set_cons_zero, List.set_cons_succ]
                refine wpAnyH_ready (rs := [16]) (by kernel_rfl) (by simp) (AllReadyH.cons (by simp only [List.getElem?_toArray, List.getElem?_cons_succ, List.getElem?_cons_zero]; rfl) (fun K hK => ?_) AllReadyH.nil)
                refine step_want (by rfl) ?_
                go_simp
                refine (H4.out _ HX).mono ?_
                rintro e x6 ⟨rfl, bc⟩
                have HX : Below wr.heap.size wr x6 := HX.trans (bc.mono HX.size)
                have g8 := (bc.block _ (Array.getElem?_eq_some_iff.1 g8).1).trans g8
                have g9 := (bc.block _ (Array.getElem?_eq_some_iff.1 g9).1).trans g9
                clear bc
                refine hK.out _ _ HX (fun _ => ?_)
                clear hK K
                try simp only [List.getElem_toArray, List.getElem_cons_succ, List.getElem_cons_zero, Act.put, List.setIfInBounds_toArray, List.set_cons_zero, List.set_cons_succ]
                refine wpAnyH_take (i := 17) (v := .agg PB) rfl (by kernel_rfl) (by kernel_rfl) (by kernel_rfl) (fun _ _ _ h => h) (yields_build2 (by rfl) _ (.tmp 36) (.tmp 40) rfl (.agg Y0) (.agg Y1) rfl rfl PB hbB) HX ?_
                simp only [List.getElem_toArray, List.getElem_cons_succ, List.getElem_cons_zero, Act.put, List.setIfInBounds_toArray, List.set_cons_zero, List.set_cons_succ]
                refine wpAnyH_ready (rs := [20]) (by kernel_rfl) (by simp) (AllReadyH.cons (by simp only [List.getElem?_toArray, List.getElem?_cons_succ, List.getElem?_cons_zero]; rfl) (fun K hK => ?_) AllReadyH.nil)
                refine step_want (by rfl) ?_
                refine wp_store_row 45 (.tmp 8) _ rfl b8 PA rfl rfl _ _ g8 (by rw [info_pr, sA]) (by rw [z1.out, sA]) oA ?_
                have HX : Below wr.heap.size wr (x6.setRow b8 PA) := below_setRow HX hle8 PA
                have g9 : (x6.setRow b8 PA).heap[b9]? = _ := (setRow_other x6 b8 b9 PA (Ne.symm hne)).trans g9
                have g8 := heap_setRow_same (ds := PA) g8
                generalize x6.setRow b8 PA = x7 at *
                refine hK.out _ _ HX (fun _ => ?_)
                clear hK K
                try simp only [List.getElem_toArray, List.getElem_cons_succ, List.getElem_cons_zero, Act.put, List.setIfInBounds_toArray, List.set_cons_zero, List.set_cons_succ]
                refine wpAnyH_ready (rs := [21]) (by kernel_rfl) (by simp) (AllReadyH.cons (by simp only [List.getElem?_toArray, List.getElem?_cons_succ, List.getElem?_cons_zero]; rfl) (fun K hK => ?_) AllReadyH.nil)
                refine step_want (by rfl) ?_
                refine wp_store_row 45 (.tmp 9) _ rfl b9 PB rfl rfl _ _ g9 (by rw [info_pr, sB]) (by rw [z1.out, sB]) oB ?_
                have HX : Below wr.heap.size wr (x7.setRow b9 PB) := below_setRow HX hle9 PB
                have g8 : (x7.setRow b9 PB).heap[b8]? = _ := (setRow_other x7 b9 b8 PB hne).trans g8
                have g9 := heap_setRow_same (ds := PB) g9
                generalize x7.setRow b9 PB = x8 at *
                refine hK.out _ _ HX (fun _ => ?_)
                clear hK K
                try simp only [List.getElem_toArray, List.getElem_cons_succ, List.getElem_cons_zero, Act.put, List.setIfInBounds_toArray, List.set_cons_zero, List.set_cons_succ]
                refine wpAnyH_done (by kernel_rfl) ?_ _
                go_wp2_with fail
                go_meet
                exact ⟨rfl, b8, b9, rfl, rfl, g8, g9, HX⟩
            · refine step_want (by rfl) ?_
              obtain ⟨x3, hw, bc, g9⟩ := HPB.out x2
              go_simp
              have hle9 : wr.heap.size ≤ x2.heap.size := HX.size
              have HX : Below wr.heap.size wr x3 := HX.trans (bc.mono HX.size)
              clear hw bc
              generalize x2.heap.size = b9 at *
              refine hK.out _ _ HX (fun _ => ?_)
              clear hK K
              try simp only [List.getElem_toArray, List.getElem_cons_succ, List.getElem_cons_zero, Act.put, List.setIfInBounds_toArray, List.set_cons_zero, List.set_cons_succ]
              refine wpAnyH_ready (rs := [12, 18]) (by kernel_rfl) (by simp) (AllReadyH.cons (by simp only [List.getElem?_toArray, List.getElem?_cons_succ, List.getElem?_cons_zero]; rfl) (fun K hK => ?_) (AllReadyH.cons (by simp only [List.getElem?_toArray, List.getElem?_cons_succ, List.getElem?_cons_zero]; rfl) (fun K hK => ?_) AllReadyH.nil))
              · refine step_want (by rfl) ?_
                go_simp
                refine (H3.out _ HX).mono ?_
                rintro e x4 ⟨rfl, bc⟩
                have HX : Below wr.heap.size wr x4 := HX.trans (bc.mono HX.size)
                have g9 := (bc.block _ (Array.getElem?_eq_some_iff.1 g9).1).trans g9
                clear bc
                refine hK.out _ _ HX (fun _ => ?_)
                clear hK K
                try simp only [List.getElem_toArray, List.getElem_cons_succ, List.getElem_cons_zero, Act.put, List.setIfInBounds_toArray, List.set_cons_zero, List.set_cons_succ]
                refine wpAnyH_ready (rs := [16, 18]) (by kernel_rfl) (by simp) (AllReadyH.cons (by simp only [List.getElem?_toArray, List.getElem?_cons_succ, List.getElem?_cons_zero]; rfl) (fun K hK => ?_) (AllReadyH.cons (by simp only [List.getElem?_toArray, List.getElem?_cons_succ, List.getElem?_cons_zero]; rfl) (fun K hK => ?_) AllReadyH.nil))
                · refine step_want (by rfl) ?_
                  go_simp
                  refine (H4.out _ HX).mono ?_
                  rintro e x5 ⟨rfl, bc⟩
                  have HX : Below wr.heap.size wr x5 := HX.trans (bc.mono HX.size)
                  have g9 := (bc.block _ (Array.getElem?_eq_some_iff.1 g9).1).trans g9
                  clear bc
                  refine hK.out _ _ HX (fun _ => ?_)
                  clear hK K
                  try simp only [List.getElem_toArray, List.getElem_cons_succ, List.getElem_cons_zero, Act.put, List.setIfInBounds_toArray, List.set_cons_zero, List.set_cons_succ]
                  refine wpAnyH_take (i := 17) (v := .agg PB) rfl (by kernel_rfl) (by kernel_rfl) (by kernel_rfl) (fun _ _ _ h => h) (yields_build2 (by rfl) _ (.tmp 36) (.tmp 40) rfl (.agg Y0) (.agg Y1) rfl rfl PB hbB) HX ?_
                  simp only [List.getElem_toArray, List.getElem_cons_succ, List.getElem_cons_zero, Act.put, List.setIfInBounds_toArray, List.set_cons_zero, List.set_cons_succ]
                  refine wpAnyH_ready (rs := [18]) (by kernel_rfl) (by simp) (AllReadyH.cons (by simp only [List.getElem?_toArray, List.getElem?_cons_succ, List.getElem?_cons_zero]; rfl) (fun K hK => ?_) AllReadyH.nil)
                  refine step_want (by rfl) ?_
                  obtain ⟨x6, hw, bc, g8⟩ := HPB.out x5
                  go_simp
                  have hle8 : wr.heap.size ≤ x5.heap.size := HX.size
                  have hne : b9 ≠ x5.heap.size := Nat.ne_of_lt (Array.getElem?_eq_some_iff.1 g9).1
                  have HX : Below wr.heap.size wr x6 := HX.trans (bc.mono HX.size)
                  have g9 := (bc.block _ (Array.getElem?_eq_some_iff.1 g9).1).trans g9
                  clear hw bc
                  generalize x5.heap.size = b8 at *
                  refine hK.out _ _ HX (fun _ => ?_)
                  clear hK K
                  try simp only [List.getElem_toArray, List.getElem_cons_succ, List.getElem_cons_zero, Act.put, List.setIfInBounds_toArray, List.set_cons_zero, List.set_cons_succ]
                  refine wpAnyH_ready (rs := [20]) (by kernel_rfl) (by simp) (AllReadyH.cons (by simp only [List.getElem?_toArray, List.getElem?_cons_succ, List.getElem?_cons_zero]; rfl) (fun K hK => ?_) AllReadyH.nil)
                  refine step_want (by rfl) ?_
                  refine wp_store_row 45 (.tmp 8) _ rfl b8 PA rfl rfl _ _ g8 (by rw [info_pr, sA]) (by rw [z1.out, sA]) oA ?_
                  have HX : Below wr.heap.size wr (x6.setRow b8 PA) := below_setRow HX hle8 PA
                  have g9 : (x6.setRow b8 PA).heap[b9]? = _ := (setRow_other x6 b8 b9 PA hne).trans g9
                  have g8 := heap_setRow_same (ds := PA) g8
                  generalize x6.setRow b8 PA = x7 at *
                  refine hK.out _ _ HX (fun _ => ?_)
                  clear hK K
                  try simp only [List.getElem_toArray, List.getElem_cons_succ, List.getElem_cons_zero, Act.put, List.setIfInBounds_toArray, List.set_cons_zero, List.set_cons_succ]
                  refine wpAnyH_ready (rs := [21]) (by kernel_rfl) (by simp) (AllReadyH.cons (by simp only [List.getElem?_toArray, List.getElem?_cons_succ, List.getElem?_cons_zero]; rfl) (fun K hK => ?_) AllReadyH.nil)
                  refine step_want (by rfl) ?_
                  refine wp_store_row 45 (.tmp 9) _ rfl b9 PB rfl rfl _ _ g9 (by rw [info_pr, sB]) (by rw [z1.out, sB]) oB ?_
                  have HX : Below wr.heap.size wr (x7.setRow b9 PB) := below_setRow HX hle9 PB
                  have g8 : (x7.setRow b9 PB).heap[b8]? = _ := (setRow_other x7 b9 b8 PB (Ne.symm hne)).trans g8
                  have g9 := heap_setRow_same (ds := PB) g9
                  generalize x7.setRow b9 PB = x8 at *
                  refine hK.out _ _ HX (fun _ => ?_)
                  clear hK K
                  try simp only [List.getElem_toArray, List.getElem_cons_succ, List.getElem_cons_zero, Act.put, List.setIfInBounds_toArray, List.set_cons_zero, List.set_cons_succ]
                  refine wpAnyH_done (by kernel_rfl) ?_ _
                  go_wp2_with fail
                  go_meet
                  exact ⟨rfl, b8, b9, rfl, rfl, g8, g9, HX⟩
                · refine step_want (by rfl) ?_
                  obtain ⟨x5, hw, bc, g8⟩ := HPB.out x4
                  go_simp
                  have hle8 : wr.heap.size ≤ x4.heap.size := HX.size
                  have hne : b9 ≠ x4.heap.size := Nat.ne_of_lt (Array.getElem?_eq_some_iff.1 g9).1
                  have HX : Below wr.heap.size wr x5 := HX.trans (bc.mono HX.size)
                  have g9 := (bc.block _ (Array.getElem?_eq_some_iff.1 g9).1).trans g9
                  clear hw bc
                  generalize x4.heap.size = b8 at *
                  refine hK.out _ _ HX (fun _ => ?_)
                  clear hK K
                  try simp only [List.getElem_toArray, List.getElem_cons_succ, List.getElem_cons_zero, Act.put, List.setIfInBounds_toArray, List.set_cons_zero, List.set_cons_succ]
                  refine wpAnyH_ready (rs := [16]) (by kernel_rfl) (by simp) (AllReadyH.cons (by simp only [List.getElem?_toArray, List.getElem?_cons_succ, List.getElem?_cons_zero]; rfl) (fun K hK => ?_) AllReadyH.nil)
                  refine step_want (by rfl) ?_
                  go_simp
                  refine (H4.out _ HX).mono ?_
                  rintro e x6 ⟨rfl, bc⟩
                  have HX : Below wr.heap.size wr x6 := HX.trans (bc.mono HX.size)
                  have g9 := (bc.block _ (Array.getElem?_eq_some_iff.1 g9).1).trans g9
                  have g8 := (bc.block _ (Array.getElem?_eq_some_iff.1 g8).1).trans g8
                  clear bc
                  refine hK.out _ _ HX (fun _ => ?_)
                  clear hK K
                  try simp only [List.getElem_toArray, List.getElem_cons_succ, List.getElem_cons_zero, Act.put, List.setIfInBounds_toArray, List.set_cons_zero, List.set_cons_succ]
                  refine wpAnyH_take (i := 17) (v := .agg PB) rfl (by kernel_rfl) (by kernel_rfl) (by kernel_rfl) (fun _ _ _ h => h) (yields_build2 (by rfl) _ (.tmp 36) (.tmp 40) rfl (.agg Y0) (.agg Y1) rfl rfl PB hbB) HX ?_
                  simp only [List.getElem_toArray, List.getElem_cons_succ, List.getElem_cons_zero, Act.put, List.setIfInBounds_toArray, List.set_cons_zero, List.set_cons_succ]
                  refine wpAnyH_ready (rs := [20]) (by kernel_rfl) (by simp) (AllReadyH.cons (by simp only [List.getElem?_toArray, List.getElem?_cons_succ, List.getElem?_cons_zero]; rfl) (fun K hK => ?_) AllReadyH.nil)
                  refine step_want (by rfl) ?_
                  refine wp_store_row 45 (.tmp 8) _ rfl b8 PA rfl rfl _ _ g8 (by rw [info_pr, sA]) (by rw [z1.out, sA]) oA ?_
                  have HX : Below wr.heap.size wr (x6.setRow b8 PA) := below_setRow HX hle8 PA
                  have g9 : (x6.setRow b8 PA).heap[b9]? = _ := (setRow_other x6 b8 b9 PA hne).trans g9
                  have g8 := heap_setRow_same (ds := PA) g8
                  generalize x6.setRow b8 PA = x7 at *
                  refine hK.out _ _ HX (fun _ => ?_)
                  clear hK K
                  try simp only [List.getElem_toArray, List.getElem_cons_succ, List.getElem_cons_zero, Act.put, List.setIfInBounds_toArray, List.set_cons_zero, List.set_cons_succ]
                  refine wpAnyH_ready (rs := [21]) (by kernel_rfl) (by simp) (AllReadyH.cons (by simp only [List.getElem?_toArray, List.getElem?_cons_succ, List.getElem?_cons_zero]; rfl) (fun K hK => ?_) AllReadyH.nil)
                  refine step_want (by rfl) ?_
                  refine wp_store_row 45 (.tmp 9) _ rfl b9 PB rfl rfl _ _ g9 (by rw [info_pr, sB]) (by rw [z1.out, sB]) oB ?_
                  have HX : Below wr.heap.size wr (x7.setRow b9 PB) := below_setRow HX hle9 PB
                  have g8 : (x7.setRow b9 PB).heap[b8]? = _ := (setRow_other x7 b9 b8 PB (Ne.symm hne)).trans g8
                  have g9 := heap_setRow_same (ds := PB) g9
                  generalize x7.setRow b9 PB = x8 at *
                  refine hK.out _ _ HX (fun _ => ?_)
                  clear hK K
                  try simp only [List.getElem_toArray, List.getElem_cons_succ, List.getElem_cons_zero, Act.put, List.setIfInBounds_toArray, List.set_cons_zero, List.set_cons_succ]
                  refine wpAnyH_done (by kernel_rfl) ?_ _
                  go_wp2_with fail
                  go_meet
                  exact ⟨rfl, b8, b9, rfl, rfl, g8, g9, HX⟩
              · refine step_want (by rfl) ?_
                obtain ⟨x4, hw, bc, g8⟩ := HPB.out x3
                go_simp
                have hle8 : wr.heap.size ≤ x3.heap.size := HX.size
                have hne : b9 ≠ x3.heap.size := Nat.ne_of_lt (Array.getElem?_eq_some_iff.1 g9).1
                have HX : Below wr.heap.size wr x4 := HX.trans (bc.mono HX.size)
                have g9 := (bc.block _ (Array.getElem?_eq_some_iff.1 g9).1).trans g9
                clear hw bc
                generalize x3.heap.size = b8 at *
                refine hK.out _ _ HX (fun _ => ?_)
                clear hK K
                try simp only [List.getElem_toArray, List.getElem_cons_succ, List.getElem_cons_zero, Act.put, List.setIfInBounds_toArray, List.set_cons_zero, List.set_cons_succ]
                refine wpAnyH_ready (rs := [12]) (by kernel_rfl) (by simp) (AllReadyH.cons (by simp only [List.getElem?_toArray, List.getElem?_cons_succ, List.getElem?_cons_zero]; rfl) (fun K hK => ?_) AllReadyH.nil)
                refine step_want (by rfl) ?_
                go_simp
                refine (H3.out _ HX).mono ?_
                rintro e x5 ⟨rfl, bc⟩
                have HX : Below wr.heap.size wr x5 := HX.trans (bc.mono HX.size)
                have g9 := (bc.block _ (Array.getElem?_eq_some_iff.1 g9).1).trans g9
                have g8 := (bc.block _ (Array.getElem?_eq_some_iff.1 g8).1).trans g8
                clear bc
                refine hK.out _ _ HX (fun _ => ?_)
                clear hK K
                try simp only [List.getElem_toArray, List.getElem_cons_succ, List.getElem_cons_zero, Act.put, List.setIfInBounds_toArray, List.set_cons_zero, List.set_cons_succ]
                refine wpAnyH_ready (rs := [16]) (by kernel_rfl) (by simp) (AllReadyH.cons (by simp only [List.getElem?_toArray, List.getElem?_cons_succ, List.getElem?_cons_zero]; rfl) (fun K hK => ?_) AllReadyH.nil)
                refine step_want (by rfl) ?_
                go_simp
                refine (H4.out _ HX).mono ?_
                rintro e x6 ⟨rfl, bc⟩
                have HX : Below wr.heap.size wr x6 := HX.trans (bc.mono HX.size)
                have g9 := (bc.block _ (Array.getElem?_eq_some_iff.1 g9).1).trans g9
                have g8 := (bc.block _ (Array.getElem?_eq_some_iff.1 g8).1).trans g8
                clear bc
                refine hK.out _ _ HX (fun _ => ?_)
                clear hK K
                try simp only [List.getElem_toArray, List.getElem_cons_succ, List.getElem_cons_zero, Act.put, List.setIfInBounds_toArray, List.set_cons_zero, List.set_cons_succ]
                refine wpAnyH_take (i := 17) (v := .agg PB) rfl (by kernel_rfl) (by kernel_rfl) (by kernel_rfl) (fun _ _ _ h => h) (yields_build2 (by rfl) _ (.tmp 36) (.tmp 40) rfl (.agg Y0) (.agg Y1) rfl rfl PB hbB) HX ?_
                simp only [List.getElem_toArray, List.getElem_cons_succ, List.getElem_cons_zero, Act.put, List.setIfInBounds_toArray, List.set_cons_zero, List.set_cons_succ]
                refine wpAnyH_ready (rs := [20]) (by kernel_rfl) (by simp) (AllReadyH.cons (by simp only [List.getElem?_toArray, List.getElem?_cons_succ, List.getElem?_cons_zero]; rfl) (fun K hK => ?_) AllReadyH.nil)
                refine step_want (by rfl) ?_
                refine wp_store_row 45 (.tmp 8) _ rfl b8 PA rfl rfl _ _ g8 (by rw [info_pr, sA]) (by rw [z1.out, sA]) oA ?_
                have HX : Below wr.heap.size wr (x6.setRow b8 PA) := below_setRow HX hle8 PA
                have g9 : (x6.setRow b8 PA).heap[b9]? = _ := (setRow_other x6 b8 b9 PA hne).trans g9
                have g8 := heap_setRow_same (ds := PA) g8
                generalize x6.setRow b8 PA = x7 at *
                refine hK.out _ _ HX (fun _ => ?_)
                clear hK K
                try simp only [List.getElem_toArray, List.getElem_cons_succ, List.getElem_cons_zero, Act.put, List.setIfInBounds_toArray, List.set_cons_zero, List.set_cons_succ]
                refine wpAnyH_ready (rs := [21]) (by kernel_rfl) (by simp) (AllReadyH.cons (by simp only [List.getElem?_toArray, List.getElem?_cons_succ, List.getElem?_cons_zero]; rfl) (fun K hK => ?_) AllReadyH.nil)
                refine step_want (by rfl) ?_
                refine wp_store_row 45 (.tmp 9) _ rfl b9 PB rfl rfl _ _ g9 (by rw [info_pr, sB]) (by rw [z1.out, sB]) oB ?_
                have HX : Below wr.heap.size wr (x7.setRow b9 PB) := below_setRow HX hle9 PB
                have g8 : (x7.setRow b9 PB).heap[b8]? = _ := (setRow_other x7 b9 b8 PB (Ne.symm hne)).trans g8
                have g9 := heap_setRow_same (ds := PB) g9
                generalize x7.setRow b9 PB = x8 at *
                refine hK.out _ _ HX (fun _ => ?_)
                clear hK K
                try simp only [List.getElem_toArray, List.getElem_cons_succ, List.getElem_cons_zero, Act.put, List.setIfInBounds_toArray, List.set_cons_zero, List.set_cons_succ]
                refine wpAnyH_done (by kernel_rfl) ?_ _
                go_wp2_with fail
                go_meet
                exact ⟨rfl, b8, b9, rfl, rfl, g8, g9, HX⟩
          · refine step_want (by rfl) ?_
            obtain ⟨x2, hw, bc, g8⟩ := HPB.out x1
            go_simp
            have hle8 : wr.heap.size ≤ x1.heap.size := HX.size
            have HX : Below wr.heap.size wr x2 := HX.trans (bc.mono HX.size)
            clear hw bc
            generalize x1.heap.size = b8 at *
            refine hK.out _ _ HX (fun _ => ?_)
            clear hK K
            try simp only [List.getElem_toArray, List.getElem_cons_succ, List.getElem_cons_zero, Act.put, List.setIfInBounds_toArray, List.set_cons_zero, List.set_cons_succ]
            refine wpAnyH_ready (rs := [7, 19]) (by kernel_rfl) (by simp) (AllReadyH.cons (by simp only [List.getElem?_toArray, List.getElem?_cons_succ, List.getElem?_cons_zero]; rfl) (fun K hK => ?_) (AllReadyH.cons (by simp only [List.getElem?_toArray, List.getElem?_cons_succ, List.getElem?_cons_zero]; rfl) (fun K hK => ?_) AllReadyH.nil))
            · refine step_want (by rfl) ?_
              go_simp
              refine (H2.out _ HX).mono ?_
              rintro e x3 ⟨rfl, bc⟩
              have HX : Below wr.heap.size wr x3 := HX.trans (bc.mono HX.size)
              have g8 := (bc.block _ (Array.getElem?_eq_some_iff.1 g8).1).trans g8
              clear bc
              refine hK.out _ _ HX (fun _ => ?_)
              clear hK K
              try simp only [List.getElem_toArray, List.getElem_cons_succ, List.getElem_cons_zero, Act.put, List.setIfInBounds_toArray, List.set_cons_zero, List.set_cons_succ]
              refine wpAnyH_take (i := 8) (v := .agg PA) rfl (by kernel_rfl) (by kernel_rfl) (by kernel_rfl) (fun _ _ _ h => h) (yields_build2 (by rfl) _ (.tmp 27) (.tmp 31) rfl (.agg X0) (.agg X1) rfl rfl PA hbA) HX ?_
              simp only [List.getElem_toArray, List.getElem_cons_succ, List.getElem_cons_zero, Act.put, List.setIfInBounds_toArray, List.set_cons_zero, List.set_cons_succ]
              refine wpAnyH_ready (rs := [12, 19]) (by kernel_rfl) (by simp) (AllReadyH.cons (by simp only [List.getElem?_toArray, List.getElem?_cons_succ, List.getElem?_cons_zero]; rfl) (fun K hK => ?_) (AllReadyH.cons (by simp only [List.getElem?_toArray, List.getElem?_cons_succ, List.getElem?_cons_zero]; rfl) (fun K hK => ?_) AllReadyH.nil))
              · refine step_want (by rfl) ?_
                go_simp
                refine (H3.out _ HX).mono ?_
                rintro e x4 ⟨rfl, bc⟩
                have HX : Below wr.heap.size wr x4 := HX.trans (bc.mono HX.size)
                have g8 := (bc.block _ (Array.getElem?_eq_some_iff.1 g8).1).trans g8
                clear bc
                refine hK.out _ _ HX (fun _ => ?_)
                clear hK K
                try simp only [List.getElem_toArray, List.getElem_cons_succ, List.getElem_cons_zero, Act.put, List.setIfInBounds_toArray, List.set_cons_zero, List.set_cons_succ]
                refine wpAnyH_ready (rs := [16, 19]) (by kernel_rfl) (by simp) (AllReadyH.cons (by simp only [List.getElem?_toArray, List.getElem?_cons_succ, List.getElem?_cons_zero]; rfl) (fun K hK => ?_) (AllReadyH.cons (by simp only [List.getElem?_toArray, List.getElem?_cons_succ, List.getElem?_cons_zero]; rfl) (fun K hK => ?_) AllReadyH.nil))
                · refine step_want (by rfl) ?_
                  go_simp
                  refine (H4.out _ HX).mono ?_
                  rintro e x5 ⟨rfl, bc⟩
                  have HX : Below wr.heap.size wr x5 := HX.trans (bc.mono HX.size)
                  have g8 := (bc.block _ (Array.getElem?_eq_some_iff.1 g8).1).trans g8
                  clear bc
                  refine hK.out _ _ HX (fun _ => ?_)
                  clear hK K
                  try simp only [List.getElem_toArray, List.getElem_cons_succ, List.getElem_cons_zero, Act.put, List.setIfInBounds_toArray, List.set_cons_zero, List.set_cons_succ]
                  refine wpAnyH_take (i := 17) (v := .agg PB) rfl (by kernel_rfl) (by kernel_rfl) (by kernel_rfl) (fun _ _ _ h => h) (yields_build2 (by rfl) _ (.tmp 36) (.tmp 40) rfl (.agg Y0) (.agg Y1) rfl rfl PB hbB) HX ?_
                  simp only [List.getElem_toArray, List.getElem_cons_succ, List.getElem_cons_zero, Act.put, List.setIfInBounds_toArray, List.set_cons_zero, List.set_cons_succ]
                  refine wpAnyH_ready (rs := [19]) (by kernel_rfl) (by simp) (AllReadyH.cons (by simp only [List.getElem?_toArray, List.getElem?_cons_succ, List.getElem?_cons_zero]; rfl) (fun K hK => ?_) AllReadyH.nil)
                  refine step_want (by rfl) ?_
                  obtain ⟨x6, hw, bc, g9⟩ := HPB.out x5
                  go_simp
                  have hle9 : wr.heap.size ≤ x5.heap.size := HX.size
                  have hne : b8 ≠ x5.heap.size := Nat.ne_of_lt (Array.getElem?_eq_some_iff.1 g8).1
                  have HX : Below wr.heap.size wr x6 := HX.trans (bc.mono HX.size)
                  have g8 := (bc.block _ (Array.getElem?_eq_some_iff.1 g8).1).trans g8
                  clear hw bc
                  generalize x5.heap.size = b9 at *
                  refine hK.out _ _ HX (fun _ => ?_)
                  clear hK K
                  try simp only [List.getElem_toArray, List.getElem_cons_succ, List.getElem_cons_zero, Act.put, List.setIfInBounds_toArray, List.set_cons_zero, List.set_cons_succ]
                  refine wpAnyH_ready (rs := [20]) (by kernel_rfl) (by simp) (AllReadyH.cons (by simp only [List.getElem?_toArray, List.getElem?_cons_succ, List.getElem?_cons_zero]; rfl) (fun K hK => ?_) AllReadyH.nil)
                  refine step_want (by rfl) ?_
                  refine wp_store_row 45 (.tmp 8) _ rfl b8 PA rfl rfl _ _ g8 (by rw [info_pr, sA]) (by rw [z1.out, sA]) oA ?_
                  have HX : Below wr.heap.size wr (x6.setRow b8 PA) := below_setRow HX hle8 PA
                  have g9 : (x6.setRow b8 PA).heap[b9]? = _ := (setRow_other x6 b8 b9 PA (Ne.symm hne)).trans g9
                  have g8 := heap_setRow_same (ds := PA) g8
                  generalize x6.setRow b8 PA = x7 at *
                  refine hK.out _ _ HX (fun _ => ?_)
                  clear hK K
                  try simp only [List.getElem_toArray, List.getElem_cons_succ, List.getElem_cons_zero, Act.put, List.setIfInBounds_toArray, List.set_cons_zero, List.set_cons_succ]
                  refine wpAnyH_ready (rs := [21]) (by kernel_rfl) (by simp) (AllReadyH.cons (by simp only [List.getElem?_toArray, List.getElem?_cons_succ, List.getElem?_cons_zero]; rfl) (fun K hK => ?_) AllReadyH.nil)
                  refine step_want (by rfl) ?_
                  refine wp_store_row 45 (.tmp 9) _ rfl b9 PB rfl rfl _ _ g9 (by rw [info_pr, sB]) (by rw [z1.out, sB]) oB ?_
                  have HX : Below wr.heap.size wr (x7.setRow b9 PB) := below_setRow HX hle9 PB
                  have g8 : (x7.setRow b9 PB).heap[b8]? = _ := (setRow_other x7 b9 b8 PB hne).trans g8
                  have g9 := heap_setRow_same (ds := PB) g9
                  generalize x7.setRow b9 PB = x8 at *
                  refine hK.out _ _ HX (fun _ => ?_)
                  clear hK K
                  try simp only [List.getElem_toArray, List.getElem_cons_succ, List.getElem_cons_zero, Act.put, List.setIfInBounds_toArray, List.set_cons_zero, List.set_cons_succ]
                  refine wpAnyH_done (by kernel_rfl) ?_ _
                  go_wp2_with fail
                  go_meet
                  exact ⟨rfl, b8, b9, rfl, rfl, g8, g9, HX⟩
                · refine step_want (by rfl) ?_
                  obtain ⟨x5, hw, bc, g9⟩ := HPB.out x4
                  go_simp
                  have hle9 : wr.heap.size ≤ x4.heap.size := HX.size
                  have hne : b8 ≠ x4.heap.size := Nat.ne_of_lt (Array.getElem?_eq_some_iff.1 g8).1
                  have HX : Below wr.heap.size wr x5 := HX.trans (bc.mono HX.size)
                  have g8 := (bc.block _ (Array.getElem?_eq_some_iff.1 g8).1).trans g8
                  clear hw bc
                  generalize x4.heap.size = b9 at *
                  refine hK.out _ _ HX (fun _ => ?_)
                  clear hK K
                  try simp only [List.getElem_toArray, List.getElem_cons_succ, List.getElem_cons_zero, Act.put, List.setIfInBounds_toArray, List.set_cons_zero, List.set_cons_succ]
                  refine wpAnyH_ready (rs := [16]) (by kernel_rfl) (by simp) (AllReadyH.cons (by simp only [List.getElem?_toArray, List.getElem?_cons_succ, List.getElem?_cons_zero]; rfl) (fun K hK => ?_) AllReadyH.nil)
                  refine step_want (by rfl) ?_
                  go_simp
                  refine (H4.out _ HX).mono ?_
                  rintro e x6 ⟨rfl, bc⟩
                  have HX : Below wr.heap.size wr x6 := HX.trans (bc.mono HX.size)
                  have g8 := (bc.block _ (Array.getElem?_eq_some_iff.1 g8).1).trans g8
                  have g9 := (bc.block _ (Array.getElem?_eq_some_iff.1 g9).1).trans g9
                  clear bc
                  refine hK.out _ _ HX (fun _ => ?_)
                  clear hK K
                  try simp only [List.getElem_toArray, List.getElem_cons_succ, List.getElem_cons_zero, Act.put, List.setIfInBounds_toArray, List.set_cons_zero, List.set_cons_succ]
                  refine wpAnyH_take (i := 17) (v := .agg PB) rfl (by kernel_rfl) (by kernel_rfl) (by kernel_rfl) (fun _ _ _ h => h) (yields_build2 (by rfl) _ (.tmp 36) (.tmp 40) rfl (.agg Y0) (.agg Y1) rfl rfl PB hbB) HX ?_
                  simp only [List.getElem_toArray, List.getElem_cons_succ, List.getElem_cons_zero, Act.put, List.setIfInBounds_toArray, List.set_cons_zero, List.set_cons_succ]
                  refine wpAnyH_ready (rs := [20]) (by kernel_rfl) (by simp) (AllReadyH.cons (by simp only [List.getElem?_toArray, List.getElem?_cons_succ, List.getElem?_cons_zero]; rfl) (fun K hK => ?_) AllReadyH.nil)
                  refine step_want (by rfl) ?_
                  refine wp_store_row 45 (.tmp 8) _ rfl b8 PA rfl rfl _ _ g8 (by rw [info_pr, sA]) (by rw [z1.out, sA]) oA ?_
                  have HX : Below wr.heap.size wr (x6.setRow b8 PA) := below_setRow HX hle8 PA
                  have g9 : (x6.setRow b8 PA).heap[b9]? = _ := (setRow_other x6 b8 b9 PA (Ne.symm hne)).trans g9
                  have g8 := heap_setRow_same (ds := PA) g8
                  generalize x6.setRow b8 PA = x7 at *
                  refine hK.out _ _ HX (fun _ => ?_)
                  clear hK K
                  try simp only [List.getElem_toArray, List.getElem_cons_succ, List.getElem_cons_zero, Act.put, List.setIfInBounds_toArray, List.set_cons_zero, List.set_cons_succ]
                  refine wpAnyH_ready (rs := [21]) (by kernel_rfl) (by simp) (AllReadyH.cons (by simp only [List.getElem?_toArray, List.getElem?_cons_succ, List.getElem?_cons_zero]; rfl) (fun K hK => ?_) AllReadyH.nil)
                  refine step_want (by rfl) ?_
                  refine wp_store_row 45 (.tmp 9) _ rfl b9 PB rfl rfl _ _ g9 (by rw [info_pr, sB]) (by rw [z1.out, sB]) oB ?_
                  have HX : Below wr.heap.size wr (x7.setRow b9 PB) := below_setRow HX hle9 PB
                  have g8 : (x7.setRow b9 PB).heap[b8]? = _ := (setRow_other x7 b9 b8 PB hne).trans g8
                  have g9 := heap_setRow_same (ds := PB) g9
                  generalize x7.setRow b9 PB = x8 at *
                  refine hK.out _ _ HX (fun _ => ?_)
                  clear hK K
                  try simp only [List.getElem_toArray, List.getElem_cons_succ, List.getElem_cons_zero, Act.put, List.setIfInBounds_toArray, List.set_cons_zero, List.set_cons_succ]
                  refine wpAnyH_done (by kernel_rfl) ?_ _
                  go_wp2_with fail
                  go_meet
                  exact ⟨rfl, b8, b9, rfl, rfl, g8, g9, HX⟩
              · refine step_want (by rfl) ?_
                obtain ⟨x4, hw, bc, g9⟩ := HPB.out x3
                go_simp
                have hle9 : wr.heap.size ≤ x3.heap.size := HX.size
                have hne : b8 ≠ x3.heap.size := Nat.ne_of_lt (Array.getElem?_eq_some_iff.1 g8).1
                have HX : Below wr.heap.size wr x4 := HX.trans (bc.mono HX.size)
                have g8 := (bc.block _ (Array.getElem?_eq_some_iff.1 g8).1).trans g8
                clear hw bc
                generalize x3.heap.size = b9 at *
                refine hK.out _ _ HX (fun _ => ?_)
                clear hK K
                try simp only [List.getElem_toArray, List.getElem_cons_succ, List.getElem_cons_zero, Act.put, List.setIfInBounds_toArray, List.set_cons_zero, List.set_cons_succ]
                refine wpAnyH_ready (rs := [12]) (by kernel_rfl) (by simp) (AllReadyH.cons (by simp only [List.getElem?_toArray, List.getElem?_cons_succ, List.getElem?_cons_zero]; rfl) (fun K hK => ?_) AllReadyH.nil)
                refine step_want (by rfl) ?_
                go_simp
                refine (H3.out _ HX).mono ?_
                rintro e x5 ⟨rfl, bc⟩
                have HX : Below wr.heap.size wr x5 := HX.trans (bc.mono HX.size)
                have g8 := (bc.block _ (Array.getElem?_eq_some_iff.1 g8).1).trans g8
                have g9 := (bc.block _ (Array.getElem?_eq_some_iff.1 g9).1).trans g9
                clear bc
                refine hK.out _ _ HX (fun _ => ?_)
                clear hK K
                try simp only [List.getElem_toArray, List.getElem_cons_succ, List.getElem_cons_zero, Act.put, List.setIfInBounds_toArray, List.set_cons_zero, List.set_cons_succ]
                refine wpAnyH_ready (rs := [16]) (by kernel_rfl) (by simp) (AllReadyH.cons (by simp only [List.getElem?_toArray, List.getElem?_cons_succ, List.getElem?_cons_zero]; rfl) (fun K hK => ?_) AllReadyH.nil)
                refine step_want (by rfl) ?_
                go_simp
                refine (H4.out _ HX).mono ?_
                rintro e x6 ⟨rfl, bc⟩
                have HX : Below wr.heap.size wr x6 := HX.trans (bc.mono HX.size)
                have g8 := (bc.block _ (Array.getElem?_eq_some_iff.1 g8).1).trans g8
                have g9 := (bc.block _ (Array.getElem?_eq_some_iff.1 g9).1).trans g9
                clear bc
                refine hK.out _ _ HX (fun _ => ?_)
                clear hK K
                try simp only [List.getElem_toArray, List.getElem_cons_succ, List.getElem_cons_zero, Act.put, List.setIfInBounds_toArray, List.set_cons_zero, List.set_cons_succ]
                refine wpAnyH_take (i := 17) (v := .agg PB) rfl (by kernel_rfl) (by kernel_rfl) (by kernel_rfl) (fun _ _ _ h => h) (yields_build2 (by rfl) _ (.tmp 36) (.tmp 40) rfl (.agg Y0) (.agg Y1) rfl rfl PB hbB) HX ?_
                simp only [List.getElem_toArray, List.getElem_cons_succ, List.getElem_cons_zero, Act.put, List.setIfInBounds_toArray, List.set_cons_zero, List.set_cons_succ]
                refine wpAnyH_ready (rs := [20]) (by kernel_rfl) (by simp) (AllReadyH.cons (by simp only [List.getElem?_toArray, List.getElem?_cons_succ, List.getElem?_cons_zero]; rfl) (fun K hK => ?_) AllReadyH.nil)
                refine step_want (by rfl) ?_
                refine wp_store_row 45 (.tmp 8) _ rfl b8 PA rfl rfl _ _ g8 (by rw [info_pr, sA]) (by rw [z1.out, sA]) oA ?_
                have HX : Below wr.heap.size wr (x6.setRow b8 PA) := below_setRow HX hle8 PA
                have g9 : (x6.setRow b8 PA).heap[b9]? = _ := (setRow_other x6 b8 b9 PA (Ne.symm hne)).trans g9
                have g8 := heap_setRow_same (ds := PA) g8
                generalize x6.setRow b8 PA = x7 at *
                refine hK.out _ _ HX (fun _ => ?_)
                clear hK K
                try simp only [List.getElem_toArray, List.getElem_cons_succ, List.getElem_cons_zero, Act.put, List.setIfInBounds_toArray, List.set_cons_zero, List.set_cons_succ]
                refine wpAnyH_ready (rs := [21]) (by kernel_rfl) (by simp) (AllReadyH.cons (by simp only [List.getElem?_toArray, List.getElem?_cons_succ, List.getElem?_cons_zero]; rfl) (fun K hK => ?_) AllReadyH.nil)
                refine step_want (by rfl) ?_
                refine wp_store_row 45 (.tmp 9) _ rfl b9 PB rfl rfl _ _ g9 (by rw [info_pr, sB]) (by rw [z1.out, sB]) oB ?_
                have HX : Below wr.heap.size wr (x7.setRow b9 PB) := below_setRow HX hle9 PB
                have g8 : (x7.setRow b9 PB).heap[b8]? = _ := (setRow_other x7 b9 b8 PB hne).trans g8
                have g9 := heap_setRow_same (ds := PB) g9
                generalize x7.setRow b9 PB = x8 at *
                refine hK.out _ _ HX (fun _ => ?_)
                clear hK K
                try simp only [List.getElem_toArray, List.getElem_cons_succ, List.getElem_cons_zero, Act.put, List.setIfInBounds_toArray, List.set_cons_zero, List.set_cons_succ]
                refine wpAnyH_done (by kernel_rfl) ?_ _
                go_wp2_with fail
                go_meet
                exact ⟨rfl, b8, b9, rfl, rfl, g8, g9, HX⟩
            · refine step_want (by rfl) ?_
              obtain ⟨x3, hw, bc, g9⟩ := HPB.out x2
              go_simp
              have hle9 : wr.heap.size ≤ x2.heap.size := HX.size
              have hne : b8 ≠ x2.heap.size := Nat.ne_of_lt (Array.getElem?_eq_some_iff.1 g8).1
              have HX : Below wr.heap.size wr x3 := HX.trans (bc.mono HX.size)
              have g8 := (bc.block _ (Array.getElem?_eq_some_iff.1 g8).1).trans g8
              clear hw bc
              generalize x2.heap.size = b9 at *
              refine hK.out _ _ HX (fun _ => ?_)
              clear hK K
              try simp only [List.getElem_toArray, List.getElem_cons_succ, List.getElem_cons_zero, Act.put, List.setIfInBounds_toArray, List.set_cons_zero, List.set_cons_succ]
              refine wpAnyH_ready (rs := [7]) (by kernel_rfl) (by simp) (AllReadyH.cons (by simp only [List.getElem?_toArray, List.getElem?_cons_succ, List.getElem?_cons_zero]; rfl) (fun K hK => ?_) AllReadyH.nil)
              refine step_want (by rfl) ?_
              go_simp
              refine (H2.out _ HX).mono ?_
              rintro e x4 ⟨rfl, bc⟩
              have HX : Below wr.heap.size wr x4 := HX.trans (bc.mono HX.size)
              have g8 := (bc.block _ (Array.getElem?_eq_some_iff.1 g8).1).trans g8
              have g9 := (bc.block _ (Array.getElem?_eq_some_iff.1 g9).1).trans g9
              clear bc
              refine hK.out _ _ HX (fun _ => ?_)
              clear hK K
              try simp only [List.getElem_toArray, List.getElem_cons_succ, List.getElem_cons_zero, Act.put, List.setIfInBounds_toArray, List.set_cons_zero, List.set_cons_succ]
              refine wpAnyH_take (i := 8) (v := .agg PA) rfl (by kernel_rfl) (by kernel_rfl) (by kernel_rfl) (fun _ _ _ h => h) (yields_build2 (by rfl) _ (.tmp 27) (.tmp 31) rfl (.agg X0) (.agg X1) rfl rfl PA hbA) HX ?_
              simp only [List.getElem_toArray, List.getElem_cons_succ, List.getElem_cons_zero, Act.put, List.setIfInBounds_toArray, List.set_cons_zero, List.set_cons_succ]
              refine wpAnyH_ready (rs := [12]) (by kernel_rfl) (by simp) (AllReadyH.cons (by simp only [List.getElem?_toArray, List.getElem?_cons_succ, List.getElem?_cons_zero]; rfl) (fun K hK => ?_) AllReadyH.nil)
              refine step_want (by rfl) ?_
              go_simp
              refine (H3.out _ HX).mono ?_
              rintro e x5 ⟨rfl, bc⟩
              have HX : Below wr.heap.size wr x5 := HX.trans (bc.mono HX.size)
              have g8 := (bc.block _ (Array.getElem?_eq_some_iff.1 g8).1).trans g8
              have g9 := (bc.block _ (Array.getElem?_eq_some_iff.1 g9).1).trans g9
              clear bc
              refine hK.out _ _ HX (fun _ => ?_)
              clear hK K
              try simp only [List.getElem_toArray, List.getElem_cons_succ, List.getElem_cons_zero, Act.put, List.setIfInBounds_toArray, List.set_cons_zero, List.set_cons_succ]
              refine wpAnyH_ready (rs := [16]) (by kernel_rfl) (by simp) (AllReadyH.cons (by simp only [List.getElem?_toArray, List.getElem?_cons_succ, List.getElem?_cons_zero]; rfl) (fun K hK => ?_) AllReadyH.nil)
              refine step_want (by rfl) ?_
              go_simp
              refine (H4.out _ HX).mono ?_
              rintro e x6 ⟨rfl, bc⟩
              have HX : Below wr.heap.size wr x6 := HX.trans (bc.mono HX.size)
              have g8 := (bc.block _ (Array.getElem?_eq_some_iff.1 g8).1).trans g8
              have g9 := (bc.block _ (Array.getElem?_eq_some_iff.1 g9).1).trans g9
              clear bc
              refine hK.out _ _ HX (fun _ => ?_)
              clear hK K
              try simp only [List.getElem_toArray, List.getElem_cons_succ, List.getElem_cons_zero, Act.put, List.setIfInBounds_toArray, List.set_cons_zero, List.set_cons_succ]
              refine wpAnyH_take (i := 17) (v := .agg PB) rfl (by kernel_rfl) (by kernel_rfl) (by kernel_rfl) (fun _ _ _ h => h) (yields_build2 (by rfl) _ (.tmp 36) (.tmp 40) rfl (.agg Y0) (.agg Y1) rfl rfl PB hbB) HX ?_
              simp only [List.getElem_toArray, List.getElem_cons_succ, List.getElem_cons_zero, Act.put, List.setIfInBounds_toArray, List.set_cons_zero, List.set_cons_succ]
              refine wpAnyH_ready (rs := [20]) (by kernel_rfl) (by simp) (AllReadyH.cons (by simp only [List.getElem?_toArray, List.getElem?_cons_succ, List.getElem?_cons_zero]; rfl) (fun K hK => ?_) AllReadyH.nil)
              refine step_want (by rfl) ?_
              refine wp_store_row 45 (.tmp 8) _ rfl b8 PA rfl rfl _ _ g8 (by rw [info_pr, sA]) (by rw [z1.out, sA]) oA ?_
              have HX : Below wr.heap.size wr (x6.setRow b8 PA) := below_setRow HX hle8 PA
              have g9 : (x6.setRow b8 PA).heap[b9]? = _ := (setRow_other x6 b8 b9 PA (Ne.symm hne)).trans g9
              have g8 := heap_setRow_same (ds := PA) g8
              generalize x6.setRow b8 PA = x7 at *
              refine hK.out _ _ HX (fun _ => ?_)
              clear hK K
              try simp only [List.getElem_toArray, List.getElem_cons_succ, List.getElem_cons_zero, Act.put, List.setIfInBounds_toArray, List.set_cons_zero, List.set_cons_succ]
              refine wpAnyH_ready (rs := [21]) (by kernel_rfl) (by simp) (AllReadyH.cons (by simp only [List.getElem?_toArray, List.getElem?_cons_succ, List.getElem?_cons_zero]; rfl) (fun K hK => ?_) AllReadyH.nil)
              refine step_want (by rfl) ?_
              refine wp_store_row 45 (.tmp 9) _ rfl b9 PB rfl rfl _ _ g9 (by rw [info_pr, sB]) (by rw [z1.out, sB]) oB ?_
              have HX : Below wr.heap.size wr (x7.setRow b9 PB) := below_setRow HX hle9 PB
              have g8 : (x7.setRow b9 PB).heap[b8]? = _ := (setRow_other x7 b9 b8 PB hne).trans g8
              have g9 := heap_setRow_same (ds := PB) g9
              generalize x7.setRow b9 PB = x8 at *
              refine hK.out _ _ HX (fun _ => ?_)
              clear hK K
              try simp only [List.getElem_toArray, List.getElem_cons_succ, List.getElem_cons_zero, Act.put, List.setIfInBounds_toArray, List.set_cons_zero, List.set_cons_succ]
              refine wpAnyH_done (by kernel_rfl) ?_ _
              go_wp2_with fail
              go_meet
              exact ⟨rfl, b8, b9, rfl, rfl, g8, g9, HX⟩
          · refine step_want (by rfl) ?_
            obtain ⟨x2, hw, bc, g9⟩ := HPB.out x1
            go_simp
            have hle9 : wr.heap.size ≤ x1.heap.size := HX.size
            have HX : Below wr.heap.size wr x2 := HX.trans (bc.mono HX.size)
            clear hw bc
            generalize x1.heap.size = b9 at *
            refine hK.out _ _ HX (fun _ => ?_)
            clear hK K
            try simp only [List.getElem_toArray, List.getElem_cons_succ, List.getElem_cons_zero, Act.put, List.setIfInBounds_toArray, List.set_cons_zero, List.set_cons_succ]
            refine wpAnyH_ready (rs := [7, 18]) (by kernel_rfl) (by simp) (AllReadyH.cons (by simp only [List.getElem?_toArray, List.getElem?_cons_succ, List.getElem?_cons_zero]; rfl) (fun K hK => ?_) (AllReadyH.cons (by simp only [List.getElem?_toArray, List.getElem?_cons_succ, List.getElem?_cons_zero]; rfl) (fun K hK => ?_) AllReadyH.nil))
            · refine step_want (by rfl) ?_
              go_simp
              refine (H2.out _ HX).mono ?_
              rintro e x3 ⟨rfl, bc⟩
              have HX : Below wr.heap.size wr x3 := HX.trans (bc.mono HX.size)
              have g9 := (bc.block _ (Array.getElem?_eq_some_iff.1 g9).1).trans g9
              clear bc
              refine hK.out _ _ HX (fun _ => ?_)
              clear hK K
              try simp only [List.getElem_toArray, List.getElem_cons_succ, List.getElem_cons_zero, Act.put, List.setIfInBounds_toArray, List.set_cons_zero, List.set_cons_succ]
              refine wpAnyH_take (i := 8) (v := .agg PA) rfl (by kernel_rfl) (by kernel_rfl) (by kernel_rfl) (fun _ _ _ h => h) (yields_build2 (by rfl) _ (.tmp 27) (.tmp 31) rfl (.agg X0) (.agg X1) rfl rfl PA hbA) HX ?_
              simp only [List.getElem_toArray, List.getElem_cons_succ, List.getElem_cons_zero, Act.put, List.setIfInBounds_toArray, List.set_cons_zero, List.set_cons_succ]
              refine wpAnyH_ready (rs := [12, 18]) (by kernel_rfl) (by simp) (AllReadyH.cons (by simp only [List.getElem?_toArray, List.getElem?_cons_succ, List.getElem?_cons_zero]; rfl) (fun K hK => ?_) (AllReadyH.cons (by simp only [List.getElem?_toArray, List.getElem?_cons_succ, List.getElem?_cons_zero]; rfl) (fun K hK => ?_) AllReadyH.nil))
              · refine step_want (by rfl) ?_
                go_simp
                refine (H3.out _ HX).mono ?_
                rintro e x4 ⟨rfl, bc⟩
                have HX : Below wr.heap.size wr x4 := HX.trans (bc.mono HX.size)
                have g9 := (bc.block _ (Array.getElem?_eq_some_iff.1 g9).1).trans g9
                clear bc
                refine hK.out _ _ HX (fun _ => ?_)
                clear hK K
                try simp only [List.getElem_toArray, List.getElem_cons_succ, List.getElem_cons_zero, Act.put, List.setIfInBounds_toArray, List.set_cons_zero, List.set_cons_succ]
                refine wpAnyH_ready (rs := [16, 18]) (by kernel_rfl) (by simp) (AllReadyH.cons (by simp only [List.getElem?_toArray, List.getElem?_cons_succ, List.getElem?_cons_zero]; rfl) (fun K hK => ?_) (AllReadyH.cons (by simp only [List.getElem?_toArray, List.getElem?_cons_succ, List.getElem?_cons_zero]; rfl) (fun K hK => ?_) AllReadyH.nil))
                · refine step_want (by rfl) ?_
                  go_simp
                  refine (H4.out _ HX).mono ?_
                  rintro e x5 ⟨rfl, bc⟩
                  have HX : Below wr.heap.size wr x5 := HX.trans (bc.mono HX.size)
                  have g9 := (bc.block _ (Array.getElem?_eq_some_iff.1 g9).1).trans g9
                  clear bc
                  refine hK.out _ _ HX (fun _ => ?_)
                  clear hK K
                  try simp only [List.getElem_toArray, List.getElem_cons_succ, List.getElem_cons_zero, Act.put, List.setIfInBounds_toArray, List.set_cons_zero, List.set_cons_succ]
                  refine wpAnyH_take (i := 17) (v := .agg PB) rfl (by kernel_rfl) (by kernel_rfl) (by kernel_rfl) (fun _ _ _ h => h) (yields_build2 (by rfl) _ (.tmp 36) (.tmp 40) rfl (.agg Y0) (.agg Y1) rfl rfl PB hbB) HX ?_
                  simp only [List.getElem_toArray, List.getElem_cons_succ, List.getElem_cons_zero, Act.put, List.setIfInBounds_toArray, List.set_cons_zero, List.set_cons_succ]
                  refine wpAnyH_ready (rs := [18]) (by kernel_rfl) (by simp) (AllReadyH.cons (by simp only [List.getElem?_toArray, List.getElem?_cons_succ, List.getElem?_cons_zero]; rfl) (fun K hK => ?_) AllReadyH.nil)
                  refine step_want (by rfl) ?_
                  obtain ⟨x6, hw, bc, g8⟩ := HPB.out x5
                  go_simp
                  have hle8 : wr.heap.size ≤ x5.heap.size := HX.size
                  have hne : b9 ≠ x5.heap.size := Nat.ne_of_lt (Array.getElem?_eq_some_iff.1 g9).1
                  have HX : Below wr.heap.size wr x6 := HX.trans (bc.mono HX.size)
                  have g9 := (bc.block _ (Array.getElem?_eq_some_iff.1 g9).1).trans g9
                  clear hw bc
                  generalize x5.heap.size = b8 at *
                  refine hK.out _ _ HX (fun _ => ?_)
                  clear hK K
                  try simp only [List.getElem_toArray, List.getElem_cons_succ, List.getElem_cons_zero, Act.put, List.setIfInBounds_toArray, List.set_cons_zero, List.set_cons_succ]
                  refine wpAnyH_ready (rs := [20]) (by kernel_rfl) (by simp) (AllReadyH.cons (by simp only [List.getElem?_toArray, List.getElem?_cons_succ, List.getElem?_cons_zero]; rfl) (fun K hK => ?_) AllReadyH.nil)
                  refine step_want (by rfl) ?_
                  refine wp_store_row 45 (.tmp 8) _ rfl b8 PA rfl rfl _ _ g8 (by rw [info_pr, sA]) (by rw [z1.out, sA]) oA ?_
                  have HX : Below wr.heap.size wr (x6.setRow b8 PA) := below_setRow HX hle8 PA
                  have g9 : (x6.setRow b8 PA).heap[b9]? = _ := (setRow_other x6 b8 b9 PA hne).trans g9
                  have g8 := heap_setRow_same (ds := PA) g8
                  generalize x6.setRow b8 PA = x7 at *
                  refine hK.out _ _ HX (fun _ => ?_)
                  clear hK K
                  try simp only [List.getElem_toArray, List.getElem_cons_succ, List.getElem_cons_zero, Act.put, List.setIfInBounds_toArray, List.set_cons_zero, List.set_cons_succ]
                  refine wpAnyH_ready (rs := [21]) (by kernel_rfl) (by simp) (AllReadyH.cons (by simp only [List.getElem?_toArray, List.getElem?_cons_succ, List.getElem?_cons_zero]; rfl) (fun K hK => ?_) AllReadyH.nil)
                  refine step_want (by rfl) ?_
                  refine wp_store_row 45 (.tmp 9) _ rfl b9 PB rfl rfl _ _ g9 (by rw [info_pr, sB]) (by rw [z1.out, sB]) oB ?_
                  have HX : Below wr.heap.size wr (x7.setRow b9 PB) := below_setRow HX hle9 PB
                  have g8 : (x7.setRow b9 PB).heap[b8]? = _ := (setRow_other x7 b9 b8 PB (Ne.symm hne)).trans g8
                  have g9 := heap_setRow_same (ds := PB) g9
                  generalize x7.setRow b9 PB = x8 at *
                  refine hK.out _ _ HX (fun _ => ?_)
                  clear hK K
                  try simp only [List.getElem_toArray, List.getElem_cons_succ, List.getElem_cons_zero, Act.put, List.setIfInBounds_toArray, List.set_cons_zero, List.set_cons_succ]
                  refine wpAnyH_done (by kernel_rfl) ?_ _
                  go_wp2_with fail
                  go_meet
                  exact ⟨rfl, b8, b9, rfl, rfl, g8, g9, HX⟩
                · refine step_want (by rfl) ?_
                  obtain ⟨x5, hw, bc, g8⟩ := HPB.out x4
                  go_simp
                  have hle8 : wr.heap.size ≤ x4.heap.size := HX.size
                  have hne : b9 ≠ x4.heap.size := Nat.ne_of_lt (Array.getElem?_eq_some_iff.1 g9).1
                  have HX : Below wr.heap.size wr x5 := HX.trans (bc.mono HX.size)
                  have g9 := (bc.block _ (Array.getElem?_eq_some_iff.1 g9).1).trans g9
                  clear hw bc
                  generalize x4.heap.size = b8 at *
                  refine hK.out _ _ HX (fun _ => ?_)
                  clear hK K
                  try simp only [List.getElem_toArray, List.getElem_cons_succ, List.getElem_cons_zero, Act.put, List.setIfInBounds_toArray, List.set_cons_zero, List.set_cons_succ]
                  refine wpAnyH_ready (rs := [16]) (by kernel_rfl) (by simp) (AllReadyH.cons (by simp only [List.getElem?_toArray, List.getElem?_cons_succ, List.getElem?_cons_zero]; rfl) (fun K hK => ?_) AllReadyH.nil)
                  refine step_want (by rfl) ?_
                  go_simp
                  refine (H4.out _ HX).mono ?_
                  rintro e x6 ⟨rfl, bc⟩
                  have HX : Below wr.heap.size wr x6 := HX.trans (bc.mono HX.size)
                  have g9 := (bc.block _ (Array.getElem?_eq_some_iff.1 g9).1).trans g9
                  have g8 := (bc.block _ (Array.getElem?_eq_some_iff.1 g8).1).trans g8
                  clear bc
                  refine hK.out _ _ HX (fun _ => ?_)
                  clear hK K
                  try simp only [List.getElem_toArray, List.getElem_cons_succ, List.getElem_cons_zero, Act.put, List.setIfInBounds_toArray, List.set_cons_zero, List.set_cons_succ]
                  refine wpAnyH_take (i := 17) (v := .agg PB) rfl (by kernel_rfl) (by kernel_rfl) (by kernel_rfl) (fun _ _ _ h => h) (yields_build2 (by rfl) _ (.tmp 36) (.tmp 40) rfl (.agg Y0) (.agg Y1) rfl rfl PB hbB) HX ?_
                  simp only [List.getElem_toArray, List.getElem_cons_succ, List.getElem_cons_zero, Act.put, List.setIfInBounds_toArray, List.set_cons_zero, List.set_cons_succ]
                  refine wpAnyH_ready (rs := [20]) (by kernel_rfl) (by simp) (AllReadyH.cons (by simp only [List.getElem?_toArray, List.getElem?_cons_succ, List.getElem?_cons_zero]; rfl) (fun K hK => ?_) AllReadyH.nil)
                  refine step_want (by rfl) ?_
                  refine wp_store_row 45 (.tmp 8) _ rfl b8 PA rfl rfl _ _ g8 (by rw [info_pr, sA]) (by rw [z1.out, sA]) oA ?_
                  have HX : Below wr.heap.size wr (x6.setRow b8 PA) := below_setRow HX hle8 PA
                  have g9 : (x6.setRow b8 PA).heap[b9]? = _ := (setRow_other x6 b8 b9 PA hne).trans g9
                  have g8 := heap_setRow_same (ds := PA) g8
                  generalize x6.setRow b8 PA = x7 at *
                  refine hK.out _ _ HX (fun _ => ?_)
                  clear hK K
                  try simp only [List.getElem_toArray, List.getElem_cons_succ, List.getElem_cons_zero, Act.put, List.setIfInBounds_toArray, List.set_cons_zero, List.set_cons_succ]
                  refine wpAnyH_ready (rs := [21]) (by kernel_rfl) (by simp) (AllReadyH.cons (by simp only [List.getElem?_toArray, List.getElem?_cons_succ, List.getElem?_cons_zero]; rfl) (fun K hK => ?_) AllReadyH.nil)
                  refine step_want (by rfl) ?_
                  refine wp_store_row 45 (.tmp 9) _ rfl b9 PB rfl rfl _ _ g9 (by rw [info_pr, sB]) (by rw [z1.out, sB]) oB ?_
                  have HX : Below wr.heap.size wr (x7.setRow b9 PB) := below_setRow HX hle9 PB
                  have g8 : (x7.setRow b9 PB).heap[b8]? = _ := (setRow_other x7 b9 b8 PB (Ne.symm hne)).trans g8
                  have g9 := heap_setRow_same (ds := PB) g9
                  generalize x7.setRow b9 PB = x8 at *
                  refine hK.out _ _ HX (fun _ => ?_)
                  clear hK K
                  try simp only [List.getElem_toArray, List.getElem_cons_succ, List.getElem_cons_zero, Act.put, List.setIfInBounds_toArray, List.set_cons_zero, List.set_cons_succ]
                  refine wpAnyH_done (by kernel_rfl) ?_ _
                  go_wp2_with fail
                  go_meet
                  exact ⟨rfl, b8, b9, rfl, rfl, g8, g9, HX⟩
              · refine step_want (by rfl) ?_
                obtain ⟨x4, hw, bc, g8⟩ := HPB.out x3
                go_simp
                have hle8 : wr.heap.size ≤ x3.heap.size := HX.size
                have hne : b9 ≠ x3.heap.size := Nat.ne_of_lt (Array.getElem?_eq_some_iff.1 g9).1
                have HX : Below wr.heap.size wr x4 := HX.trans (bc.mono HX.size)
                have g9 := (bc.block _ (Array.getElem?_eq_some_iff.1 g9).1).trans g9
                clear hw bc
                generalize x3.heap.size = b8 at *
                refine hK.out _ _ HX (fun _ => ?_)
                clear hK K
                try simp only [List.getElem_toArray, List.getElem_cons_succ, List.getElem_cons_zero, Act.put, List.setIfInBounds_toArray, List.set_cons_zero, List.set_cons_succ]
                refine wpAnyH_ready (rs := [12]) (by kernel_rfl) (by simp) (AllReadyH.cons (by simp only [List.getElem?_toArray, List.getElem?_cons_succ, List.getElem?_cons_zero]; rfl) (fun K hK => ?_) AllReadyH.nil)
                refine step_want (by rfl) ?_
                go_simp
                refine (H3.out _ HX).mono ?_
                rintro e x5 ⟨rfl, bc⟩
                have HX : Below wr.heap.size wr x5 := HX.trans (bc.mono HX.size)
                have g9 := (bc.block _ (Array.getElem?_eq_some_iff.1 g9).1).trans g9
                have g8 := (bc.block _ (Array.getElem?_eq_some_iff.1 g8).1).trans g8
                clear bc
                refine hK.out _ _ HX (fun _ => ?_)
                clear hK K
                try simp only [List.getElem_toArray, List.getElem_cons_succ, List.getElem_cons_zero, Act.put, List.setIfInBounds_toArray, List.set_cons_zero, List.set_cons_succ]
                refine wpAnyH_ready (rs := [16]) (by kernel_rfl) (by simp) (AllReadyH.cons (by simp only [List.getElem?_toArray, List.getElem?_cons_succ, List.getElem?_cons_zero]; rfl) (fun K hK => ?_) AllReadyH.nil)
                refine step_want (by rfl) ?_
                go_simp
                refine (H4.out _ HX).mono ?_
                rintro e x6 ⟨rfl, bc⟩
                have HX : Below wr.heap.size wr x6 := HX.trans (bc.mono HX.size)
                have g9 := (bc.block _ (Array.getElem?_eq_some_iff.1 g9).1).trans g9
                have g8 := (bc.block _ (Array.getElem?_eq_some_iff.1 g8).1).trans g8
                clear bc
                refine hK.out _ _ HX (fun _ => ?_)
                clear hK K
                try simp only [List.getElem_toArray, List.getElem_cons_succ, List.getElem_cons_zero, Act.put, List.setIfInBounds_toArray, List.set_cons_zero, List.set_cons_succ]
                refine wpAnyH_take (i := 17) (v := .agg PB) rfl (by kernel_rfl) (by kernel_rfl) (by kernel_rfl) (fun _ _ _ h => h) (yields_build2 (by rfl) _ (.tmp 36) (.tmp 40) rfl (.agg Y0) (.agg Y1) rfl rfl PB hbB) HX ?_
                simp only [List.getElem_toArray, List.getElem_cons_succ, List.getElem_cons_zero, Act.put, List.setIfInBounds_toArray, List.set_cons_zero, List.set_cons_succ]
                refine wpAnyH_ready (rs := [20]) (by kernel_rfl) (by simp) (AllReadyH.cons (by simp only [List.getElem?_toArray, List.getElem?_cons_succ, List.getElem?_cons_zero]; rfl) (fun K hK => ?_) AllReadyH.nil)
                refine step_want (by rfl) ?_
                refine wp_store_row 45 (.tmp 8) _ rfl b8 PA rfl rfl _ _ g8 (by rw [info_pr, sA]) (by rw [z1.out, sA]) oA ?_
                have HX : Below wr.heap.size wr (x6.setRow b8 PA) := below_setRow HX hle8 PA
                have g9 : (x6.setRow b8 PA).heap[b9]? = _ := (setRow_other x6 b8 b9 PA hne).trans g9
                have g8 := heap_setRow_same (ds := PA) g8
                generalize x6.setRow b8 PA = x7 at *
                refine hK.out _ _ HX (fun _ => ?_)
                clear hK K
                try simp only [List.getElem_toArray, List.getElem_cons_succ, List.getElem_cons_zero, Act.put, List.setIfInBounds_toArray, List.set_cons_zero, List.set_cons_succ]
                refine wpAnyH_ready (rs := [21]) (by kernel_rfl) (by simp) (AllReadyH.cons (by simp only [List.getElem?_toArray, List.getElem?_cons_succ, List.getElem?_cons_zero]; rfl) (fun K hK => ?_) AllReadyH.nil)
                refine step_want (by rfl) ?_
                refine wp_store_row 45 (.tmp 9) _ rfl b9 PB rfl rfl _ _ g9 (by rw [info_pr, sB]) (by rw [z1.out, sB]) oB ?_
                have HX : Below wr.heap.size wr (x7.setRow b9 PB) := below_setRow HX hle9 PB
                have g8 : (x7.setRow b9 PB).heap[b8]? = _ := (setRow_other x7 b9 b8 PB (Ne.symm hne)).trans g8
                have g9 := heap_setRow_same (ds := PB) g9
                generalize x7.setRow b9 PB = x8 at *
                refine hK.out _ _ HX (fun _ => ?_)
                clear hK K
                try simp only [List.getElem_toArray, List.getElem_cons_succ, List.getElem_cons_zero, Act.put, List.setIfInBounds_toArray, List.set_cons_zero, List.set_cons_succ]
                refine wpAnyH_done (by kernel_rfl) ?_ _
                go_wp2_with fail
                go_meet
                exact ⟨rfl, b8, b9, rfl, rfl, g8, g9, HX⟩
            · refine step_want (by rfl) ?_
              obtain ⟨x3, hw, bc, g8⟩ := HPB.out x2
              go_simp
              have hle8 : wr.heap.size ≤ x2.heap.size := HX.size
              have hne : b9 ≠ x2.heap.size := Nat.ne_of_lt (Array.getElem?_eq_some_iff.1 g9).1
              have HX : Below wr.heap.size wr x3 := HX.trans (bc.mono HX.size)
              have g9 := (bc.block _ (Array.getElem?_eq_some_iff.1 g9).1).trans g9
              clear hw bc
              generalize x2.heap.size = b8 at *
              refine hK.out _ _ HX (fun _ => ?_)
              clear hK K
              try simp only [List.getElem_toArray, List.getElem_cons_succ, List.getElem_cons_zero, Act.put, List.setIfInBounds_toArray, List.set_cons_zero, List.set_cons_succ]
              refine wpAnyH_ready (rs := [7]) (by kernel_rfl) (by simp) (AllReadyH.cons (by simp only [List.getElem?_toArray, List.getElem?_cons_succ, List.getElem?_cons_zero]; rfl) (fun K hK => ?_) AllReadyH.nil)
              refine step_want (by rfl) ?_
              go_simp
              refine (H2.out _ HX).mono ?_
              rintro e x4 ⟨rfl, bc⟩
              have HX : Below wr.heap.size wr x4 := HX.trans (bc.mono HX.size)
              have g9 := (bc.block _ (Array.getElem?_eq_some_iff.1 g9).1).trans g9
              have g8 := (bc.block _ (Array.getElem?_eq_some_iff.1 g8).1).trans g8
              clear bc
              refine hK.out _ _ HX (fun _ => ?_)
              clear hK K
              try simp only [List.getElem_toArray, List.getElem_cons_succ, List.getElem_cons_zero, Act.put, List.setIfInBounds_toArray, List.set_cons_zero, List.set_cons_succ]
              refine wpAnyH_take (i := 8) (v := .agg PA) rfl (by kernel_rfl) (by kernel_rfl) (by kernel_rfl) (fun _ _ _ h => h) (yields_build2 (by rfl) _ (.tmp 27) (.tmp 31) rfl (.agg X0) (.agg X1) rfl rfl PA hbA) HX ?_
              simp only [List.getElem_toArray, List.getElem_cons_succ, List.getElem_cons_zero, Act.put, List.setIfInBounds_toArray, List.set_cons_zero, List.set_cons_succ]
              refine wpAnyH_ready (rs := [12]) (by kernel_rfl) (by simp) (AllReadyH.cons (by simp only [List.getElem?_toArray, List.getElem?_cons_succ, List.getElem?_cons_zero]; rfl) (fun K hK => ?_) AllReadyH.nil)
              refine step_want (by rfl) ?_
              go_simp
              refine (H3.out _ HX).mono ?_
              rintro e x5 ⟨rfl, bc⟩
              have HX : Below wr.heap.size wr x5 := HX.trans (bc.mono HX.size)
              have g9 := (bc.block _ (Array.getElem?_eq_some_iff.1 g9).1).trans g9
              have g8 := (bc.block _ (Array.getElem?_eq_some_iff.1 g8).1).trans g8
              clear bc
              refine hK.out _ _ HX (fun _ => ?_)
              clear hK K
              try simp only [List.getElem_toArray, List.getElem_cons_succ, List.getElem_cons_zero, Act.put, List.setIfInBounds_toArray, List.set_cons_zero, List.set_cons_succ]
              refine wpAnyH_ready (rs := [16]) (by kernel_rfl) (by simp) (AllReadyH.cons (by simp only [List.getElem?_toArray, List.getElem?_cons_succ, List.getElem?_cons_zero]; rfl) (fun K hK => ?_) AllReadyH.nil)
              refine step_want (by rfl) ?_
              go_simp
              refine (H4.out _ HX).mono ?_
              rintro e x6 ⟨rfl, bc⟩
              have HX : Below wr.heap.size wr x6 := HX.trans (bc.mono HX.size)
              have g9 := (bc.block _ (Array.getElem?_eq_some_iff.1 g9).1).trans g9
              have g8 := (bc.block _ (Array.getElem?_eq_some_iff.1 g8).1).trans g8
              clear bc
              refine hK.out _ _ HX (fun _ => ?_)
              clear hK K
              try simp only [List.getElem_toArray, List.getElem_cons_succ, List.getElem_cons_zero, Act.put, List.setIfInBounds_toArray, List.set_cons_zero, List.set_cons_succ]
              refine wpAnyH_take (i := 17) (v := .agg PB) rfl (by kernel_rfl) (by kernel_rfl) (by kernel_rfl) (fun _ _ _ h => h) (yields_build2 (by rfl) _ (.tmp 36) (.tmp 40) rfl (.agg Y0) (.agg Y1) rfl rfl PB hbB) HX ?_
              simp only [List.getElem_toArray, List.getElem_cons_succ, List.getElem_cons_zero, Act.put, List.setIfInBounds_toArray, List.set_cons_zero, List.set_cons_succ]
              refine wpAnyH_ready (rs := [20]) (by kernel_rfl) (by simp) (AllReadyH.cons (by simp only [List.getElem?_toArray, List.getElem?_cons_succ, List.getElem?_cons_zero]; rfl) (fun K hK => ?_) AllReadyH.nil)
              refine step_want (by rfl) ?_
              refine wp_store_row 45 (.tmp 8) _ rfl b8 PA rfl rfl _ _ g8 (by rw [info_pr, sA]) (by rw [z1.out, sA]) oA ?_
              have HX : Below wr.heap.size wr (x6.setRow b8 PA) := below_setRow HX hle8 PA
              have g9 : (x6.setRow b8 PA).heap[b9]? = _ := (setRow_other x6 b8 b9 PA hne).trans g9
              have g8 := heap_setRow_same (ds := PA) g8
              generalize x6.setRow b8 PA = x7 at *
              refine hK.out _ _ HX (fun _ => ?_)
              clear hK K
              try simp only [List.getElem_toArray, List.getElem_cons_succ, List.getElem_cons_zero, Act.put, List.setIfInBounds_toArray, List.set_cons_zero, List.set_cons_succ]
              refine wpAnyH_ready (rs := [21]) (by kernel_rfl) (by simp) (AllReadyH.cons (by simp only [List.getElem?_toArray, List.getElem?_cons_succ, List.getElem?_cons_zero]; rfl) (fun K hK => ?_) AllReadyH.nil)
              refine step_want (by rfl) ?_
              refine wp_store_row 45 (.tmp 9) _ rfl b9 PB rfl rfl _ _ g9 (by rw [info_pr, sB]) (by rw [z1.out, sB]) oB ?_
              have HX : Below wr.heap.size wr (x7.setRow b9 PB) := below_setRow HX hle9 PB
              have g8 : (x7.setRow b9 PB).heap[b8]? = _ := (setRow_other x7 b9 b8 PB (Ne.symm hne)).trans g8
              have g9 := heap_setRow_same (ds := PB) g9
              generalize x7.setRow b9 PB = x8 at *
              refine hK.out _ _ HX (fun _ => ?_)
              clear hK K
              try simp only [List.getElem_toArray, List.getElem_cons_succ, List.getElem_cons_zero, Act.put, List.setIfInBounds_toArray, List.set_cons_zero, List.set_cons_succ]
              refine wpAnyH_done (by kernel_rfl) ?_ _
              go_wp2_with fail
              go_meet
              exact ⟨rfl, b8, b9, rfl, rfl, g8, g9, HX⟩
        · refine step_want (by rfl) ?_
          obtain ⟨x1, hw, bc, g8⟩ := HPB.out x0
          go_simp
          have hle8 : wr.heap.size ≤ x0.heap.size := HX.size
          have HX : Below wr.heap.size wr x1 := HX.trans (bc.mono HX.size)
          clear hw bc
          generalize x0.heap.size = b8 at *
          refine hK.out _ _ HX (fun _ => ?_)
          clear hK K
          try simp only [List.getElem_toArray, List.getElem_cons_succ, List.getElem_cons_zero, Act.put, List.setIfInBounds_toArray, List.set_cons_zero, List.set_cons_succ]
          refine wpAnyH_ready (rs := [3, 19]) (by kernel_rfl) (by simp) (AllReadyH.cons (by simp only [List.getElem?_toArray, List.getElem?_cons_succ, List.getElem?_cons_zero]; rfl) (fun K hK => ?_) (AllReadyH.cons (by simp only [List.getElem?_toArray, List.getElem?_cons_succ, List.getElem?_cons_zero]; rfl) (fun K hK => ?_) AllReadyH.nil))
          · refine step_want (by rfl) ?_
            go_simp
            refine (H1.out _ HX).mono ?_
            rintro e x2 ⟨rfl, bc⟩
            have HX : Below wr.heap.size wr x2 := HX.trans (bc.mono HX.size)
            have g8 := (bc.block _ (Array.getElem?_eq_some_iff.1 g8).1).trans g8
            clear bc
            refine hK.out _ _ HX (fun _ => ?_)
            clear hK K
            try simp only [List.getElem_toArray, List.getElem_cons_succ, List.getElem_cons_zero, Act.put, List.setIfInBounds_toArray, List.set_cons_zero, List.set_cons_succ]
            refine wpAnyH_ready (rs := [7, 19]) (by kernel_rfl) (by simp) (AllReadyH.cons (by simp only [List.getElem?_toArray, List.getElem?_cons_succ, List.getElem?_cons_zero]; rfl) (fun K hK => ?_) (AllReadyH.cons (by simp only [List.getElem?_toArray, List.getElem?_cons_succ, List.getElem?_cons_zero]; rfl) (fun K hK => ?_) AllReadyH.nil))
            · refine step_want (by rfl) ?_
              go_simp
              refine (H2.out _ HX).mono ?_
              rintro e x3 ⟨rfl, bc⟩
              have HX : Below wr.heap.size wr x3 := HX.trans (bc.mono HX.size)
              have g8 := (bc.block _ (Array.getElem?_eq_some_iff.1 g8).1).trans g8
              clear bc
              refine hK.out _ _ HX (fun _ => ?_)
              clear hK K
              try simp only [List.getElem_toArray, List.getElem_cons_succ, List.getElem_cons_zero, Act.put, List.setIfInBounds_toArray, List.set_cons_zero, List.set_cons_succ]
              refine wpAnyH_take (i := 8) (v := .agg PA) rfl (by kernel_rfl) (by kernel_rfl) (by kernel_rfl) (fun _ _ _ h => h) (yields_build2 (by rfl) _ (.tmp 27) (.tmp 31) rfl (.agg X0) (.agg X1) rfl rfl PA hbA) HX ?_
              simp only [List.getElem_toArray, List.getElem_cons_succ, List.getElem_cons_zero, Act.put, List.setIfInBounds_toArray, List.set_cons_zero, List.set_cons_succ]
              refine wpAnyH_ready (rs := [12, 19]) (by kernel_rfl) (by simp) (AllReadyH.cons (by simp only [List.getElem?_toArray, List.getElem?_cons_succ, List.getElem?_cons_zero]; rfl) (fun K hK => ?_) (AllReadyH.cons (by simp only [List.getElem?_toArray, List.getElem?_cons_succ, List.getElem?_cons_zero]; rfl) (fun K hK => ?_) AllReadyH.nil))
              · refine step_want (by rfl) ?_
                go_simp
                refine (H3.out _ HX).mono ?_
                rintro e x4 ⟨rfl, bc⟩
                have HX : Below wr.heap.size wr x4 := HX.trans (bc.mono HX.size)
                have g8 := (bc.block _ (Array.getElem?_eq_some_iff.1 g8).1).trans g8
                clear bc
                refine hK.out _ _ HX (fun _ => ?_)
                clear hK K
                try simp only [List.getElem_toArray, List.getElem_cons_succ, List.getElem_cons_zero, Act.put, List.setIfInBounds_toArray, List.set_cons_zero, List.set_cons_succ]
                refine wpAnyH_ready (rs := [16, 19]) (by kernel_rfl) (by simp) (AllReadyH.cons (by simp only [List.getElem?_toArray, List.getElem?_cons_succ, List.getElem?_cons_zero]; rfl) (fun K hK => ?_) (AllReadyH.cons (by simp only [List.getElem?_toArray, List.getElem?_cons_succ, List.getElem?_cons_zero]; rfl) (fun K hK => ?_) AllReadyH.nil))
                · refine step_want (by rfl) ?_
                  go_simp
                  refine (H4.out _ HX).mono ?_
                  rintro e x5 ⟨rfl, bc⟩
                  have HX : Below wr.heap.size wr x5 := HX.trans (bc.mono HX.size)
                  have g8 := (bc.block _ (Array.getElem?_eq_some_iff.1 g8).1).trans g8
                  clear bc
                  refine hK.out _ _ HX (fun _ => ?_)
                  clear hK K
                  try simp only [List.getElem_toArray, List.getElem_cons_succ, List.getElem_cons_zero, Act.put, List.setIfInBounds_toArray, List.set_cons_zero, List.set_cons_succ]
                  refine wpAnyH_take (i := 17) (v := .agg PB) rfl (by kernel_rfl) (by kernel_rfl) (by kernel_rfl) (fun _ _ _ h => h) (yields_build2 (by rfl) _ (.tmp 36) (.tmp 40) rfl (.agg Y0) (.agg Y1) rfl rfl PB hbB) HX ?_
                  simp only [List.getElem_toArray, List.getElem_cons_succ, List.getElem_cons_zero, Act.put, List.setIfInBounds_toArray, List.set_cons_zero, List.set_cons_succ]
                  refine wpAnyH_ready (rs := [19]) (by kernel_rfl) (by simp) (AllReadyH.cons (by simp only [List.getElem?_toArray, List.getElem?_cons_succ, List.getElem?_cons_zero]; rfl) (fun K hK => ?_) AllReadyH.nil)
                  refine step_want (by rfl) ?_
                  obtain ⟨x6, hw, bc, g9⟩ := HPB.out x5
                  go_simp
                  have hle9 : wr.heap.size ≤ x5.heap.size := HX.size
                  have hne : b8 ≠ x5.heap.size := Nat.ne_of_lt (Array.getElem?_eq_some_iff.1 g8).1
                  have HX : Below wr.heap.size wr x6 := HX.trans (bc.mono HX.size)
                  have g8 := (bc.block _ (Array.getElem?_eq_some_iff.1 g8).1).trans g8
                  clear hw bc
                  generalize x5.heap.size = b9 at *
                  refine hK.out _ _ HX (fun _ => ?_)
                  clear hK K
                  try simp only [List.getElem_toArray, List.getElem_cons_succ, List.getElem_cons_zero, Act.put, List.setIfInBounds_toArray, List.set_cons_zero, List.set_cons_succ]
                  refine wpAnyH_ready (rs := [20]) (by kernel_rfl) (by simp) (AllReadyH.cons (by simp only [List.getElem?_toArray, List.getElem?_cons_succ, List.getElem?_cons_zero]; rfl) (fun K hK => ?_) AllReadyH.nil)
                  refine step_want (by rfl) ?_
                  refine wp_store_row 45 (.tmp 8) _ rfl b8 PA rfl rfl _ _ g8 (by rw [info_pr, sA]) (by rw [z1.out, sA]) oA ?_
                  have HX : Below wr.heap.size wr (x6.setRow b8 PA) := below_setRow HX hle8 PA
                  have g9 : (x6.setRow b8 PA).heap[b9]? = _ := (setRow_other x6 b8 b9 PA (Ne.symm hne)).trans g9
                  have g8 := heap_setRow_same (ds := PA) g8
                  generalize x6.setRow b8 PA = x7 at *
                  refine hK.out _ _ HX (fun _ => ?_)
                  clear hK K
                  try simp only [List.getElem_toArray, List.getElem_cons_succ, List.getElem_cons_zero, Act.put, List.setIfInBounds_toArray, List.set_cons_zero, List.set_cons_succ]
                  refine wpAnyH_ready (rs := [21]) (by kernel_rfl) (by simp) (AllReadyH.cons (by simp only [List.getElem?_toArray, List.getElem?_cons_succ, List.getElem?_cons_zero]; rfl) (fun K hK => ?_) AllReadyH.nil)
                  refine step_want (by rfl) ?_
                  refine wp_store_row 45 (.tmp 9) _ rfl b9 PB rfl rfl _ _ g9 (by rw [info_pr, sB]) (by rw [z1.out, sB]) oB ?_
                  have HX : Below wr.heap.size wr (x7.setRow b9 PB) := below_setRow HX hle9 PB
                  have g8 : (x7.setRow b9 PB).heap[b8]? = _ := (setRow_other x7 b9 b8 PB hne).trans g8
                  have g9 := heap_setRow_same (ds := PB) g9
                  generalize x7.setRow b9 PB = x8 at *
                  refine hK.out _ _ HX (fun _ => ?_)
                  clear hK K
                  try simp only [List.getElem_toArray, List.getElem_cons_succ, List.getElem_cons_zero, Act.put, List.setIfInBounds_toArray, List.set_cons_zero, List.set_cons_succ]
                  refine wpAnyH_done (by kernel_rfl) ?_ _
                  go_wp2_with fail
                  go_meet
                  exact ⟨rfl, b8, b9, rfl, rfl, g8, g9, HX⟩
                · refine step_want (by rfl) ?_
                  obtain ⟨x5, hw, bc, g9⟩ := HPB.out x4
                  go_simp
                  have hle9 : wr.heap.size ≤ x4.heap.size := HX.size
                  have hne : b8 ≠ x4.heap.size := Nat.ne_of_lt (Array.getElem?_eq_some_iff.1 g8).1
                  have HX : Below wr.heap.size wr x5 := HX.trans (bc.mono HX.size)
                  have g8 := (bc.block _ (Array.getElem?_eq_some_iff.1 g8).1).trans g8
                  clear hw bc
                  generalize x4.heap.size = b9 at *
                  refine hK.out _ _ HX (fun _ => ?_)
                  clear hK K
                  try simp only [List.getElem_toArray, List.getElem_cons_succ, List.getElem_cons_zero, Act.put, List.setIfInBounds_toArray, List.set_cons_zero, List.set_cons_succ]
                  refine wpAnyH_ready (rs := [16]) (by kernel_rfl) (by simp) (AllReadyH.cons (by simp only [List.getElem?_toArray, List.getElem?_cons_succ, List.getElem?_cons_zero]; rfl) (fun K hK => ?_) AllReadyH.nil)
                  refine step_want (by rfl) ?_
                  go_simp
                  refine (H4.out _ HX).mono ?_
                  rintro e x6 ⟨rfl, bc⟩
                  have HX : Below wr.heap.size wr x6 := HX.trans (bc.mono HX.size)
                  have g8 := (bc.block _ (Array.getElem?_eq_some_iff.1 g8).1).trans g8
                  have g9 := (bc.block _ (Array.getElem?_eq_some_iff.1 g9).1).trans g9
                  clear bc
                  refine hK.out _ _ HX (fun _ => ?_)
                  clear hK K
                  try simp only [List.getElem_toArray, List.getElem_cons_succ, List.getElem_cons_zero, Act.put, List.setIfInBounds_toArray, List.set_cons_zero, List.set_cons_succ]
                  refine wpAnyH_take (i := 17) (v := .agg PB) rfl (by kernel_rfl) (by kernel_rfl) (by kernel_rfl) (fun _ _ _ h => h) (yields_build2 (by rfl) _ (.tmp 36) (.tmp 40) rfl (.agg Y0) (.agg Y1) rfl rfl PB hbB) HX ?_
                  simp only [List.getElem_toArray, List.getElem_cons_succ, List.getElem_cons_zero, Act.put, List.setIfInBounds_toArray, List.set_cons_zero, List.set_cons_succ]
                  refine wpAnyH_ready (rs := [20]) (by kernel_rfl) (by simp) (AllReadyH.cons (by simp only [List.getElem?_toArray, List.getElem?_cons_succ, List.getElem?_cons_zero]; rfl) (fun K hK => ?_) AllReadyH.nil)
                  refine step_want (by rfl) ?_
                  refine wp_store_row 45 (.tmp 8) _ rfl b8 PA rfl rfl _ _ g8 (by rw [info_pr, sA]) (by rw [z1.out, sA]) oA ?_
                  have HX : Below wr.heap.size wr (x6.setRow b8 PA) := below_setRow HX hle8 PA
                  have g9 : (x6.setRow b8 PA).heap[b9]? = _ := (setRow_other x6 b8 b9 PA (Ne.symm hne)).trans g9
                  have g8 := heap_setRow_same (ds := PA) g8
                  generalize x6.setRow b8 PA = x7 at *
                  refine hK.out _ _ HX (fun _ => ?_)
                  clear hK K
                  try simp only [List.getElem_toArray, List.getElem_cons_succ, List.getElem_cons_zero, Act.put, List.setIfInBounds_toArray, List.set_cons_zero, List.set_cons_succ]
                  refine wpAnyH_ready (rs := [21]) (by kernel_rfl) (by simp) (AllReadyH.cons (by simp only [List.getElem?_toArray, List.getElem?_cons_succ, List.getElem?_cons_zero]; rfl) (fun K hK => ?_) AllReadyH.nil)
                  refine step_want (by rfl) ?_
                  refine wp_store_row 45 (.tmp 9) _ rfl b9 PB rfl rfl _ _ g9 (by rw [info_pr, sB]) (by rw [z1.out, sB]) oB ?_
                  have HX : Below wr.heap.size wr (x7.setRow b9 PB) := below_setRow HX hle9 PB
                  have g8 : (x7.setRow b9 PB).heap[b8]? = _ := (setRow_other x7 b9 b8 PB hne).trans g8
                  have g9 := heap_setRow_same (ds := PB) g9
                  generalize x7.setRow b9 PB = x8 at *
                  refine hK.out _ _ HX (fun _ => ?_)
                  clear hK K
                  try simp only [List.getElem_toArray, List.getElem_cons_succ, List.getElem_cons_zero, Act.put, List.setIfInBounds_toArray, List.set_cons_zero, List.set_cons_succ]
                  refine wpAnyH_done (by kernel_rfl) ?_ _
                  go_wp2_with fail
                  go_meet
                  exact ⟨rfl, b8, b9, rfl, rfl, g8, g9, HX⟩
              · refine step_want (by rfl) ?_
                obtain ⟨x4, hw, bc, g9⟩ := HPB.out x3
                go_simp
                have hle9 : wr.heap.size ≤ x3.heap.size := HX.size
                have hne : b8 ≠ x3.heap.size := Nat.ne_of_lt (Array.getElem?_eq_some_iff.1 g8).1
                have HX : Below wr.heap.size wr x4 := HX.trans (bc.mono HX.size)
                have g8 := (bc.block _ (Array.getElem?_eq_some_iff.1 g8).1).trans g8
                clear hw bc
                generalize x3.heap.size = b9 at *
                refine hK.out _ _ HX (fun _ => ?_)
                clear hK K
                try simp only [List.getElem_toArray, List.getElem_cons_succ, List.getElem_cons_zero, Act.put, List.setIfInBounds_toArray, List.set_cons_zero, List.set_cons_succ]
                refine wpAnyH_ready (rs := [12]) (by kernel_rfl) (by simp) (AllReadyH.cons (by simp only [List.getElem?_toArray, List.getElem?_cons_succ, List.getElem?_cons_zero]; rfl) (fun K hK => ?_) AllReadyH.nil)
                refine step_want (by rfl) ?_
                go_simp
                refine (H3.out _ HX).mono ?_
                rintro e x5 ⟨rfl, bc⟩
                have HX : Below wr.heap.size wr x5 := HX.trans (bc.mono HX.size)
                have g8 := (bc.block _ (Array.getElem?_eq_some_iff.1 g8).1).trans g8
                have g9 := (bc.block _ (Array.getElem?_eq_some_iff.1 g9).1).trans g9
                clear bc
                refine hK.out _ _ HX (fun _ => ?_)
                clear hK K
                try simp only [List.getElem_toArray, List.getElem_cons_succ, List.getElem_cons_zero, Act.put, List.setIfInBounds_toArray, List.set_cons_zero, List.set_cons_succ]
                refine wpAnyH_ready (rs := [16]) (by kernel_rfl) (by simp) (AllReadyH.cons (by simp only [List.getElem?_toArray, List.getElem?_cons_succ, List.getElem?_cons_zero]; rfl) (fun K hK => ?_) AllReadyH.nil)
                refine step_want (by rfl) ?_
                go_simp
                refine (H4.out _ HX).mono ?_
                rintro e x6 ⟨rfl, bc⟩
                have HX : Below wr.heap.size wr x6 := HX.trans (bc.mono HX.size)
                have g8 := (bc.block _ (Array.getElem?_eq_some_iff.1 g8).1).trans g8
                have g9 := (bc.block _ (Array.getElem?_eq_some_iff.1 g9).1).trans g9
                clear bc
                refine hK.out _ _ HX (fun _ => ?_)
                clear hK K
                try simp only [List.getElem_toArray, List.getElem_cons_succ, List.getElem_cons_zero, Act.put, List.setIfInBounds_toArray, List.set_cons_zero, List.set_cons_succ]
                refine wpAnyH_take (i := 17) (v := .agg PB) rfl (by kernel_rfl) (by kernel_rfl) (by kernel_rfl) (fun _ _ _ h => h) (yields_build2 (by rfl) _ (.tmp 36) (.tmp 40) rfl (.agg Y0) (.agg Y1) rfl rfl PB hbB) HX ?_
                simp only [List.getElem_toArray, List.getElem_cons_succ, List.getElem_cons_zero, Act.put, List.setIfInBounds_toArray, List.set_cons_zero, List.set_cons_succ]
                refine wpAnyH_ready (rs := [20]) (by kernel_rfl) (by simp) (AllReadyH.cons (by simp only [List.getElem?_toArray, List.getElem?_cons_succ, List.getElem?_cons_zero]; rfl) (fun K hK => ?_) AllReadyH.nil)
                refine step_want (by rfl) ?_
                refine wp_store_row 45 (.tmp 8) _ rfl b8 PA rfl rfl _ _ g8 (by rw [info_pr, sA]) (by rw [z1.out, sA]) oA ?_
                have HX : Below wr.heap.size wr (x6.setRow b8 PA) := below_setRow HX hle8 PA
                have g9 : (x6.setRow b8 PA).heap[b9]? = _ := (setRow_other x6 b8 b9 PA (Ne.symm hne)).trans g9
                have g8 := heap_setRow_same (ds := PA) g8
                generalize x6.setRow b8 PA = x7 at *
                refine hK.out _ _ HX (fun _ => ?_)
                clear hK K
                try simp only [List.getElem_toArray, List.getElem_cons_succ, List.getElem_cons_zero, Act.put, List.setIfInBounds_toArray, List.set_cons_zero, List.set_cons_succ]
                refine wpAnyH_ready (rs := [21]) (by kernel_rfl) (by simp) (AllReadyH.cons (by simp only [List.getElem?_toArray, List.getElem?_cons_succ, List.getElem?_cons_zero]; rfl) (fun K hK => ?_) AllReadyH.nil)
                refine step_want (by rfl) ?_
                refine wp_store_row 45 (.tmp 9) _ rfl b9 PB rfl rfl _ _ g9 (by rw [info_pr, sB]) (by rw [z1.out, sB]) oB ?_
                have HX : Below wr.heap.size wr (x7.setRow b9 PB) := below_setRow HX hle9 PB
                have g8 : (x7.setRow b9 PB).heap[b8]? = _ := (setRow_other x7 b9 b8 PB hne).trans g8
                have g9 := heap_setRow_same (ds := PB) g9
                generalize x7.setRow b9 PB = x8 at *
                refine hK.out _ _ HX (fun _ => ?_)
                clear hK K
                try simp only [List.getElem_toArray, List.getElem_cons_succ, List.getElem_cons_zero, Act.put, List.setIfInBounds_toArray, List.set_cons_zero, List.set_cons_succ]
                refine wpAnyH_done (by kernel_rfl) ?_ _
                go_wp2_with fail
                go_meet
                exact ⟨rfl, b8, b9, rfl, rfl, g8, g9, HX⟩
            · refine step_want (by rfl) ?_
              obtain ⟨x3, hw, bc, g9⟩ := HPB.out x2
              go_simp
              have hle9 : wr.heap.size ≤ x2.heap.size := HX.size
              have hne : b8 ≠ x2.heap.size := Nat.ne_of_lt (Array.getElem?_eq_some_iff.1 g8).1
              have HX : Below wr.heap.size wr x3 := HX.trans (bc.mono HX.size)
              have g8 := (bc.block _ (Array.getElem?_eq_some_iff.1 g8).1).trans g8
              clear hw bc
              generalize x2.heap.size = b9 at *
              refine hK.out _ _ HX (fun _ => ?_)
              clear hK K
              try simp only [List.getElem_toArray, List.getElem_cons_succ, List.getElem_cons_zero, Act.put, List.setIfInBounds_toArray, List.set_cons_zero, List.set_cons_succ]
              refine wpAnyH_ready (rs := [7]) (by kernel_rfl) (by simp) (AllReadyH.cons (by simp only [List.getElem?_toArray, List.getElem?_cons_succ, List.getElem?_cons_zero]; rfl) (fun K hK => ?_) AllReadyH.nil)
              refine step_want (by rfl) ?_
              go_simp
              refine (H2.out _ HX).mono ?_
              rintro e x4 ⟨rfl, bc⟩
              have HX : Below wr.heap.size wr x4 := HX.trans (bc.mono HX.size)
              have g8 := (bc.block _ (Array.getElem?_eq_some_iff.1 g8).1).trans g8
              have g9 := (bc.block _ (Array.getElem?_eq_some_iff.1 g9).1).trans g9
              clear bc
              refine hK.out _ _ HX (fun _ => ?_)
              clear hK K
              try simp only [List.getElem_toArray, List.getElem_cons_succ, List.getElem_cons_zero, Act.put, List.setIfInBounds_toArray, List.set_cons_zero, List.set_cons_succ]
              refine wpAnyH_take (i := 8) (v := .agg PA) rfl (by kernel_rfl) (by kernel_rfl) (by kernel_rfl) (fun _ _ _ h => h) (yields_build2 (by rfl) _ (.tmp 27) (.tmp 31) rfl (.agg X0) (.agg X1) rfl rfl PA hbA) HX ?_
              simp only [List.getElem_toArray, List.getElem_cons_succ, List.getElem_cons_zero, Act.put, List.setIfInBounds_toArray, List.set_cons_zero, List.set_cons_succ]
              refine wpAnyH_ready (rs := [12]) (by kernel_rfl) (by simp) (AllReadyH.cons (by simp only [List.getElem?_toArray, List.getElem?_cons_succ, List.getElem?_cons_zero]; rfl) (fun K hK => ?_) AllReadyH.nil)
              refine step_want (by rfl) ?_
              go_simp
              refine (H3.out _ HX).mono ?_
              rintro e x5 ⟨rfl, bc⟩
              have HX : Below wr.heap.size wr x5 := HX.trans (bc.mono HX.size)
              have g8 := (bc.block _ (Array.getElem?_eq_some_iff.1 g8).1).trans g8
              have g9 := (bc.block _ (Array.getElem?_eq_some_iff.1 g9).1).trans g9
              clear bc
              refine hK.out _ _ HX (fun _ => ?_)
              clear hK K
              try simp only [List.getElem_toArray, List.getElem_cons_succ, List.getElem_cons_zero, Act.put, List.setIfInBounds_toArray, List.set_cons_zero, List.set_cons_succ]
              refine wpAnyH_ready (rs := [16]) (by kernel_rfl) (by simp) (AllReadyH.cons (by simp only [List.getElem?_toArray, List.getElem?_cons_succ, List.getElem?_cons_zero]; rfl) (fun K hK => ?_) AllReadyH.nil)
              refine step_want (by rfl) ?_
              go_simp
              refine (H4.out _ HX).mono ?_
              rintro e x6 ⟨rfl, bc⟩
              have HX : Below wr.heap.size wr x6 := HX.trans (bc.mono HX.size)
              have g8 := (bc.block _ (Array.getElem?_eq_some_iff.1 g8).1).trans g8
              have g9 := (bc.block _ (Array.getElem?_eq_some_iff.1 g9).1).trans g9
              clear bc
              refine hK.out _ _ HX (fun _ => ?_)
              clear hK K
              try simp only [List.getElem_toArray, List.getElem_cons_succ, List.getElem_cons_zero, Act.put, List.setIfInBounds_toArray, List.set_cons_zero, List.set_cons_succ]
              refine wpAnyH_take (i := 17) (v := .agg PB) rfl (by kernel_rfl) (by kernel_rfl) (by kernel_rfl) (fun _ _ _ h => h) (yields_build2 (by rfl) _ (.tmp 36) (.tmp 40) rfl (.agg Y0) (.agg Y1) rfl rfl PB hbB) HX ?_
              simp only [List.getElem_toArray, List.getElem_cons_succ, List.getElem_cons_zero, Act.put, List.setIfInBounds_toArray, List.set_cons_zero, List.set_cons_succ]
              refine wpAnyH_ready (rs := [20]) (by kernel_rfl) (by simp) (AllReadyH.cons (by simp only [List.getElem?_toArray, List.getElem?_cons_succ, List.getElem?_cons_zero]; rfl) (fun K hK => ?_) AllReadyH.nil)
              refine step_want (by rfl) ?_
              refine wp_store_row 45 (.tmp 8) _ rfl b8 PA rfl rfl _ _ g8 (by rw [info_pr, sA]) (by rw [z1.out, sA]) oA ?_
              have HX : Below wr.heap.size wr (x6.setRow b8 PA) := below_setRow HX hle8 PA
              have g9 : (x6.setRow b8 PA).heap[b9]? = _ := (setRow_other x6 b8 b9 PA (Ne.symm hne)).trans g9
              have g8 := heap_setRow_same (ds := PA) g8
              generalize x6.setRow b8 PA = x7 at *
              refine hK.out _ _ HX (fun _ => ?_)
              clear hK K
              try simp only [List.getElem_toArray, List.getElem_cons_succ, List.getElem_cons_zero, Act.put, List.setIfInBounds_toArray, List.set_cons_zero, List.set_cons_succ]
              refine wpAnyH_ready (rs := [21]) (by kernel_rfl) (by simp) (AllReadyH.cons (by simp only [List.getElem?_toArray, List.getElem?_cons_succ, List.getElem?_cons_zero]; rfl) (fun K hK => ?_) AllReadyH.nil)
              refine step_want (by rfl) ?_
              refine wp_store_row 45 (.tmp 9) _ rfl b9 PB rfl rfl _ _ g9 (by rw [info_pr, sB]) (by rw [z1.out, sB]) oB ?_
              have HX : Below wr.heap.size wr (x7.setRow b9 PB) := below_setRow HX hle9 PB
              have g8 : (x7.setRow b9 PB).heap[b8]? = _ := (setRow_other x7 b9 b8 PB hne).trans g8
              have g9 := heap_setRow_same (ds := PB) g9
              generalize x7.setRow b9 PB = x8 at *
              refine hK.out _ _ HX (fun _ => ?_)
              clear hK K
              try simp only [List.getElem_toArray, List.getElem_cons_succ, List.getElem_cons_zero, Act.put, List.setIfInBounds_toArray, List.set_cons_zero, List.set_cons_succ]
              refine wpAnyH_done (by kernel_rfl) ?_ _
              go_wp2_with fail
              go_meet
              exact ⟨rfl, b8, b9, rfl, rfl, g8, g9, HX⟩
          · refine step_want (by rfl) ?_
            obtain ⟨x2, hw, bc, g9⟩ := HPB.out x1
            go_simp
            have hle9 : wr.heap.size ≤ x1.heap.size := HX.size
            have hne : b8 ≠ x1.heap.size := Nat.ne_of_lt (Array.getElem?_eq_some_iff.1 g8).1
            have HX : Below wr.heap.size wr x2 := HX.trans (bc.mono HX.size)
            have g8 := (bc.block _ (Array.getElem?_eq_some_iff.1 g8).1).trans g8
            clear hw bc
            generalize x1.heap.size = b9 at *
            refine hK.out _ _ HX (fun _ => ?_)
            clear hK K
            try simp only [List.getElem_toArray, List.getElem_cons_succ, List.getElem_cons_zero, Act.put, List.setIfInBounds_toArray, List.set_cons_zero, List.set_cons_succ]
            refine wpAnyH_ready (rs := [3]) (by kernel_rfl) (by simp) (AllReadyH.cons (by simp only [List.getElem?_toArray, List.getElem?_cons_succ, List.getElem?_cons_zero]; rfl) (fun K hK => ?_) AllReadyH.nil)
            refine step_want (by rfl) ?_
            go_simp
            refine (H1.out _ HX).mono ?_
            rintro e x3 ⟨rfl, bc⟩
            have HX : Below wr.heap.size wr x3 := HX.trans (bc.mono HX.size)
            have g8 := (bc.block _ (Array.getElem?_eq_some_iff.1 g8).1).trans g8
            have g9 := (bc.block _ (Array.getElem?_eq_some_iff.1 g9).1).trans g9
            clear bc
            refine hK.out _ _ HX (fun _ => ?_)
            clear hK K
            try simp only [List.getElem_toArray, List.getElem_cons_succ, List.getElem_cons_zero, Act.put, List.setIfInBounds_toArray, List.set_cons_zero, List.set_cons_succ]
            refine wpAnyH_ready (rs := [7]) (by kernel_rfl) (by simp) (AllReadyH.cons (by simp only [List.getElem?_toArray, List.getElem?_cons_succ, List.getElem?_cons_zero]; rfl) (fun K hK => ?_) AllReadyH.nil)
            refine step_want (by rfl) ?_
            go_simp
            refine (H2.out _ HX).mono ?_
            rintro e x4 ⟨rfl, bc⟩
            have HX : Below wr.heap.size wr x4 := HX.trans (bc.mono HX.size)
            have g8 := (bc.block _ (Array.getElem?_eq_some_iff.1 g8).1).trans g8
            have g9 := (bc.block _ (Array.getElem?_eq_some_iff.1 g9).1).trans g9
            clear bc
            refine hK.out _ _ HX (fun _ => ?_)
            clear hK K
            try simp only [List.getElem_toArray, List.getElem_cons_succ, List.getElem_cons_zero, Act.put, List.setIfInBounds_toArray, List.set_cons_zero, List.set_cons_succ]
            refine wpAnyH_take (i := 8) (v := .agg PA) rfl (by kernel_rfl) (by kernel_rfl) (by kernel_rfl) (fun _ _ _ h => h) (yields_build2 (by rfl) _ (.tmp 27) (.tmp 31) rfl (.agg X0) (.agg X1) rfl rfl PA hbA) HX ?_
            simp only [List.getElem_toArray, List.getElem_cons_succ, List.getElem_cons_zero, Act.put, List.setIfInBounds_toArray, List.set_cons_zero, List.set_cons_succ]
            refine wpAnyH_ready (rs := [12]) (by kernel_rfl) (by simp) (AllReadyH.cons (by simp only [List.getElem?_toArray, List.getElem?_cons_succ, List.getElem?_cons_zero]; rfl) (fun K hK => ?_) AllReadyH.nil)
            refine step_want (by rfl) ?_
            go_simp
            refine (H3.out _ HX).mono ?_
            rintro e x5 ⟨rfl, bc⟩
            have HX : Below wr.heap.size wr x5 := HX.trans (bc.mono HX.size)
            have g8 := (bc.block _ (Array.getElem?_eq_some_iff.1 g8).1).trans g8
            have g9 := (bc.block _ (Array.getElem?_eq_some_iff.1 g9).1).trans g9
            clear bc
            refine hK.out _ _ HX (fun _ => ?_)
            clear hK K
            try simp only [List.getElem_toArray, List.getElem_cons_succ, List.getElem_cons_zero, Act.put, List.setIfInBounds_toArray, List.set_cons_zero, List.set_cons_succ]
            refine wpAnyH_ready (rs := [16]) (by kernel_rfl) (by simp) (AllReadyH.cons (by simp only [List.getElem?_toArray, List.getElem?_cons_succ, List.getElem?_cons_zero]; rfl) (fun K hK => ?_) AllReadyH.nil)
            refine step_want (by rfl) ?_
            go_simp
            refine (H4.out _ HX).mono ?_
            rintro e x6 ⟨rfl, bc⟩
            have HX : Below wr.heap.size wr x6 := HX.trans (bc.mono HX.size)
            have g8 := (bc.block _ (Array.getElem?_eq_some_iff.1 g8).1).trans g8
            have g9 := (bc.block _ (Array.getElem?_eq_some_iff.1 g9).1).trans g9
            clear bc
            refine hK.out _ _ HX (fun _ => ?_)
            clear hK K
            try simp only [List.getElem_toArray, List.getElem_cons_succ, List.getElem_cons_zero, Act.put, List.setIfInBounds_toArray, List.set_cons_zero, List.set_cons_succ]
            refine wpAnyH_take (i := 17) (v := .agg PB) rfl (by kernel_rfl) (by kernel_rfl) (by kernel_rfl) (fun _ _ _ h => h) (yields_build2 (by rfl) _ (.tmp 36) (.tmp 40) rfl (.agg Y0) (.agg Y1) rfl rfl PB hbB) HX ?_
            simp only [List.getElem_toArray, List.getElem_cons_succ, List.getElem_cons_zero, Act.put, List.setIfInBounds_toArray, List.set_cons_zero, List.set_cons_succ]
            refine wpAnyH_ready (rs := [20]) (by kernel_rfl) (by simp) (AllReadyH.cons (by simp only [List.getElem?_toArray, List.getElem?_cons_succ, List.getElem?_cons_zero]; rfl) (fun K hK => ?_) AllReadyH.nil)
            refine step_want (by rfl) ?_
            refine wp_store_row 45 (.tmp 8) _ rfl b8 PA rfl rfl _ _ g8 (by rw [info_pr, sA]) (by rw [z1.out, sA]) oA ?_
            have HX : Below wr.heap.size wr (x6.setRow b8 PA) := below_setRow HX hle8 PA
            have g9 : (x6.setRow b8 PA).heap[b9]? = _ := (setRow_other x6 b8 b9 PA (Ne.symm hne)).trans g9
            have g8 := heap_setRow_same (ds := PA) g8
            generalize x6.setRow b8 PA = x7 at *
            refine hK.out _ _ HX (fun _ => ?_)
            clear hK K
            try simp only [List.getElem_toArray, List.getElem_cons_succ, List.getElem_cons_zero, Act.put, List.setIfInBounds_toArray, List.set_cons_zero, List.set_cons_succ]
            refine wpAnyH_ready (rs := [21]) (by kernel_rfl) (by simp) (AllReadyH.cons (by simp only [List.getElem?_toArray, List.getElem?_cons_succ, List.getElem?_cons_zero]; rfl) (fun K hK => ?_) AllReadyH.nil)
            refine step_want (by rfl) ?_
            refine wp_store_row 45 (.tmp 9) _ rfl b9 PB rfl rfl _ _ g9 (by rw [info_pr, sB]) (by rw [z1.out, sB]) oB ?_
            have HX : Below wr.heap.size wr (x7.setRow b9 PB) := below_setRow HX hle9 PB
            have g8 : (x7.setRow b9 PB).heap[b8]? = _ := (setRow_other x7 b9 b8 PB hne).trans g8
            have g9 := heap_setRow_same (ds := PB) g9
            generalize x7.setRow b9 PB = x8 at *
            refine hK.out _ _ HX (fun _ => ?_)
            clear hK K
            try simp only [List.getElem_toArray, List.getElem_cons_succ, List.getElem_cons_zero, Act.put, List.setIfInBounds_toArray, List.set_cons_zero, List.set_cons_succ]
            refine wpAnyH_done (by kernel_rfl) ?_ _
            go_wp2_with fail
            go_meet
            exact ⟨rfl, b8, b9, rfl, rfl, g8, g9, HX⟩
        · refine step_want (by rfl) ?_
          obtain ⟨x1, hw, bc, g9⟩ := HPB.out x0
          go_simp
          have hle9 : wr.heap.size ≤ x0.heap.size := HX.size
          have HX : Below wr.heap.size wr x1 := HX.trans (bc.mono HX.size)
          clear hw bc
          generalize x0.heap.size = b9 at *
          refine hK.out _ _ HX (fun _ => ?_)
          clear hK K
          try simp only [List.getElem_toArray, List.getElem_cons_succ, List.getElem_cons_zero, Act.put, List.setIfInBounds_toArray, List.set_cons_zero, List.set_cons_succ]
          refine wpAnyH_ready (rs := [3, 18]) (by kernel_rfl) (by simp) (AllReadyH.cons (by simp only [List.getElem?_toArray, List.getElem?_cons_succ, List.getElem?_cons_zero]; rfl) (fun K hK => ?_) (AllReadyH.cons (by simp only [List.getElem?_toArray, List.getElem?_cons_succ, List.getElem?_cons_zero]; rfl) (fun K hK => ?_) AllReadyH.nil))
          · refine step_want (by rfl) ?_
            go_simp
            refine (H1.out _ HX).mono ?_
            rintro e x2 ⟨rfl, bc⟩
            have HX : Below wr.heap.size wr x2 := HX.trans (bc.mono HX.size)
            have g9 := (bc.block _ (Array.getElem?_eq_some_iff.1 g9).1).trans g9
            clear bc
            refine hK.out _ _ HX (fun _ => ?_)
            clear hK K
            try simp only [List.getElem_toArray, List.getElem_cons_succ, List.getElem_cons_zero, Act.put, List.setIfInBounds_toArray, List.set_cons_zero, List.set_cons_succ]
            refine wpAnyH_ready (rs := [7, 18]) (by kernel_rfl) (by simp) (AllReadyH.cons (by simp only [List.getElem?_toArray, List.getElem?_cons_succ, List.getElem?_cons_zero]; rfl) (fun K hK => ?_) (AllReadyH.cons (by simp only [List.getElem?_toArray, List.getElem?_cons_succ, List.getElem?_cons_zero]; rfl) (fun K hK => ?_) AllReadyH.nil))
            · refine step_want (by rfl) ?_
              go_simp
              refine (H2.out _ HX).mono ?_
              rintro e x3 ⟨rfl, bc⟩
              have HX : Below wr.heap.size wr x3 := HX.trans (bc.mono HX.size)
              have g9 := (bc.block _ (Array.getElem?_eq_some_iff.1 g9).1).trans g9
              clear bc
              refine hK.out _ _ HX (fun _ => ?_)
              clear hK K
              try simp only [List.getElem_toArray, List.getElem_cons_succ, List.getElem_cons_zero, Act.put, List.setIfInBounds_toArray, List.set_cons_zero, List.set_cons_succ]
              refine wpAnyH_take (i := 8) (v := .agg PA) rfl (by kernel_rfl) (by kernel_rfl) (by kernel_rfl) (fun _ _ _ h => h) (yields_build2 (by rfl) _ (.tmp 27) (.tmp 31) rfl (.agg X0) (.agg X1) rfl rfl PA hbA) HX ?_
              simp only [List.getElem_toArray, List.getElem_cons_succ, List.getElem_cons_zero, Act.put, List.setIfInBounds_toArray, List.set_cons_zero, List.set_cons_succ]
              refine wpAnyH_ready (rs := [12, 18]) (by kernel_rfl) (by simp) (AllReadyH.cons (by simp only [List.getElem?_toArray, List.getElem?_cons_succ, List.getElem?_cons_zero]; rfl) (fun K hK => ?_) (AllReadyH.cons (by simp only [List.getElem?_toArray, List.getElem?_cons_succ, List.getElem?_cons_zero]; rfl) (fun K hK => ?_) AllReadyH.nil))
              · refine step_want (by rfl) ?_
                go_simp
                refine (H3.out _ HX).mono ?_
                rintro e x4 ⟨rfl, bc⟩
                have HX : Below wr.heap.size wr x4 := HX.trans (bc.mono HX.size)
                have g9 := (bc.block _ (Array.getElem?_eq_some_iff.1 g9).1).trans g9
                clear bc
                refine hK.out _ _ HX (fun _ => ?_)
                clear hK K
                try simp only [List.getElem_toArray, List.getElem_cons_succ, List.getElem_cons_zero, Act.put, List.setIfInBounds_toArray, List.set_cons_zero, List.set_cons_succ]
                refine wpAnyH_ready (rs := [16, 18]) (by kernel_rfl) (by simp) (AllReadyH.cons (by simp only [List.getElem?_toArray, List.getElem?_cons_succ, List.getElem?_cons_zero]; rfl) (fun K hK => ?_) (AllReadyH.cons (by simp only [List.getElem?_toArray, List.getElem?_cons_succ, List.getElem?_cons_zero]; rfl) (fun K hK => ?_) AllReadyH.nil))
                · refine step_want (by rfl) ?_
                  go_simp
                  refine (H4.out _ HX).mono ?_
                  rintro e x5 ⟨rfl, bc⟩
                  have HX : Below wr.heap.size wr x5 := HX.trans (bc.mono HX.size)
                  have g9 := (bc.block _ (Array.getElem?_eq_some_iff.1 g9).1).trans g9
                  clear bc
                  refine hK.out _ _ HX (fun _ => ?_)
                  clear hK K
                  try simp only [List.getElem_toArray, List.getElem_cons_succ, List.getElem_cons_zero, Act.put, List.setIfInBounds_toArray, List.set_cons_zero, List.set_cons_succ]
                  refine wpAnyH_take (i := 17) (v := .agg PB) rfl (by kernel_rfl) (by kernel_rfl) (by kernel_rfl) (fun _ _ _ h => h) (yields_build2 (by rfl) _ (.tmp 36) (.tmp 40) rfl (.agg Y0) (.agg Y1) rfl rfl PB hbB) HX ?_
                  simp only [List.getElem_toArray, List.getElem_cons_succ, List.getElem_cons_zero, Act.put, List.setIfInBounds_toArray, List.set_cons_zero, List.set_cons_succ]
                  refine wpAnyH_ready (rs := [18]) (by kernel_rfl) (by simp) (AllReadyH.cons (by simp only [List.getElem?_toArray, List.getElem?_cons_succ, List.getElem?_cons_zero]; rfl) (fun K hK => ?_) AllReadyH.nil)
                  refine step_want (by rfl) ?_
                  obtain ⟨x6, hw, bc, g8⟩ := HPB.out x5
                  go_simp
                  have hle8 : wr.heap.size ≤ x5.heap.size := HX.size
                  have hne : b9 ≠ x5.heap.size := Nat.ne_of_lt (Array.getElem?_eq_some_iff.1 g9).1
                  have HX : Below wr.heap.size wr x6 := HX.trans (bc.mono HX.size)
                  have g9 := (bc.block _ (Array.getElem?_eq_some_iff.1 g9).1).trans g9
                  clear hw bc
                  generalize x5.heap.size = b8 at *
                  refine hK.out _ _ HX (fun _ => ?_)
                  clear hK K
                  try simp only [List.getElem_toArray, List.getElem_cons_succ, List.getElem_cons_zero, Act.put, List.setIfInBounds_toArray, List.set_cons_zero, List.set_cons_succ]
                  refine wpAnyH_ready (rs := [20]) (by kernel_rfl) (by simp) (AllReadyH.cons (by simp only [List.getElem?_toArray, List.getElem?_cons_succ, List.getElem?_cons_zero]; rfl) (fun K hK => ?_) AllReadyH.nil)
                  refine step_want (by rfl) ?_
                  refine wp_store_row 45 (.tmp 8) _ rfl b8 PA rfl rfl _ _ g8 (by rw [info_pr, sA]) (by rw [z1.out, sA]) oA ?_
                  have HX : Below wr.heap.size wr (x6.setRow b8 PA) := below_setRow HX hle8 PA
                  have g9 : (x6.setRow b8 PA).heap[b9]? = _ := (setRow_other x6 b8 b9 PA hne).trans g9
                  have g8 := heap_setRow_same (ds := PA) g8
                  generalize x6.setRow b8 PA = x7 at *
                  refine hK.out _ _ HX (fun _ => ?_)
                  clear hK K
                  try simp only [List.getElem_toArray, List.getElem_cons_succ, List.getElem_cons_zero, Act.put, List.setIfInBounds_toArray, List.set_cons_zero, List.set_cons_succ]
                  refine wpAnyH_ready (rs := [21]) (by kernel_rfl) (by simp) (AllReadyH.cons (by simp only [List.getElem?_toArray, List.getElem?_cons_succ, List.getElem?_cons_zero]; rfl) (fun K hK => ?_) AllReadyH.nil)
                  refine step_want (by rfl) ?_
                  refine wp_store_row 45 (.tmp 9) _ rfl b9 PB rfl rfl _ _ g9 (by rw [info_pr, sB]) (by rw [z1.out, sB]) oB ?_
                  have HX : Below wr.heap.size wr (x7.setRow b9 PB) := below_setRow HX hle9 PB
                  have g8 : (x7.setRow b9 PB).heap[b8]? = _ := (setRow_other x7 b9 b8 PB (Ne.symm hne)).trans g8
                  have g9 := heap_setRow_same (ds := PB) g9
                  generalize x7.setRow b9 PB = x8 at *
                  refine hK.out _ _ HX (fun _ => ?_)
                  clear hK K
                  try simp only [List.getElem_toArray, List.getElem_cons_succ, List.getElem_cons_zero, Act.put, List.setIfInBounds_toArray, List.set_cons_zero, List.set_cons_succ]
                  refine wpAnyH_done (by kernel_rfl) ?_ _
                  go_wp2_with fail
                  go_meet
                  exact ⟨rfl, b8, b9, rfl, rfl, g8, g9, HX⟩
                · refine step_want (by rfl) ?_
                  obtain ⟨x5, hw, bc, g8⟩ := HPB.out x4
                  go_simp
                  have hle8 : wr.heap.size ≤ x4.heap.size := HX.size
                  have hne : b9 ≠ x4.heap.size := Nat.ne_of_lt (Array.getElem?_eq_some_iff.1 g9).1
                  have HX : Below wr.heap.size wr x5 := HX.trans (bc.mono HX.size)
                  have g9 := (bc.block _ (Array.getElem?_eq_some_iff.1 g9).1).trans g9
                  clear hw bc
                  generalize x4.heap.size = b8 at *
                  refine hK.out _ _ HX (fun _ => ?_)
                  clear hK K
                  try simp only [List.getElem_toArray, List.getElem_cons_succ, List.getElem_cons_zero, Act.put, List.setIfInBounds_toArray, List.set_cons_zero, List.set_cons_succ]
                  refine wpAnyH_ready (rs := [16]) (by kernel_rfl) (by simp) (AllReadyH.cons (by simp only [List.getElem?_toArray, List.getElem?_cons_succ, List.getElem?_cons_zero]; rfl) (fun K hK => ?_) AllReadyH.nil)
                  refine step_want (by rfl) ?_
                  go_simp
                  refine (H4.out _ HX).mono ?_
                  rintro e x6 ⟨rfl, bc⟩
                  have HX : Below wr.heap.size wr x6 := HX.trans (bc.mono HX.size)
                  have g9 := (bc.block _ (Array.getElem?_eq_some_iff.1 g9).1).trans g9
                  have g8 := (bc.block _ (Array.getElem?_eq_some_iff.1 g8).1).trans g8
                  clear bc
                  refine hK.out _ _ HX (fun _ => ?_)
                  clear hK K
                  try simp only [List.getElem_toArray, List.getElem_cons_succ, List.getElem_cons_zero, Act.put, List.setIfInBounds_toArray, List.set_cons_zero, List.set_cons_succ]
                  refine wpAnyH_take (i := 17) (v := .agg PB) rfl (by kernel_rfl) (by kernel_rfl) (by kernel_rfl) (fun _ _ _ h => h) (yields_build2 (by rfl) _ (.tmp 36) (.tmp 40) rfl (.agg Y0) (.agg Y1) rfl rfl PB hbB) HX ?_
                  simp only [List.getElem_toArray, List.getElem_cons_succ, List.getElem_cons_zero, Act.put, List.setIfInBounds_toArray, List.set_cons_zero, List.set_cons_succ]
                  refine wpAnyH_ready (rs := [20]) (by kernel_rfl) (by simp) (AllReadyH.cons (by simp only [List.getElem?_toArray, List.getElem?_cons_succ, List.getElem?_cons_zero]; rfl) (fun K hK => ?_) AllReadyH.nil)
                  refine step_want (by rfl) ?_
                  refine wp_store_row 45 (.tmp 8) _ rfl b8 PA rfl rfl _ _ g8 (by rw [info_pr, sA]) (by rw [z1.out, sA]) oA ?_
                  have HX : Below wr.heap.size wr (x6.setRow b8 PA) := below_setRow HX hle8 PA
                  have g9 : (x6.setRow b8 PA).heap[b9]? = _ := (setRow_other x6 b8 b9 PA hne).trans g9
                  have g8 := heap_setRow_same (ds := PA) g8
                  generalize x6.setRow b8 PA = x7 at *
                  refine hK.out _ _ HX (fun _ => ?_)
                  clear hK K
                  try simp only [List.getElem_toArray, List.getElem_cons_succ, List.getElem_cons_zero, Act.put, List.setIfInBounds_toArray, List.set_cons_zero, List.set_cons_succ]
                  refine wpAnyH_ready (rs := [21]) (by kernel_rfl) (by simp) (AllReadyH.cons (by simp only [List.getElem?_toArray, List.getElem?_cons_succ, List.getElem?_cons_zero]; rfl) (fun K hK => ?_) AllReadyH.nil)
                  refine step_want (by rfl) ?_
                  refine wp_store_row 45 (.tmp 9) _ rfl b9 PB rfl rfl _ _ g9 (by rw [info_pr, sB]) (by rw [z1.out, sB]) oB ?_
                  have HX : Below wr.heap.size wr (x7.setRow b9 PB) := below_setRow HX hle9 PB
                  have g8 : (x7.setRow b9 PB).heap[b8]? = _ := (setRow_other x7 b9 b8 PB (Ne.symm hne)).trans g8
                  have g9 := heap_setRow_same (ds := PB) g9
                  generalize x7.setRow b9 PB = x8 at *
                  refine hK.out _ _ HX (fun _ => ?_)
                  clear hK K
                  try simp only [List.getElem_toArray, List.getElem_cons_succ, List.getElem_cons_zero, Act.put, List.setIfInBounds_toArray, List.set_cons_zero, List.set_cons_succ]
                  refine wpAnyH_done (by kernel_rfl) ?_ _
                  go_wp2_with fail
                  go_meet
                  exact ⟨rfl, b8, b9, rfl, rfl, g8, g9, HX⟩
              · refine step_want (by rfl) ?_
                obtain ⟨x4, hw, bc, g8⟩ := HPB.out x3
                go_simp
                have hle8 : wr.heap.size ≤ x3.heap.size := HX.size
                have hne : b9 ≠ x3.heap.size := Nat.ne_of_lt (Array.getElem?_eq_some_iff.1 g9).1
                have HX : Below wr.heap.size wr x4 := HX.trans (bc.mono HX.size)
                have g9 := (bc.block _ (Array.getElem?_eq_some_iff.1 g9).1).trans g9
                clear hw bc
                generalize x3.heap.size = b8 at *
                refine hK.out _ _ HX (fun _ => ?_)
                clear hK K
                try simp only [List.getElem_toArray, List.getElem_cons_succ, List.getElem_cons_zero, Act.put, List.setIfInBounds_toArray, List.set_cons_zero, List.set_cons_succ]
                refine wpAnyH_ready (rs := [12]) (by kernel_rfl) (by simp) (AllReadyH.cons (by simp only [List.getElem?_toArray, List.getElem?_cons_succ, List.getElem?_cons_zero]; rfl) (fun K hK => ?_) AllReadyH.nil)
                refine step_want (by rfl) ?_
                go_simp
                refine (H3.out _ HX).mono ?_
                rintro e x5 ⟨rfl, bc⟩
                have HX : Below wr.heap.size wr x5 := HX.trans (bc.mono HX.size)
                have g9 := (bc.block _ (Array.getElem?_eq_some_iff.1 g9).1).trans g9
                have g8 := (bc.block _ (Array.getElem?_eq_some_iff.1 g8).1).trans g8
                clear bc
                refine hK.out _ _ HX (fun _ => ?_)
                clear hK K
                try simp only [List.getElem_toArray, List.getElem_cons_succ, List.getElem_cons_zero, Act.put, List.setIfInBounds_toArray, List.set_cons_zero, List.set_cons_succ]
                refine wpAnyH_ready (rs := [16]) (by kernel_rfl) (by simp) (AllReadyH.cons (by simp only [List.getElem?_toArray, List.getElem?_cons_succ, List.getElem?_cons_zero]; rfl) (fun K hK => ?_) AllReadyH.nil)
                refine step_want (by rfl) ?_
                go_simp
                refine (H4.out _ HX).mono ?_
                rintro e x6 ⟨rfl, bc⟩
                have HX : Below wr.heap.size wr x6 := HX.trans (bc.mono HX.size)
                have g9 := (bc.block _ (Array.getElem?_eq_some_iff.1 g9).1).trans g9
                have g8 := (bc.block _ (Array.getElem?_eq_some_iff.1 g8).1).trans g8
                clear bc
                refine hK.out _ _ HX (fun _ => ?_)
                clear hK K
                try simp only [List.getElem_toArray, List.getElem_cons_succ, List.getElem_cons_zero, Act.put, List.setIfInBounds_toArray, List.set_cons_zero, List.set_cons_succ]
                refine wpAnyH_take (i := 17) (v := .agg PB) rfl (by kernel_rfl) (by kernel_rfl) (by kernel_rfl) (fun _ _ _ h => h) (yields_build2 (by rfl) _ (.tmp 36) (.tmp 40) rfl (.agg Y0) (.agg Y1) rfl rfl PB hbB) HX ?_
                simp only [List.getElem_toArray, List.getElem_cons_succ, List.getElem_cons_zero, Act.put, List.setIfInBounds_toArray, List.set_cons_zero, List.set_cons_succ]
                refine wpAnyH_ready (rs := [20]) (by kernel_rfl) (by simp) (AllReadyH.cons (by simp only [List.getElem?_toArray, List.getElem?_cons_succ, List.getElem?_cons_zero]; rfl) (fun K hK => ?_) AllReadyH.nil)
                refine step_want (by rfl) ?_
                refine wp_store_row 45 (.tmp 8) _ rfl b8 PA rfl rfl _ _ g8 (by rw [info_pr, sA]) (by rw [z1.out, sA]) oA ?_
                have HX : Below wr.heap.size wr (x6.setRow b8 PA) := below_setRow HX hle8 PA
                have g9 : (x6.setRow b8 PA).heap[b9]? = _ := (setRow_other x6 b8 b9 PA hne).trans g9
                have g8 := heap_setRow_same (ds := PA) g8
                generalize x6.setRow b8 PA = x7 at *
                refine hK.out _ _ HX (fun _ => ?_)
                clear hK K
                try simp only [List.getElem_toArray, List.getElem_cons_succ, List.getElem_cons_zero, Act.put, List.setIfInBounds_toArray, List.set_cons_zero, List.set_cons_succ]
                refine wpAnyH_ready (rs := [21]) (by kernel_rfl) (by simp) (AllReadyH.cons (by simp only [List.getElem?_toArray, List.getElem?_cons_succ, List.getElem?_cons_zero]; rfl) (fun K hK => ?_) AllReadyH.nil)
                refine step_want (by rfl) ?_
                refine wp_store_row 45 (.tmp 9) _ rfl b9 PB rfl rfl _ _ g9 (by rw [info_pr, sB]) (by rw [z1.out, sB]) oB ?_
                have HX : Below wr.heap.size wr (x7.setRow b9 PB) := below_setRow HX hle9 PB
                have g8 : (x7.setRow b9 PB).heap[b8]? = _ := (setRow_other x7 b9 b8 PB (Ne.symm hne)).trans g8
                have g9 := heap_setRow_same (ds := PB) g9
                generalize x7.setRow b9 PB = x8 at *
                refine hK.out _ _ HX (fun _ => ?_)
                clear hK K
                try simp only [List.getElem_toArray, List.getElem_cons_succ, List.getElem_cons_zero, Act.put, List.setIfInBounds_toArray, List.set_cons_zero, List.set_cons_succ]
                refine wpAnyH_done (by kernel_rfl) ?_ _
                go_wp2_with fail
                go_meet
                exact ⟨rfl, b8, b9, rfl, rfl, g8, g9, HX⟩
            · refine step_want (by rfl) ?_
              obtain ⟨x3, hw, bc, g8⟩ := HPB.out x2
              go_simp
              have hle8 : wr.heap.size ≤ x2.heap.size := HX.size
              have hne : b9 ≠ x2.heap.size := Nat.ne_of_lt (Array.getElem?_eq_some_iff.1 g9).1
              have HX : Below wr.heap.size wr x3 := HX.trans (bc.mono HX.size)
              have g9 := (bc.block _ (Array.getElem?_eq_some_iff.1 g9).1).trans g9
              clear hw bc
              generalize x2.heap.size = b8 at *
              refine hK.out _ _ HX (fun _ => ?_)
              clear hK K
              try simp only [List.getElem_toArray, List.getElem_cons_succ, List.getElem_cons_zero, Act.put, List.setIfInBounds_toArray, List.set_cons_zero, List.set_cons_succ]
              refine wpAnyH_ready (rs := [7]) (by kernel_rfl) (by simp) (AllReadyH.cons (by simp only [List.getElem?_toArray, List.getElem?_cons_succ, List.getElem?_cons_zero]; rfl) (fun K hK => ?_) AllReadyH.nil)
              refine step_want (by rfl) ?_
              go_simp
              refine (H2.out _ HX).mono ?_
              rintro e x4 ⟨rfl, bc⟩
              have HX : Below wr.heap.size wr x4 := HX.trans (bc.mono HX.size)
              have g9 := (bc.block _ (Array.getElem?_eq_some_iff.1 g9).1).trans g9
              have g8 := (bc.block _ (Array.getElem?_eq_some_iff.1 g8).1).trans g8
              clear bc
              refine hK.out _ _ HX (fun _ => ?_)
              clear hK K
              try simp only [List.getElem_toArray, List.getElem_cons_succ, List.getElem_cons_zero, Act.put, List.setIfInBounds_toArray, List.set_cons_zero, List.set_cons_succ]
              refine wpAnyH_take (i := 8) (v := .agg PA) rfl (by kernel_rfl) (by kernel_rfl) (by kernel_rfl) (fun _ _ _ h => h) (yields_build2 (by rfl) _ (.tmp 27) (.tmp 31) rfl (.agg X0) (.agg X1) rfl rfl PA hbA) HX ?_
              simp only [List.getElem_toArray, List.getElem_cons_succ, List.getElem_cons_zero, Act.put, List.setIfInBounds_toArray, List.set_cons_zero, List.set_cons_succ]
              refine wpAnyH_ready (rs := [12]) (by kernel_rfl) (by simp) (AllReadyH.cons (by simp only [List.getElem?_toArray, List.getElem?_cons_succ, List.getElem?_cons_zero]; rfl) (fun K hK => ?_) AllReadyH.nil)
              refine step_want (by rfl) ?_
              go_simp
              refine (H3.out _ HX).mono ?_
              rintro e x5 ⟨rfl, bc⟩
              have HX : Below wr.heap.size wr x5 := HX.trans (bc.mono HX.size)
              have g9 := (bc.block _ (Array.getElem?_eq_some_iff.1 g9).1).trans g9
              have g8 := (bc.block _ (Array.getElem?_eq_some_iff.1 g8).1).trans g8
              clear bc
              refine hK.out _ _ HX (fun _ => ?_)
              clear hK K
              try simp only [List.getElem_toArray, List.getElem_cons_succ, List.getElem_cons_zero, Act.put, List.setIfInBounds_toArray, List.set_cons_zero, List.set_cons_succ]
              refine wpAnyH_ready (rs := [16]) (by kernel_rfl) (by simp) (AllReadyH.cons (by simp only [List.getElem?_toArray, List.getElem?_cons_succ, List.getElem?_cons_zero]; rfl) (fun K hK => ?_) AllReadyH.nil)
              refine step_want (by rfl) ?_
              go_simp
              refine (H4.out _ HX).mono ?_
              rintro e x6 ⟨rfl, bc⟩
              have HX : Below wr.heap.size wr x6 := HX.trans (bc.mono HX.size)
              have g9 := (bc.block _ (Array.getElem?_eq_some_iff.1 g9).1).trans g9
              have g8 := (bc.block _ (Array.getElem?_eq_some_iff.1 g8).1).trans g8
              clear bc
              refine hK.out _ _ HX (fun _ => ?_)
              clear hK K
              try simp only [List.getElem_toArray, List.getElem_cons_succ, List.getElem_cons_zero, Act.put, List.setIfInBounds_toArray, List.set_cons_zero, List.set_cons_succ]
              refine wpAnyH_take (i := 17) (v := .agg PB) rfl (by kernel_rfl) (by kernel_rfl) (by kernel_rfl) (fun _ _ _ h => h) (yields_build2 (by rfl) _ (.tmp 36) (.tmp 40) rfl (.agg Y0) (.agg Y1) rfl rfl PB hbB) HX ?_
              simp only [List.getElem_toArray, List.getElem_cons_succ, List.getElem_cons_zero, Act.put, List.setIfInBounds_toArray, List.set_cons_zero, List.set_cons_succ]
              refine wpAnyH_ready (rs := [20]) (by kernel_rfl) (by simp) (AllReadyH.cons (by simp only [List.getElem?_toArray, List.getElem?_cons_succ, List.getElem?_cons_zero]; rfl) (fun K hK => ?_) AllReadyH.nil)
              refine step_want (by rfl) ?_
              refine wp_store_row 45 (.tmp 8) _ rfl b8 PA rfl rfl _ _ g8 (by rw [info_pr, sA]) (by rw [z1.out, sA]) oA ?_
              have HX : Below wr.heap.size wr (x6.setRow b8 PA) := below_setRow HX hle8 PA
              have g9 : (x6.setRow b8 PA).heap[b9]? = _ := (setRow_other x6 b8 b9 PA hne).trans g9
              have g8 := heap_setRow_same (ds := PA) g8
              generalize x6.setRow b8 PA = x7 at *
              refine hK.out _ _ HX (fun _ => ?_)
              clear hK K
              try simp only [List.getElem_toArray, List.getElem_cons_succ, List.getElem_cons_zero, Act.put, List.setIfInBounds_toArray, List.set_cons_zero, List.set_cons_succ]
              refine wpAnyH_ready (rs := [21]) (by kernel_rfl) (by simp) (AllReadyH.cons (by simp only [List.getElem?_toArray, List.getElem?_cons_succ, List.getElem?_cons_zero]; rfl) (fun K hK => ?_) AllReadyH.nil)
              refine step_want (by rfl) ?_
              refine wp_store_row 45 (.tmp 9) _ rfl b9 PB rfl rfl _ _ g9 (by rw [info_pr, sB]) (by rw [z1.out, sB]) oB ?_
              have HX : Below wr.heap.size wr (x7.setRow b9 PB) := below_setRow HX hle9 PB
              have g8 : (x7.setRow b9 PB).heap[b8]? = _ := (setRow_other x7 b9 b8 PB (Ne.symm hne)).trans g8
              have g9 := heap_setRow_same (ds := PB) g9
              generalize x7.setRow b9 PB = x8 at *
              refine hK.out _ _ HX (fun _ => ?_)
              clear hK K
              try simp only [List.getElem_toArray, List.getElem_cons_succ, List.getElem_cons_zero, Act.put, List.setIfInBounds_toArray, List.set_cons_zero, List.set_cons_succ]
              refine wpAnyH_done (by kernel_rfl) ?_ _
              go_wp2_with fail
              go_meet
              exact ⟨rfl, b8, b9, rfl, rfl, g8, g9, HX⟩
          · refine step_want (by rfl) ?_
            obtain ⟨x2, hw, bc, g8⟩ := HPB.out x1
            go_simp
            have hle8 : wr.heap.size ≤ x1.heap.size := HX.size
            have hne : b9 ≠ x1.heap.size := Nat.ne_of_lt (Array.getElem?_eq_some_iff.1 g9).1
            have HX : Below wr.heap.size wr x2 := HX.trans (bc.mono HX.size)
            have g9 := (bc.block _ (Array.getElem?_eq_some_iff.1 g9).1).trans g9
            clear hw bc
            generalize x1.heap.size = b8 at *
            refine hK.out _ _ HX (fun _ => ?_)
            clear hK K
            try simp only [List.getElem_toArray, List.getElem_cons_succ, List.getElem_cons_zero, Act.put, List.setIfInBounds_toArray, List.set_cons_zero, List.set_cons_succ]
            refine wpAnyH_ready (rs := [3]) (by kernel_rfl) (by simp) (AllReadyH.cons (by simp only [List.getElem?_toArray, List.getElem?_cons_succ, List.getElem?_cons_zero]; rfl) (fun K hK => ?_) AllReadyH.nil)
            refine step_want (by rfl) ?_
            go_simp
            refine (H1.out _ HX).mono ?_
            rintro e x3 ⟨rfl, bc⟩
            have HX : Below wr.heap.size wr x3 := HX.trans (bc.mono HX.size)
            have g9 := (bc.block _ (Array.getElem?_eq_some_iff.1 g9).1).trans g9
            have g8 := (bc.block _ (Array.getElem?_eq_some_iff.1 g8).1).trans g8
            clear bc
            refine hK.out _ _ HX (fun _ => ?_)
            clear hK K
            try simp only [List.getElem_toArray, List.getElem_cons_succ, List.getElem_cons_zero, Act.put, List.setIfInBounds_toArray, List.set_cons_zero, List.set_cons_succ]
            refine wpAnyH_ready (rs := [7]) (by kernel_rfl) (by simp) (AllReadyH.cons (by simp only [List.getElem?_toArray, List.getElem?_cons_succ, List.getElem?_cons_zero]; rfl) (fun K hK => ?_) AllReadyH.nil)
            refine step_want (by rfl) ?_
            go_simp
            refine (H2.out _ HX).mono ?_
            rintro e x4 ⟨rfl, bc⟩
            have HX : Below wr.heap.size wr x4 := HX.trans (bc.mono HX.size)
            have g9 := (bc.block _ (Array.getElem?_eq_some_iff.1 g9).1).trans g9
            have g8 := (bc.block _ (Array.getElem?_eq_some_iff.1 g8).1).trans g8
            clear bc
            refine hK.out _ _ HX (fun _ => ?_)
            clear hK K
            try simp only [List.getElem_toArray, List.getElem_cons_succ, List.getElem_cons_zero, Act.put, List.setIfInBounds_toArray, List.set_cons_zero, List.set_cons_succ]
            refine wpAnyH_take (i := 8) (v := .agg PA) rfl (by kernel_rfl) (by kernel_rfl) (by kernel_rfl) (fun _ _ _ h => h) (yields_build2 (by rfl) _ (.tmp 27) (.tmp 31) rfl (.agg X0) (.agg X1) rfl rfl PA hbA) HX ?_
            simp only [List.getElem_toArray, List.getElem_cons_succ, List.getElem_cons_zero, Act.put, List.setIfInBounds_toArray, List.set_cons_zero, List.set_cons_succ]
            refine wpAnyH_ready (rs := [12]) (by kernel_rfl) (by simp) (AllReadyH.cons (by simp only [List.getElem?_toArray, List.getElem?_cons_succ, List.getElem?_cons_zero]; rfl) (fun K hK => ?_) AllReadyH.nil)
            refine step_want (by rfl) ?_
            go_simp
            refine (H3.out _ HX).mono ?_
            rintro e x5 ⟨rfl, bc⟩
            have HX : Below wr.heap.size wr x5 := HX.trans (bc.mono HX.size)
            have g9 := (bc.block _ (Array.getElem?_eq_some_iff.1 g9).1).trans g9
            have g8 := (bc.block _ (Array.getElem?_eq_some_iff.1 g8).1).trans g8
            clear bc
            refine hK.out _ _ HX (fun _ => ?_)
            clear hK K
            try simp only [List.getElem_toArray, List.getElem_cons_succ, List.getElem_cons_zero, Act.put, List.setIfInBounds_toArray, List.set_cons_zero, List.set_cons_succ]
            refine wpAnyH_ready (rs := [16]) (by kernel_rfl) (by simp) (AllReadyH.cons (by simp only [List.getElem?_toArray, List.getElem?_cons_succ, List.getElem?_cons_zero]; rfl) (fun K hK => ?_) AllReadyH.nil)
            refine step_want (by rfl) ?_
            go_simp
            refine (H4.out _ HX).mono ?_
            rintro e x6 ⟨rfl, bc⟩
            have HX : Below wr.heap.size wr x6 := HX.trans (bc.mono HX.size)
            have g9 := (bc.block _ (Array.getElem?_eq_some_iff.1 g9).1).trans g9
            have g8 := (bc.block _ (Array.getElem?_eq_some_iff.1 g8).1).trans g8
            clear bc
            refine hK.out _ _ HX (fun _ => ?_)
            clear hK K
            try simp only [List.getElem_toArray, List.getElem_cons_succ, List.getElem_cons_zero, Act.put, List.setIfInBounds_toArray, List.set_cons_zero, List.set_cons_succ]
            refine wpAnyH_take (i := 17) (v := .agg PB) rfl (by kernel_rfl) (by kernel_rfl) (by kernel_rfl) (fun _ _ _ h => h) (yields_build2 (by rfl) _ (.tmp 36) (.tmp 40) rfl (.agg Y0) (.agg Y1) rfl rfl PB hbB) HX ?_
            simp only [List.getElem_toArray, List.getElem_cons_succ, List.getElem_cons_zero, Act.put, List.setIfInBounds_toArray, List.set_cons_zero, List.set_cons_succ]
            refine wpAnyH_ready (rs := [20]) (by kernel_rfl) (by simp) (AllReadyH.cons (by simp only [List.getElem?_toArray, List.getElem?_cons_succ, List.getElem?_cons_zero]; rfl) (fun K hK => ?_) AllReadyH.nil)
            refine step_want (by rfl) ?_
            refine wp_store_row 45 (.tmp 8) _ rfl b8 PA rfl rfl _ _ g8 (by rw [info_pr, sA]) (by rw [z1.out, sA]) oA ?_
            have HX : Below wr.heap.size wr (x6.setRow b8 PA) := below_setRow HX hle8 PA
            have g9 : (x6.setRow b8 PA).heap[b9]? = _ := (setRow_other x6 b8 b9 PA hne).trans g9
            have g8 := heap_setRow_same (ds := PA) g8
            generalize x6.setRow b8 PA = x7 at *
            refine hK.out _ _ HX (fun _ => ?_)
            clear hK K
            try simp only [List.getElem_toArray, List.getElem_cons_succ, List.getElem_cons_zero, Act.put, List.setIfInBounds_toArray, List.set_cons_zero, List.set_cons_succ]
            refine wpAnyH_ready (rs := [21]) (by kernel_rfl) (by simp) (AllReadyH.cons (by simp only [List.getElem?_toArray, List.getElem?_cons_succ, List.getElem?_cons_zero]; rfl) (fun K hK => ?_) AllReadyH.nil)
            refine step_want (by rfl) ?_
            refine wp_store_row 45 (.tmp 9) _ rfl b9 PB rfl rfl _ _ g9 (by rw [info_pr, sB]) (by rw [z1.out, sB]) oB ?_
            have HX : Below wr.heap.size wr (x7.setRow b9 PB) := below_setRow HX hle9 PB
            have g8 : (x7.setRow b9 PB).heap[b8]? = _ := (setRow_other x7 b9 b8 PB (Ne.symm hne)).trans g8
            have g9 := heap_setRow_same (ds := PB) g9
            generalize x7.setRow b9 PB = x8 at *
            refine hK.out _ _ HX (fun _ => ?_)
            clear hK K
            try simp only [List.getElem_toArray, List.getElem_cons_succ, List.getElem_cons_zero, Act.put, List.setIfInBounds_toArray, List.set_cons_zero, List.set_cons_succ]
            refine wpAnyH_done (by kernel_rfl) ?_ _
            go_wp2_with fail
            go_meet
            exact ⟨rfl, b8, b9, rfl, rfl, g8, g9, HX⟩
      case rest =>
        obtain ⟨rfl, b8, b9, rfl, rfl, g8, g9, hX⟩ := hcut
        clear H1 H2 H3 H4 hbA hbB HSp q1 q2
        have HX0 : Hid (Below wr.heap.size wr wc) := hX
        have HWc : Hid (∀ w', Below wc.heap.size wc w' → Below w.heap.size w w') := fun w' h => HW.out w' (HX0.out.trans (h.mono HX0.out.size))
        have GA : Hid (∀ w', Below wc.heap.size wc w' → w'.rangeAt b8 0 (hv (x0 ++ x1)).toList) := fun w' h => range_stays (range_all g8) h
        have GB : Hid (∀ w', Below wc.heap.size wc w' → w'.rangeAt b9 0 (hv (y0 ++ y1)).toList) := fun w' h => range_stays (range_all g9) h
        have GA0 : Hid (∀ w', Below wc.heap.size wc w' → w'.rangeAt b8 0 (hv x0).toList) := fun w' h => range_stays (range_fst g8) h
        have GA1 : Hid (∀ w', Below wc.heap.size wc w' → w'.rangeAt b8 32 (hv x1).toList) := fun w' h => range_stays (range_snd l0 g8) h
        have GB0 : Hid (∀ w', Below wc.heap.size wc w' → w'.rangeAt b9 0 (hv y0).toList) := fun w' h => range_stays (range_fst g9) h
        have GB1 : Hid (∀ w', Below wc.heap.size wc w' → w'.rangeAt b9 32 (hv y1).toList) := fun w' h => range_stays (range_snd m0 g9) h
        have HN1 : Hid (∀ w', Below wc.heap.size wc w' → Calls Tryd.prog 15 #[.agg (hv x0), .agg (hv x1)] w' fun e w'' => e = .returned (.agg (hv (nodeL x0 x1))) ∧ Below w'.heap.size w' w'') := fun w' h => node_any x0 x1 w' (HK.out w' (HWc.out w' h)) l0 l1
        have HN2 : Hid (∀ w', Below wc.heap.size wc w' → Calls Tryd.prog 15 #[.agg (hv y0), .agg (hv y1)] w' fun e w'' => e = .returned (.agg (hv (nodeL y0 y1))) ∧ Below w'.heap.size w' w'') := fun w' h => node_any y0 y1 w' (HK.out w' (HWc.out w' h)) m0 m1
        have hneq : ∀ w9 : World, (binOp .neq 45 (.agg (hv (x0 ++ x1))) (.agg (hv (y0 ++ y1)))).run Tryd.prog w9 = .ok (.bool (!(x0 == y0 && x1 == y1))) w9 := fun w9 => neq_pair w9 x0 x1 y0 y1 l0 l1 m0 m1
        have heq : ∀ w9 : World, (binOp .eql 23 (.agg (hv (nodeL x0 x1))) (.agg (hv (nodeL y0 y1)))).run Tryd.prog w9 = .ok (.bool (nodeL x0 x1 == nodeL y0 y1)) w9 := fun w9 => eqH w9 _ _ (shaL_length _) (shaL_length _)
        have iA : Hid ((Tryd.prog.info? 45).map (·.size) = some (hv (x0 ++ x1)).toList.length) := by show _ = _; rw [info_pr, Array.length_toList, hv_size, List.length_append, l0, l1]
        have iB : Hid ((Tryd.prog.info? 45).map (·.size) = some (hv (y0 ++ y1)).toList.length) := by show _ = _; rw [info_pr, Array.length_toList, hv_size, List.length_append, m0, m1]
        have ic0 : Hid ((Tryd.prog.info? 23).map (·.size) = some (hv x0).toList.length) := by show _ = _; rw [info_h32, Array.length_toList, hv_size, l0]
        have ic1 : Hid ((Tryd.prog.info? 23).map (·.size) = some (hv x1).toList.length) := by show _ = _; rw [info_h32, Array.length_toList, hv_size, l1]
        have j0 : Hid ((Tryd.prog.info? 23).map (·.size) = some (hv y0).toList.length) := by show _ = _; rw [info_h32, Array.length_toList, hv_size, m0]
        have j1 : Hid ((Tryd.prog.info? 23).map (·.size) = some (hv y1).toList.length) := by show _ = _; rw [info_h32, Array.length_toList, hv_size, m1]
        have hcol := HCol2.out
        have tA : (A.take k).length = k := by rw [List.length_take]; omega
        have tB : (B.take k).length = k := by rw [List.length_take]; omega
        have dA : (A.drop k).length = n - k := by rw [List.length_drop]; omega
        have dB : (B.drop k).length = n - k := by rw [List.length_drop]; omega
        have hsame : (x0 == y0 && x1 == y1) = true ↔ ¬ (x0 ≠ y0 ∨ x1 ≠ y1) := by
          rw [Bool.and_eq_true, beq_iff_eq, beq_iff_eq]
          exact ⟨fun h h2 => h2.elim (fun q => q h.1) (fun q => q h.2), fun h => ⟨Decidable.byContradiction fun q => h (.inl q), Decidable.byContradiction fun q => h (.inr q)⟩⟩
        clear g8 g9 hX l0 l1 m0 m1 HW HKr
        by_cases hs : (x0 == y0 && x1 == y1) = true
        · rw [if_neg (fun h => hsame.1 hs h.1)] at hcol
          rw [hs] at hneq
          have hneq : ∀ w9 : World, (binOp .neq 45 (.agg (hv (x0 ++ x1))) (.agg (hv (y0 ++ y1)))).run Tryd.prog w9 = .ok (.bool false) w9 := hneq
          clear hs hsame heq
          generalize hv (x0 ++ x1) = PA at *
          generalize hv (y0 ++ y1) = PB at *
          generalize hv (nodeL x0 x1) = N1 at *
          generalize hv (nodeL y0 y1) = N2 at *
          generalize hv x0 = X0 at *
          generalize hv x1 = X1 at *
          generalize hv y0 = Y0 at *
          generalize hv y1 = Y1 at *
          go_upto_region 6 with fail
          refine wp_region_held (S := Below wc.heap.size wc) (by kernel_rfl) ?_
          change wpAnyH _ _ _ _ _ _ _ _ (World.drew _)
          have HX : Below wc.heap.size wc wc.drew := (Below.refl _ _).drew
          generalize World.drew _ = x0w at *
          refine wpAnyH_take (i := 0) (v := .agg PA) rfl (by kernel_rfl) (by kernel_rfl) (by kernel_rfl) (fun _ _ _ h => h) (yieldsIf_load_mid (by rfl) 45 _ rfl b8 0 rfl (PA).toList _ (fun w' h => GA.out w' h) Tryd.underlying45 rfl iA.out) HX ?_
          simp only [List.getElem_toArray, List.getElem_cons_succ, List.getElem_cons_zero, Act.put, List.setIfInBounds_toArray, List.set_cons_zero, List.set_cons_succ]
          refine wpAnyH_take (i := 1) (v := .agg PB) rfl (by kernel_rfl) (by kernel_rfl) (by kernel_rfl) (fun _ _ _ h => h) (yieldsIf_load_mid (by rfl) 45 _ rfl b9 0 rfl (PB).toList _ (fun w' h => GB.out w' h) Tryd.underlying45 rfl iB.out) HX ?_
          simp only [List.getElem_toArray, List.getElem_cons_succ, List.getElem_cons_zero, Act.put, List.setIfInBounds_toArray, List.set_cons_zero, List.set_cons_succ]
          refine wpAnyH_take (i := 2) (v := .bool false) rfl (by kernel_rfl) (by kernel_rfl) (by kernel_rfl) (fun _ _ _ h => h) (Or.inl ⟨by rfl, by intro w9 _; go_simp⟩) HX ?_
          simp only [List.getElem_toArray, List.getElem_cons_succ, List.getElem_cons_zero, Act.put, List.setIfInBounds_toArray, List.set_cons_zero, List.set_cons_succ]
          refine wpAnyH_take (i := 3) (v := .bool false) rfl (by kernel_rfl) (by kernel_rfl) (by kernel_rfl) (fun _ _ _ h => h) (Or.inl ⟨by rfl, by intro w9 _; go_simp⟩) HX ?_
          simp only [List.getElem_toArray, List.getElem_cons_succ, List.getElem_cons_zero, Act.put, List.setIfInBounds_toArray, List.set_cons_zero, List.set_cons_succ]
          refine wpAnyH_take (i := 4) (v := undef) rfl (by kernel_rfl) (by kernel_rfl) (by kernel_rfl) (fun _ _ _ h => h) (Or.inr ⟨by rfl, rfl⟩) HX ?_
          simp only [List.getElem_toArray, List.getElem_cons_succ, List.getElem_cons_zero, Act.put, List.setIfInBounds_toArray, List.set_cons_zero, List.set_cons_succ]
          refine wpAnyH_take (i := 5) (v := undef) rfl (by kernel_rfl) (by kernel_rfl) (by kernel_rfl) (fun _ _ _ h => h) (Or.inr ⟨by rfl, rfl⟩) HX ?_
          simp only [List.getElem_toArray, List.getElem_cons_succ, List.getElem_cons_zero, Act.put, List.setIfInBounds_toArray, List.set_cons_zero, List.set_cons_succ]
          refine wpAnyH_take (i := 6) (v := undef) rfl (by kernel_rfl) (by kernel_rfl) (by kernel_rfl) (fun _ _ _ h => h) (Or.inr ⟨by rfl, rfl⟩) HX ?_
          simp only [List.getElem_toArray, List.getElem_cons_succ, List.getElem_cons_zero, Act.put, List.setIfInBounds_toArray, List.set_cons_zero, List.set_cons_succ]
          refine wpAnyH_take (i := 7) (v := undef) rfl (by kernel_rfl) (by kernel_rfl) (by kernel_rfl) (fun _ _ _ h => h) (Or.inr ⟨by rfl, rfl⟩) HX ?_
          simp only [List.getElem_toArray, List.getElem_cons_succ, List.getElem_cons_zero, Act.put, List.setIfInBounds_toArray, List.set_cons_zero, List.set_cons_succ]
          refine wpAnyH_take (i := 8) (v := undef) rfl (by kernel_rfl) (by kernel_rfl) (by kernel_rfl) (fun _ _ _ h => h) (Or.inr ⟨by rfl, rfl⟩) HX ?_
          simp only [List.getElem_toArray, List.getElem_cons_succ, List.getElem_cons_zero, Act.put, List.setIfInBounds_toArray, List.set_cons_zero, List.set_cons_succ]
          refine wpAnyH_take (i := 9) (v := undef) rfl (by kernel_rfl) (by kernel_rfl) (by kernel_rfl) (fun _ _ _ h => h) (Or.inr ⟨by rfl, rfl⟩) HX ?_
          simp only [List.getElem_toArray, List.getElem_cons_succ, List.getElem_cons_zero, Act.put, List.setIfInBounds_toArray, List.set_cons_zero, List.set_cons_succ]
          refine wpAnyH_take (i := 10) (v := undef) rfl (by kernel_rfl) (by kernel_rfl) (by kernel_rfl) (fun _ _ _ h => h) (Or.inr ⟨by rfl, rfl⟩) HX ?_
          simp only [List.getElem_toArray, List.getElem_cons_succ, List.getElem_cons_zero, Act.put, List.setIfInBounds_toArray, List.set_cons_zero, List.set_cons_succ]
          refine wpAnyH_take (i := 11) (v := undef) rfl (by kernel_rfl) (by kernel_rfl) (by kernel_rfl) (fun _ _ _ h => h) (Or.inr ⟨by rfl, rfl⟩) HX ?_
          simp only [List.getElem_toArray, List.getElem_cons_succ, List.getElem_cons_zero, Act.put, List.setIfInBounds_toArray, List.set_cons_zero, List.set_cons_succ]
          refine wpAnyH_take (i := 12) (v := undef) rfl (by kernel_rfl) (by kernel_rfl) (by kernel_rfl) (fun _ _ _ h => h) (Or.inr ⟨by rfl, rfl⟩) HX ?_
          simp only [List.getElem_toArray, List.getElem_cons_succ, List.getElem_cons_zero, Act.put, List.setIfInBounds_toArray, List.set_cons_zero, List.set_cons_succ]
          refine wpAnyH_take (i := 13) (v := undef) rfl (by kernel_rfl) (by kernel_rfl) (by kernel_rfl) (fun _ _ _ h => h) (Or.inr ⟨by rfl, rfl⟩) HX ?_
          simp only [List.getElem_toArray, List.getElem_cons_succ, List.getElem_cons_zero, Act.put, List.setIfInBounds_toArray, List.set_cons_zero, List.set_cons_succ]
          refine wpAnyH_take (i := 14) (v := undef) rfl (by kernel_rfl) (by kernel_rfl) (by kernel_rfl) (fun _ _ _ h => h) (Or.inr ⟨by rfl, rfl⟩) HX ?_
          simp only [List.getElem_toArray, List.getElem_cons_succ, List.getElem_cons_zero, Act.put, List.setIfInBounds_toArray, List.set_cons_zero, List.set_cons_succ]
          refine wpAnyH_take (i := 15) (v := .bool false) rfl (by kernel_rfl) (by kernel_rfl) (by kernel_rfl) (fun _ _ _ h => h) (Or.inl ⟨by rfl, by intro w9 _; go_simp⟩) HX ?_
          simp only [List.getElem_toArray, List.getElem_cons_succ, List.getElem_cons_zero, Act.put, List.setIfInBounds_toArray, List.set_cons_zero, List.set_cons_succ]
          refine wpAnyH_done (by kernel_rfl) ?_ _
          have HXf : Hid (Below wc.heap.size wc x0w) := HX
          clear HX
          by_cases hik : i < k
          · rw [if_pos hik] at hcol
            have hik2 : (i : Int) < (k : Int) := by omega
            go_upto_region 9 with fail
            refine wp_region_held (S := Below x0w.heap.size x0w) (by kernel_rfl) ?_
            change wpAnyH _ _ _ _ _ _ _ _ (World.drew _)
            have HY : Below x0w.heap.size x0w x0w.drew := (Below.refl _ _).drew
            generalize World.drew _ = wd at *
            refine wpAnyH_take (i := 0) (v := .slice (some ⟨a1, o1, none⟩) n c1) rfl (by kernel_rfl) (by kernel_rfl) (by kernel_rfl) (fun _ _ _ h => h) (Or.inl ⟨by rfl, by intro w9 _; go_simp⟩) HY ?_
            simp only [List.getElem_toArray, List.getElem_cons_succ, List.getElem_cons_zero, Act.put, List.setIfInBounds_toArray, List.set_cons_zero, List.set_cons_succ]
            refine wpAnyH_take (i := 1) (v := .int .i64 k) rfl (by kernel_rfl) (by kernel_rfl) (by kernel_rfl) (fun _ _ _ h => h) (Or.inl ⟨by rfl, by intro w9 _; go_simp⟩) HY ?_
            simp only [List.getElem_toArray, List.getElem_cons_succ, List.getElem_cons_zero, Act.put, List.setIfInBounds_toArray, List.set_cons_zero, List.set_cons_succ]
            refine wpAnyH_take (i := 2) (v := .slice (some ⟨a1, o1, none⟩) k c1) rfl (by kernel_rfl) (by kernel_rfl) (by kernel_rfl) (fun _ _ _ h => h) (Or.inl ⟨by rfl, by intro w9 _; go_simp⟩) HY ?_
            simp only [List.getElem_toArray, List.getElem_cons_succ, List.getElem_cons_zero, Act.put, List.setIfInBounds_toArray, List.set_cons_zero, List.set_cons_succ]
            refine wpAnyH_take (i := 3) (v := .slice (some ⟨a2, o2, none⟩) n c2) rfl (by kernel_rfl) (by kernel_rfl) (by kernel_rfl) (fun _ _ _ h => h) (Or.inl ⟨by rfl, by intro w9 _; go_simp⟩) HY ?_
            simp only [List.getElem_toArray, List.getElem_cons_succ, List.getElem_cons_zero, Act.put, List.setIfInBounds_toArray, List.set_cons_zero, List.set_cons_succ]
            refine wpAnyH_take (i := 4) (v := .int .i64 k) rfl (by kernel_rfl) (by kernel_rfl) (by kernel_rfl) (fun _ _ _ h => h) (Or.inl ⟨by rfl, by intro w9 _; go_simp⟩) HY ?_
            simp only [List.getElem_toArray, List.getElem_cons_succ, List.getElem_cons_zero, Act.put, List.setIfInBounds_toArray, List.set_cons_zero, List.set_cons_succ]
            refine wpAnyH_take (i := 5) (v := .slice (some ⟨a2, o2, none⟩) k c2) rfl (by kernel_rfl) (by kernel_rfl) (by kernel_rfl) (fun _ _ _ h => h) (Or.inl ⟨by rfl, by intro w9 _; go_simp⟩) HY ?_
            simp only [List.getElem_toArray, List.getElem_cons_succ, List.getElem_cons_zero, Act.put, List.setIfInBounds_toArray, List.set_cons_zero, List.set_cons_succ]
            refine wpAnyH_take (i := 6) (v := .slice (some ⟨a1, o1, none⟩) k c1) rfl (by kernel_rfl) (by kernel_rfl) (by kernel_rfl) (fun _ _ _ h => h) (Or.inl ⟨by rfl, by intro w9 _; go_simp⟩) HY ?_
            simp only [List.getElem_toArray, List.getElem_cons_succ, List.getElem_cons_zero, Act.put, List.setIfInBounds_toArray, List.set_cons_zero, List.set_cons_succ]
            refine wpAnyH_take (i := 7) (v := .slice (some ⟨a2, o2, none⟩) k c2) rfl (by kernel_rfl) (by kernel_rfl) (by kernel_rfl) (fun _ _ _ h => h) (Or.inl ⟨by rfl, by intro w9 _; go_simp⟩) HY ?_
            simp only [List.getElem_toArray, List.getElem_cons_succ, List.getElem_cons_zero, Act.put, List.setIfInBounds_toArray, List.set_cons_zero, List.set_cons_succ]
            refine wpAnyH_done (by kernel_rfl) ?_ _
            have HXd : Hid (Below wc.heap.size wc wd) := HXf.out.trans (HY.mono HXf.out.size)
            clear HY
            go_wp2
            go_roundw
            case rel => exact ⟨A.take k, B.take k, i, k, a1, o1, c1, a2, o2, c2, tA, tB, hik, by omega, f8, f9, rfl, rfl, rfl, HAt.out _ (HX0.out.trans (HXd.out.mono HX0.out.size)), HBt.out _ (HX0.out.trans (HXd.out.mono HX0.out.size)), by rw [HCol.out]; exact hcol, HWc.out _ HXd.out⟩
            case measure => simp [lenV]; omega
          · rw [if_neg hik] at hcol
            have hik2 : ¬ (i : Int) < (k : Int) := by omega
            have hwr : IntKind.i64.wrap ((i : Int) - (k : Int)) = (i : Int) - (k : Int) := by rw [IntKind.wrap_i64]; omega
            go_upto_region 10 with fail
            refine wp_region_held (S := Below x0w.heap.size x0w) (by kernel_rfl) ?_
            change wpAnyH _ _ _ _ _ _ _ _ (World.drew _)
            have HY : Below x0w.heap.size x0w x0w.drew := (Below.refl _ _).drew
            generalize World.drew _ = wd at *
            refine wpAnyH_take (i := 0) (v := .slice (some ⟨a1, o1, none⟩) n c1) rfl (by kernel_rfl) (by kernel_rfl) (by kernel_rfl) (fun _ _ _ h => h) (Or.inl ⟨by rfl, by intro w9 _; go_simp⟩) HY ?_
            simp only [List.getElem_toArray, List.getElem_cons_succ, List.getElem_cons_zero, Act.put, List.setIfInBounds_toArray, List.set_cons_zero, List.set_cons_succ]
            refine wpAnyH_take (i := 1) (v := .int .i64 k) rfl (by kernel_rfl) (by kernel_rfl) (by kernel_rfl) (fun _ _ _ h => h) (Or.inl ⟨by rfl, by intro w9 _; go_simp⟩) HY ?_
            simp only [List.getElem_toArray, List.getElem_cons_succ, List.getElem_cons_zero, Act.put, List.setIfInBounds_toArray, List.set_cons_zero, List.set_cons_succ]
            refine wpAnyH_take (i := 2) (v := .slice (some ⟨a1, o1 + k * 32, none⟩) (n - k) (c1 - k)) rfl (by kernel_rfl) (by kernel_rfl) (by kernel_rfl) (fun _ _ _ h => h) (Or.inl ⟨by rfl, by intro w9 _; go_simp⟩) HY ?_
            simp only [List.getElem_toArray, List.getElem_cons_succ, List.getElem_cons_zero, Act.put, List.setIfInBounds_toArray, List.set_cons_zero, List.set_cons_succ]
            refine wpAnyH_take (i := 3) (v := .slice (some ⟨a2, o2, none⟩) n c2) rfl (by kernel_rfl) (by kernel_rfl) (by kernel_rfl) (fun _ _ _ h => h) (Or.inl ⟨by rfl, by intro w9 _; go_simp⟩) HY ?_
            simp only [List.getElem_toArray, List.getElem_cons_succ, List.getElem_cons_zero, Act.put, List.setIfInBounds_toArray, List.set_cons_zero, List.set_cons_succ]
            refine wpAnyH_take (i := 4) (v := .int .i64 k) rfl (by kernel_rfl) (by kernel_rfl) (by kernel_rfl) (fun _ _ _ h => h) (Or.inl ⟨by rfl, by intro w9 _; go_simp⟩) HY ?_
            simp only [List.getElem_toArray, List.getElem_cons_succ, List.getElem_cons_zero, Act.put, List.setIfInBounds_toArray, List.set_cons_zero, List.set_cons_succ]
            refine wpAnyH_take (i := 5) (v := .slice (some ⟨a2, o2 + k * 32, none⟩) (n - k) (c2 - k)) rfl (by kernel_rfl) (by kernel_rfl) (by kernel_rfl) (fun _ _ _ h => h) (Or.inl ⟨by rfl, by intro w9 _; go_simp⟩) HY ?_
            simp only [List.getElem_toArray, List.getElem_cons_succ, List.getElem_cons_zero, Act.put, List.setIfInBounds_toArray, List.set_cons_zero, List.set_cons_succ]
            refine wpAnyH_take (i := 6) (v := .int .i64 i) rfl (by kernel_rfl) (by kernel_rfl) (by kernel_rfl) (fun _ _ _ h => h) (Or.inl ⟨by rfl, by intro w9 _; go_simp⟩) HY ?_
            simp only [List.getElem_toArray, List.getElem_cons_succ, List.getElem_cons_zero, Act.put, List.setIfInBounds_toArray, List.set_cons_zero, List.set_cons_succ]
            refine wpAnyH_take (i := 7) (v := .int .i64 k) rfl (by kernel_rfl) (by kernel_rfl) (by kernel_rfl) (fun _ _ _ h => h) (Or.inl ⟨by rfl, by intro w9 _; go_simp⟩) HY ?_
            simp only [List.getElem_toArray, List.getElem_cons_succ, List.getElem_cons_zero, Act.put, List.setIfInBounds_toArray, List.set_cons_zero, List.set_cons_succ]
            refine wpAnyH_take (i := 8) (v := .int .i64 ((i : Int) - (k : Int))) rfl (by kernel_rfl) (by kernel_rfl) (by kernel_rfl) (fun _ _ _ h => h) (Or.inl ⟨by rfl, by intro w9 _; go_simp⟩) HY ?_
            simp only [List.getElem_toArray, List.getElem_cons_succ, List.getElem_cons_zero, Act.put, List.setIfInBounds_toArray, List.set_cons_zero, List.set_cons_succ]
            refine wpAnyH_take (i := 9) (v := .slice (some ⟨a1, o1 + k * 32, none⟩) (n - k) (c1 - k)) rfl (by kernel_rfl) (by kernel_rfl) (by kernel_rfl) (fun _ _ _ h => h) (Or.inl ⟨by rfl, by intro w9 _; go_simp⟩) HY ?_
            simp only [List.getElem_toArray, List.getElem_cons_succ, List.getElem_cons_zero, Act.put, List.setIfInBounds_toArray, List.set_cons_zero, List.set_cons_succ]
            refine wpAnyH_take (i := 10) (v := .slice (some ⟨a2, o2 + k * 32, none⟩) (n - k) (c2 - k)) rfl (by kernel_rfl) (by kernel_rfl) (by kernel_rfl) (fun _ _ _ h => h) (Or.inl ⟨by rfl, by intro w9 _; go_simp⟩) HY ?_
            simp only [List.getElem_toArray, List.getElem_cons_succ, List.getElem_cons_zero, Act.put, List.setIfInBounds_toArray, List.set_cons_zero, List.set_cons_succ]
            refine wpAnyH_take (i := 11) (v := .int .i64 ((i : Int) - (k : Int))) rfl (by kernel_rfl) (by kernel_rfl) (by kernel_rfl) (fun _ _ _ h => h) (Or.inl ⟨by rfl, by intro w9 _; go_simp⟩) HY ?_
            simp only [List.getElem_toArray, List.getElem_cons_succ, List.getElem_cons_zero, Act.put, List.setIfInBounds_toArray, List.set_cons_zero, List.set_cons_succ]
            refine wpAnyH_done (by kernel_rfl) ?_ _
            have HXd : Hid (Below wc.heap.size wc wd) := HXf.out.trans (HY.mono HXf.out.size)
            clear HY
            go_wp2
            go_roundw
            case rel => exact ⟨A.drop k, B.drop k, i - k, n - k, a1, o1 + k * 32, c1 - k, a2, o2 + k * 32, c2 - k, dA, dB, by omega, by omega, by omega, by omega, rfl, rfl, by go_num, HAd.out _ (HX0.out.trans (HXd.out.mono HX0.out.size)), HBd.out _ (HX0.out.trans (HXd.out.mono HX0.out.size)), by rw [HCol.out]; exact hcol, HWc.out _ HXd.out⟩
            case measure => simp [lenV]; omega
        · have hsf : (x0 == y0 && x1 == y1) = false := by simpa using hs
          have hor : x0 ≠ y0 ∨ x1 ≠ y1 := Decidable.byContradiction fun q => hs (hsame.2 q)
          rw [hsf] at hneq
          have hneq : ∀ w9 : World, (binOp .neq 45 (.agg (hv (x0 ++ x1))) (.agg (hv (y0 ++ y1)))).run Tryd.prog w9 = .ok (.bool true) w9 := hneq
          clear hs hsf hsame
          by_cases hq : nodeL x0 x1 = nodeL y0 y1
          · rw [if_pos ⟨hor, hq⟩] at hcol
            have heq2 : ∀ w9 : World, (binOp .eql 23 (.agg (hv (nodeL x0 x1))) (.agg (hv (nodeL y0 y1)))).run Tryd.prog w9 = .ok (.bool true) w9 := fun w9 => by rw [heq w9, hq, beq_self_eq_true]
            clear hor hq heq
            generalize hv (x0 ++ x1) = PA at *
            generalize hv (y0 ++ y1) = PB at *
            generalize hv (nodeL x0 x1) = N1 at *
            generalize hv (nodeL y0 y1) = N2 at *
            generalize hv x0 = X0 at *
            generalize hv x1 = X1 at *
            generalize hv y0 = Y0 at *
            generalize hv y1 = Y1 at *
            go_upto_region 6 with fail
            refine wp_region_held (S := Below wc.heap.size wc) (by kernel_rfl) ?_
            change wpAnyH _ _ _ _ _ _ _ _ (World.drew _)
            have HX : Below wc.heap.size wc wc.drew := (Below.refl _ _).drew
            generalize World.drew _ = x0w at *
            refine wpAnyH_take (i := 0) (v := .agg PA) rfl (by kernel_rfl) (by kernel_rfl) (by kernel_rfl) (fun _ _ _ h => h) (yieldsIf_load_mid (by rfl) 45 _ rfl b8 0 rfl (PA).toList _ (fun w' h => GA.out w' h) Tryd.underlying45 rfl iA.out) HX ?_
            simp only [List.getElem_toArray, List.getElem_cons_succ, List.getElem_cons_zero, Act.put, List.setIfInBounds_toArray, List.set_cons_zero, List.set_cons_succ]
            refine wpAnyH_take (i := 1) (v := .agg PB) rfl (by kernel_rfl) (by kernel_rfl) (by kernel_rfl) (fun _ _ _ h => h) (yieldsIf_load_mid (by rfl) 45 _ rfl b9 0 rfl (PB).toList _ (fun w' h => GB.out w' h) Tryd.underlying45 rfl iB.out) HX ?_
            simp only [List.getElem_toArray, List.getElem_cons_succ, List.getElem_cons_zero, Act.put, List.setIfInBounds_toArray, List.set_cons_zero, List.set_cons_succ]
            refine wpAnyH_take (i := 2) (v := .bool true) rfl (by kernel_rfl) (by kernel_rfl) (by kernel_rfl) (fun _ _ _ h => h) (Or.inl ⟨by rfl, by intro w9 _; go_simp⟩) HX ?_
            simp only [List.getElem_toArray, List.getElem_cons_succ, List.getElem_cons_zero, Act.put, List.setIfInBounds_toArray, List.set_cons_zero, List.set_cons_succ]
            refine wpAnyH_take (i := 3) (v := .bool true) rfl (by kernel_rfl) (by kernel_rfl) (by kernel_rfl) (fun _ _ _ h => h) (Or.inl ⟨by rfl, by intro w9 _; go_simp⟩) HX ?_
            simp only [List.getElem_toArray, List.getElem_cons_succ, List.getElem_cons_zero, Act.put, List.setIfInBounds_toArray, List.set_cons_zero, List.set_cons_succ]
            refine wpAnyH_take (i := 4) (v := .pointer (some ⟨b8, 0, none⟩)) rfl (by kernel_rfl) (by kernel_rfl) (by kernel_rfl) (fun _ _ _ h => h) (Or.inl ⟨by rfl, by intro w9 _; go_simp⟩) HX ?_
            simp only [List.getElem_toArray, List.getElem_cons_succ, List.getElem_cons_zero, Act.put, List.setIfInBounds_toArray, List.set_cons_zero, List.set_cons_succ]
            refine wpAnyH_take (i := 5) (v := .agg X0) rfl (by kernel_rfl) (by kernel_rfl) (by kernel_rfl) (fun _ _ _ h => h) (yieldsIf_load_mid (by rfl) 23 _ rfl b8 0 rfl (X0).toList _ (fun w' h => GA0.out w' h) Tryd.underlying23 rfl ic0.out) HX ?_
            simp only [List.getElem_toArray, List.getElem_cons_succ, List.getElem_cons_zero, Act.put, List.setIfInBounds_toArray, List.set_cons_zero, List.set_cons_succ]
            refine wpAnyH_take (i := 6) (v := .pointer (some ⟨b8, 32, none⟩)) rfl (by kernel_rfl) (by kernel_rfl) (by kernel_rfl) (fun _ _ _ h => h) (Or.inl ⟨by rfl, by intro w9 _; go_simp⟩) HX ?_
            simp only [List.getElem_toArray, List.getElem_cons_succ, List.getElem_cons_zero, Act.put, List.setIfInBounds_toArray, List.set_cons_zero, List.set_cons_succ]
            refine wpAnyH_take (i := 7) (v := .agg X1) rfl (by kernel_rfl) (by kernel_rfl) (by kernel_rfl) (fun _ _ _ h => h) (yieldsIf_load_mid (by rfl) 23 _ rfl b8 32 rfl (X1).toList _ (fun w' h => GA1.out w' h) Tryd.underlying23 rfl ic1.out) HX ?_
            simp only [List.getElem_toArray, List.getElem_cons_succ, List.getElem_cons_zero, Act.put, List.setIfInBounds_toArray, List.set_cons_zero, List.set_cons_succ]
            refine wpAnyH_take (i := 9) (v := .pointer (some ⟨b9, 0, none⟩)) rfl (by kernel_rfl) (by kernel_rfl) (by kernel_rfl) (fun _ _ _ h => h) (Or.inl ⟨by rfl, by intro w9 _; go_simp⟩) HX ?_
            simp only [List.getElem_toArray, List.getElem_cons_succ, List.getElem_cons_zero, Act.put, List.setIfInBounds_toArray, List.set_cons_zero, List.set_cons_succ]
            refine wpAnyH_take (i := 10) (v := .agg Y0) rfl (by kernel_rfl) (by kernel_rfl) (by kernel_rfl) (fun _ _ _ h => h) (yieldsIf_load_mid (by rfl) 23 _ rfl b9 0 rfl (Y0).toList _ (fun w' h => GB0.out w' h) Tryd.underlying23 rfl j0.out) HX ?_
            simp only [List.getElem_toArray, List.getElem_cons_succ, List.getElem_cons_zero, Act.put, List.setIfInBounds_toArray, List.set_cons_zero, List.set_cons_succ]
            refine wpAnyH_take (i := 11) (v := .pointer (some ⟨b9, 32, none⟩)) rfl (by kernel_rfl) (by kernel_rfl) (by kernel_rfl) (fun _ _ _ h => h) (Or.inl ⟨by rfl, by intro w9 _; go_simp⟩) HX ?_
            simp only [List.getElem_toArray, List.getElem_cons_succ, List.getElem_cons_zero, Act.put, List.setIfInBounds_toArray, List.set_cons_zero, List.set_cons_succ]
            refine wpAnyH_take (i := 12) (v := .agg Y1) rfl (by kernel_rfl) (by kernel_rfl) (by kernel_rfl) (fun _ _ _ h => h) (yieldsIf_load_mid (by rfl) 23 _ rfl b9 32 rfl (Y1).toList _ (fun w' h => GB1.out w' h) Tryd.underlying23 rfl j1.out) HX ?_
            simp only [List.getElem_toArray, List.getElem_cons_succ, List.getElem_cons_zero, Act.put, List.setIfInBounds_toArray, List.set_cons_zero, List.set_cons_succ]
            refine wpAnyH_ready (rs := [8]) (by kernel_rfl) (by simp) (AllReadyH.cons (by simp only [List.getElem?_toArray, List.getElem?_cons_succ, List.getElem?_cons_zero]; rfl) (fun K hK => ?_) AllReadyH.nil)
            refine step_want (by rfl) ?_
            go_simp
            refine (HN1.out _ HX).mono ?_
            rintro e x1 ⟨rfl, bc⟩
            have HX : Below wc.heap.size wc x1 := HX.trans (bc.mono HX.size)
            clear bc
            refine hK.out _ _ HX (fun _ => ?_)
            clear hK K
            try simp only [List.getElem_toArray, List.getElem_cons_succ, List.getElem_cons_zero, Act.put, List.setIfInBounds_toArray, List.set_cons_zero, List.set_cons_succ]
            refine wpAnyH_ready (rs := [13]) (by kernel_rfl) (by simp) (AllReadyH.cons (by simp only [List.getElem?_toArray, List.getElem?_cons_succ, List.getElem?_cons_zero]; rfl) (fun K hK => ?_) AllReadyH.nil)
            refine step_want (by rfl) ?_
            go_simp
            refine (HN2.out _ HX).mono ?_
            rintro e x2 ⟨rfl, bc⟩
            have HX : Below wc.heap.size wc x2 := HX.trans (bc.mono HX.size)
            clear bc
            refine hK.out _ _ HX (fun _ => ?_)
            clear hK K
            try simp only [List.getElem_toArray, List.getElem_cons_succ, List.getElem_cons_zero, Act.put, List.setIfInBounds_toArray, List.set_cons_zero, List.set_cons_succ]
            refine wpAnyH_take (i := 14) (v := .bool true) rfl (by kernel_rfl) (by kernel_rfl) (by kernel_rfl) (fun _ _ _ h => h) (Or.inl ⟨by rfl, by intro w9 _; go_simp⟩) HX ?_
            simp only [List.getElem_toArray, List.getElem_cons_succ, List.getElem_cons_zero, Act.put, List.setIfInBounds_toArray, List.set_cons_zero, List.set_cons_succ]
            refine wpAnyH_take (i := 15) (v := .bool true) rfl (by kernel_rfl) (by kernel_rfl) (by kernel_rfl) (fun _ _ _ h => h) (Or.inl ⟨by rfl, by intro w9 _; go_simp⟩) HX ?_
            simp only [List.getElem_toArray, List.getElem_cons_succ, List.getElem_cons_zero, Act.put, List.setIfInBounds_toArray, List.set_cons_zero, List.set_cons_succ]
            refine wpAnyH_done (by kernel_rfl) ?_ _
            have HF : Hid (Below w.heap.size w x2) := HWc.out _ HX
            have HR : Hid (true = colH A0 B0 i0) := by show _ = _; rw [HCol.out, hcol]
            clear HX hcol
            go_wp2
            go_ret
            exact ⟨(by rw [← HR.out]; rfl), HF.out⟩
          · rw [if_neg (fun h => hq h.2)] at hcol
            have heq2 : ∀ w9 : World, (binOp .eql 23 (.agg (hv (nodeL x0 x1))) (.agg (hv (nodeL y0 y1)))).run Tryd.prog w9 = .ok (.bool false) w9 := fun w9 => by rw [heq w9, beq_eq_false_iff_ne.2 hq]
            clear hor hq heq
            generalize hv (x0 ++ x1) = PA at *
            generalize hv (y0 ++ y1) = PB at *
            generalize hv (nodeL x0 x1) = N1 at *
            generalize hv (nodeL y0 y1) = N2 at *
            generalize hv x0 = X0 at *
            generalize hv x1 = X1 at *
            generalize hv y0 = Y0 at *
            generalize hv y1 = Y1 at *
            go_upto_region 6 with fail
            refine wp_region_held (S := Below wc.heap.size wc) (by kernel_rfl) ?_
            change wpAnyH _ _ _ _ _ _ _ _ (World.drew _)
            have HX : Below wc.heap.size wc wc.drew := (Below.refl _ _).drew
            generalize World.drew _ = x0w at *
            refine wpAnyH_take (i := 0) (v := .agg PA) rfl (by kernel_rfl) (by kernel_rfl) (by kernel_rfl) (fun _ _ _ h => h) (yieldsIf_load_mid (by rfl) 45 _ rfl b8 0 rfl (PA).toList _ (fun w' h => GA.out w' h) Tryd.underlying45 rfl iA.out) HX ?_
            simp only [List.getElem_toArray, List.getElem_cons_succ, List.getElem_cons_zero, Act.put, List.setIfInBounds_toArray, List.set_cons_zero, List.set_cons_succ]
            refine wpAnyH_take (i := 1) (v := .agg PB) rfl (by kernel_rfl) (by kernel_rfl) (by kernel_rfl) (fun _ _ _ h => h) (yieldsIf_load_mid (by rfl) 45 _ rfl b9 0 rfl (PB).toList _ (fun w' h => GB.out w' h) Tryd.underlying45 rfl iB.out) HX ?_
            simp only [List.getElem_toArray, List.getElem_cons_succ, List.getElem_cons_zero, Act.put, List.setIfInBounds_toArray, List.set_cons_zero, List.set_cons_succ]
            refine wpAnyH_take (i := 2) (v := .bool true) rfl (by kernel_rfl) (by kernel_rfl) (by kernel_rfl) (fun _ _ _ h => h) (Or.inl ⟨by rfl, by intro w9 _; go_simp⟩) HX ?_
            simp only [List.getElem_toArray, List.getElem_cons_succ, List.getElem_cons_zero, Act.put, List.setIfInBounds_toArray, List.set_cons_zero, List.set_cons_succ]
            refine wpAnyH_take (i := 3) (v := .bool true) rfl (by kernel_rfl) (by kernel_rfl) (by kernel_rfl) (fun _ _ _ h => h) (Or.inl ⟨by rfl, by intro w9 _; go_simp⟩) HX ?_
            simp only [List.getElem_toArray, List.getElem_cons_succ, List.getElem_cons_zero, Act.put, List.setIfInBounds_toArray, List.set_cons_zero, List.set_cons_succ]
            refine wpAnyH_take (i := 4) (v := .pointer (some ⟨b8, 0, none⟩)) rfl (by kernel_rfl) (by kernel_rfl) (by kernel_rfl) (fun _ _ _ h => h) (Or.inl ⟨by rfl, by intro w9 _; go_simp⟩) HX ?_
            simp only [List.getElem_toArray, List.getElem_cons_succ, List.getElem_cons_zero, Act.put, List.setIfInBounds_toArray, List.set_cons_zero, List.set_cons_succ]
            refine wpAnyH_take (i := 5) (v := .agg X0) rfl (by kernel_rfl) (by kernel_rfl) (by kernel_rfl) (fun _ _ _ h => h) (yieldsIf_load_mid (by rfl) 23 _ rfl b8 0 rfl (X0).toList _ (fun w' h => GA0.out w' h) Tryd.underlying23 rfl ic0.out) HX ?_
            simp only [List.getElem_toArray, List.getElem_cons_succ, List.getElem_cons_zero, Act.put, List.setIfInBounds_toArray, List.set_cons_zero, List.set_cons_succ]
            refine wpAnyH_take (i := 6) (v := .pointer (some ⟨b8, 32, none⟩)) rfl (by kernel_rfl) (by kernel_rfl) (by kernel_rfl) (fun _ _ _ h => h) (Or.inl ⟨by rfl, by intro w9 _; go_simp⟩) HX ?_
            simp only [List.getElem_toArray, List.getElem_cons_succ, List.getElem_cons_zero, Act.put, List.setIfInBounds_toArray, List.set_cons_zero, List.set_cons_succ]
            refine wpAnyH_take (i := 7) (v := .agg X1) rfl (by kernel_rfl) (by kernel_rfl) (by kernel_rfl) (fun _ _ _ h => h) (yieldsIf_load_mid (by rfl) 23 _ rfl b8 32 rfl (X1).toList _ (fun w' h => GA1.out w' h) Tryd.underlying23 rfl ic1.out) HX ?_
            simp only [List.getElem_toArray, List.getElem_cons_succ, List.getElem_cons_zero, Act.put, List.setIfInBounds_toArray, List.set_cons_zero, List.set_cons_succ]
            refine wpAnyH_take (i := 9) (v := .pointer (some ⟨b9, 0, none⟩)) rfl (by kernel_rfl) (by kernel_rfl) (by kernel_rfl) (fun _ _ _ h => h) (Or.inl ⟨by rfl, by intro w9 _; go_simp⟩) HX ?_
            simp only [List.getElem_toArray, List.getElem_cons_succ, List.getElem_cons_zero, Act.put, List.setIfInBounds_toArray, List.set_cons_zero, List.set_cons_succ]
            refine wpAnyH_take (i := 10) (v := .agg Y0) rfl (by kernel_rfl) (by kernel_rfl) (by kernel_rfl) (fun _ _ _ h => h) (yieldsIf_load_mid (by rfl) 23 _ rfl b9 0 rfl (Y0).toList _ (fun w' h => GB0.out w' h) Tryd.underlying23 rfl j0.out) HX ?_
            simp only [List.getElem_toArray, List.getElem_cons_succ, List.getElem_cons_zero, Act.put, List.setIfInBounds_toArray, List.set_cons_zero, List.set_cons_succ]
            refine wpAnyH_take (i := 11) (v := .pointer (some ⟨b9, 32, none⟩)) rfl (by kernel_rfl) (by kernel_rfl) (by kernel_rfl) (fun _ _ _ h => h) (Or.inl ⟨by rfl, by intro w9 _; go_simp⟩) HX ?_
            simp only [List.getElem_toArray, List.getElem_cons_succ, List.getElem_cons_zero, Act.put, List.setIfInBounds_toArray, List.set_cons_zero, List.set_cons_succ]
            refine wpAnyH_take (i := 12) (v := .agg Y1) rfl (by kernel_rfl) (by kernel_rfl) (by kernel_rfl) (fun _ _ _ h => h) (yieldsIf_load_mid (by rfl) 23 _ rfl b9 32 rfl (Y1).toList _ (fun w' h => GB1.out w' h) Tryd.underlying23 rfl j1.out) HX ?_
            simp only [List.getElem_toArray, List.getElem_cons_succ, List.getElem_cons_zero, Act.put, List.setIfInBounds_toArray, List.set_cons_zero, List.set_cons_succ]
            refine wpAnyH_ready (rs := [8]) (by kernel_rfl) (by simp) (AllReadyH.cons (by simp only [List.getElem?_toArray, List.getElem?_cons_succ, List.getElem?_cons_zero]; rfl) (fun K hK => ?_) AllReadyH.nil)
            refine step_want (by rfl) ?_
            go_simp
            refine (HN1.out _ HX).mono ?_
            rintro e x1 ⟨rfl, bc⟩
            have HX : Below wc.heap.size wc x1 := HX.trans (bc.mono HX.size)
            clear bc
            refine hK.out _ _ HX (fun _ => ?_)
            clear hK K
            try simp only [List.getElem_toArray, List.getElem_cons_succ, List.getElem_cons_zero, Act.put, List.setIfInBounds_toArray, List.set_cons_zero, List.set_cons_succ]
            refine wpAnyH_ready (rs := [13]) (by kernel_rfl) (by simp) (AllReadyH.cons (by simp only [List.getElem?_toArray, List.getElem?_cons_succ, List.getElem?_cons_zero]; rfl) (fun K hK => ?_) AllReadyH.nil)
            refine step_want (by rfl) ?_
            go_simp
            refine (HN2.out _ HX).mono ?_
            rintro e x2 ⟨rfl, bc⟩
            have HX : Below wc.heap.size wc x2 := HX.trans (bc.mono HX.size)
            clear bc
            refine hK.out _ _ HX (fun _ => ?_)
            clear hK K
            try simp only [List.getElem_toArray, List.getElem_cons_succ, List.getElem_cons_zero, Act.put, List.setIfInBounds_toArray, List.set_cons_zero, List.set_cons_succ]
            refine wpAnyH_take (i := 14) (v := .bool false) rfl (by kernel_rfl) (by kernel_rfl) (by kernel_rfl) (fun _ _ _ h => h) (Or.inl ⟨by rfl, by intro w9 _; go_simp⟩) HX ?_
            simp only [List.getElem_toArray, List.getElem_cons_succ, List.getElem_cons_zero, Act.put, List.setIfInBounds_toArray, List.set_cons_zero, List.set_cons_succ]
            refine wpAnyH_take (i := 15) (v := .bool false) rfl (by kernel_rfl) (by kernel_rfl) (by kernel_rfl) (fun _ _ _ h => h) (Or.inl ⟨by rfl, by intro w9 _; go_simp⟩) HX ?_
            simp only [List.getElem_toArray, List.getElem_cons_succ, List.getElem_cons_zero, Act.put, List.setIfInBounds_toArray, List.set_cons_zero, List.set_cons_succ]
            refine wpAnyH_done (by kernel_rfl) ?_ _
            have HXf : Hid (Below wc.heap.size wc x2) := HX
            clear HX
            by_cases hik : i < k
            · rw [if_pos hik] at hcol
              have hik2 : (i : Int) < (k : Int) := by omega
              go_upto_region 9 with fail
              refine wp_region_held (S := Below x2.heap.size x2) (by kernel_rfl) ?_
              change wpAnyH _ _ _ _ _ _ _ _ (World.drew _)
              have HY : Below x2.heap.size x2 x2.drew := (Below.refl _ _).drew
              generalize World.drew _ = wd at *
              refine wpAnyH_take (i := 0) (v := .slice (some ⟨a1, o1, none⟩) n c1) rfl (by kernel_rfl) (by kernel_rfl) (by kernel_rfl) (fun _ _ _ h => h) (Or.inl ⟨by rfl, by intro w9 _; go_simp⟩) HY ?_
              simp only [List.getElem_toArray, List.getElem_cons_succ, List.getElem_cons_zero, Act.put, List.setIfInBounds_toArray, List.set_cons_zero, List.set_cons_succ]
              refine wpAnyH_take (i := 1) (v := .int .i64 k) rfl (by kernel_rfl) (by kernel_rfl) (by kernel_rfl) (fun _ _ _ h => h) (Or.inl ⟨by rfl, by intro w9 _; go_simp⟩) HY ?_
              simp only [List.getElem_toArray, List.getElem_cons_succ, List.getElem_cons_zero, Act.put, List.setIfInBounds_toArray, List.set_cons_zero, List.set_cons_succ]
              refine wpAnyH_take (i := 2) (v := .slice (some ⟨a1, o1, none⟩) k c1) rfl (by kernel_rfl) (by kernel_rfl) (by kernel_rfl) (fun _ _ _ h => h) (Or.inl ⟨by rfl, by intro w9 _; go_simp⟩) HY ?_
              simp only [List.getElem_toArray, List.getElem_cons_succ, List.getElem_cons_zero, Act.put, List.setIfInBounds_toArray, List.set_cons_zero, List.set_cons_succ]
              refine wpAnyH_take (i := 3) (v := .slice (some ⟨a2, o2, none⟩) n c2) rfl (by kernel_rfl) (by kernel_rfl) (by kernel_rfl) (fun _ _ _ h => h) (Or.inl ⟨by rfl, by intro w9 _; go_simp⟩) HY ?_
              simp only [List.getElem_toArray, List.getElem_cons_succ, List.getElem_cons_zero, Act.put, List.setIfInBounds_toArray, List.set_cons_zero, List.set_cons_succ]
              refine wpAnyH_take (i := 4) (v := .int .i64 k) rfl (by kernel_rfl) (by kernel_rfl) (by kernel_rfl) (fun _ _ _ h => h) (Or.inl ⟨by rfl, by intro w9 _; go_simp⟩) HY ?_
              simp only [List.getElem_toArray, List.getElem_cons_succ, List.getElem_cons_zero, Act.put, List.setIfInBounds_toArray, List.set_cons_zero, List.set_cons_succ]
              refine wpAnyH_take (i := 5) (v := .slice (some ⟨a2, o2, none⟩) k c2) rfl (by kernel_rfl) (by kernel_rfl) (by kernel_rfl) (fun _ _ _ h => h) (Or.inl ⟨by rfl, by intro w9 _; go_simp⟩) HY ?_
              simp only [List.getElem_toArray, List.getElem_cons_succ, List.getElem_cons_zero, Act.put, List.setIfInBounds_toArray, List.set_cons_zero, List.set_cons_succ]
              refine wpAnyH_take (i := 6) (v := .slice (some ⟨a1, o1, none⟩) k c1) rfl (by kernel_rfl) (by kernel_rfl) (by kernel_rfl) (fun _ _ _ h => h) (Or.inl ⟨by rfl, by intro w9 _; go_simp⟩) HY ?_
              simp only [List.getElem_toArray, List.getElem_cons_succ, List.getElem_cons_zero, Act.put, List.setIfInBounds_toArray, List.set_cons_zero, List.set_cons_succ]
              refine wpAnyH_take (i := 7) (v := .slice (some ⟨a2, o2, none⟩) k c2) rfl (by kernel_rfl) (by kernel_rfl) (by kernel_rfl) (fun _ _ _ h => h) (Or.inl ⟨by rfl, by intro w9 _; go_simp⟩) HY ?_
              simp only [List.getElem_toArray, List.getElem_cons_succ, List.getElem_cons_zero, Act.put, List.setIfInBounds_toArray, List.set_cons_zero, List.set_cons_succ]
              refine wpAnyH_done (by kernel_rfl) ?_ _
              have HXd : Hid (Below wc.heap.size wc wd) := HXf.out.trans (HY.mono HXf.out.size)
              clear HY
              go_wp2
              go_roundw
              case rel => exact ⟨A.take k, B.take k, i, k, a1, o1, c1, a2, o2, c2, tA, tB, hik, by omega, f8, f9, rfl, rfl, rfl, HAt.out _ (HX0.out.trans (HXd.out.mono HX0.out.size)), HBt.out _ (HX0.out.trans (HXd.out.mono HX0.out.size)), by rw [HCol.out]; exact hcol, HWc.out _ HXd.out⟩
              case measure => simp [lenV]; omega
            · rw [if_neg hik] at hcol
              have hik2 : ¬ (i : Int) < (k : Int) := by omega
              have hwr : IntKind.i64.wrap ((i : Int) - (k : Int)) = (i : Int) - (k : Int) := by rw [IntKind.wrap_i64]; omega
              go_upto_region 10 with fail
              refine wp_region_held (S := Below x2.heap.size x2) (by kernel_rfl) ?_
              change wpAnyH _ _ _ _ _ _ _ _ (World.drew _)
              have HY : Below x2.heap.size x2 x2.drew := (Below.refl _ _).drew
              generalize World.drew _ = wd at *
              refine wpAnyH_take (i := 0) (v := .slice (some ⟨a1, o1, none⟩) n c1) rfl (by kernel_rfl) (by kernel_rfl) (by kernel_rfl) (fun _ _ _ h => h) (Or.inl ⟨by rfl, by intro w9 _; go_simp⟩) HY ?_
              simp only [List.getElem_toArray, List.getElem_cons_succ, List.getElem_cons_zero, Act.put, List.setIfInBounds_toArray, List.set_cons_zero, List.set_cons_succ]
              refine wpAnyH_take (i := 1) (v := .int .i64 k) rfl (by kernel_rfl) (by kernel_rfl) (by kernel_rfl) (fun _ _ _ h => h) (Or.inl ⟨by rfl, by intro w9 _; go_simp⟩) HY ?_
              simp only [List.getElem_toArray, List.getElem_cons_succ, List.getElem_cons_zero, Act.put, List.setIfInBounds_toArray, List.set_cons_zero, List.set_cons_succ]
              refine wpAnyH_take (i := 2) (v := .slice (some ⟨a1, o1 + k * 32, none⟩) (n - k) (c1 - k)) rfl (by kernel_rfl) (by kernel_rfl) (by kernel_rfl) (fun _ _ _ h => h) (Or.inl ⟨by rfl, by intro w9 _; go_simp⟩) HY ?_
              simp only [List.getElem_toArray, List.getElem_cons_succ, List.getElem_cons_zero, Act.put, List.setIfInBounds_toArray, List.set_cons_zero, List.set_cons_succ]
              refine wpAnyH_take (i := 3) (v := .slice (some ⟨a2, o2, none⟩) n c2) rfl (by kernel_rfl) (by kernel_rfl) (by kernel_rfl) (fun _ _ _ h => h) (Or.inl ⟨by rfl, by intro w9 _; go_simp⟩) HY ?_
              simp only [List.getElem_toArray, List.getElem_cons_succ, List.getElem_cons_zero, Act.put, List.setIfInBounds_toArray, List.set_cons_zero, List.set_cons_succ]
              refine wpAnyH_take (i := 4) (v := .int .i64 k) rfl (by kernel_rfl) (by kernel_rfl) (by kernel_rfl) (fun _ _ _ h => h) (Or.inl ⟨by rfl, by intro w9 _; go_simp⟩) HY ?_
              simp only [List.getElem_toArray, List.getElem_cons_succ, List.getElem_cons_zero, Act.put, List.setIfInBounds_toArray, List.set_cons_zero, List.set_cons_succ]
              refine wpAnyH_take (i := 5) (v := .slice (some ⟨a2, o2 + k * 32, none⟩) (n - k) (c2 - k)) rfl (by kernel_rfl) (by kernel_rfl) (by kernel_rfl) (fun _ _ _ h => h) (Or.inl ⟨by rfl, by intro w9 _; go_simp⟩) HY ?_
              simp only [List.getElem_toArray, List.getElem_cons_succ, List.getElem_cons_zero, Act.put, List.setIfInBounds_toArray, List.set_cons_zero, List.set_cons_succ]
              refine wpAnyH_take (i := 6) (v := .int .i64 i) rfl (by kernel_rfl) (by kernel_rfl) (by kernel_rfl) (fun _ _ _ h => h) (Or.inl ⟨by rfl, by intro w9 _; go_simp⟩) HY ?_
              simp only [List.getElem_toArray, List.getElem_cons_succ, List.getElem_cons_zero, Act.put, List.setIfInBounds_toArray, List.set_cons_zero, List.set_cons_succ]
              refine wpAnyH_take (i := 7) (v := .int .i64 k) rfl (by kernel_rfl) (by kernel_rfl) (by kernel_rfl) (fun _ _ _ h => h) (Or.inl ⟨by rfl, by intro w9 _; go_simp⟩) HY ?_
              simp only [List.getElem_toArray, List.getElem_cons_succ, List.getElem_cons_zero, Act.put, List.setIfInBounds_toArray, List.set_cons_zero, List.set_cons_succ]
              refine wpAnyH_take (i := 8) (v := .int .i64 ((i : Int) - (k : Int))) rfl (by kernel_rfl) (by kernel_rfl) (by kernel_rfl) (fun _ _ _ h => h) (Or.inl ⟨by rfl, by intro w9 _; go_simp⟩) HY ?_
              simp only [List.getElem_toArray, List.getElem_cons_succ, List.getElem_cons_zero, Act.put, List.setIfInBounds_toArray, List.set_cons_zero, List.set_cons_succ]
              refine wpAnyH_take (i := 9) (v := .slice (some ⟨a1, o1 + k * 32, none⟩) (n - k) (c1 - k)) rfl (by kernel_rfl) (by kernel_rfl) (by kernel_rfl) (fun _ _ _ h => h) (Or.inl ⟨by rfl, by intro w9 _; go_simp⟩) HY ?_
              simp only [List.getElem_toArray, List.getElem_cons_succ, List.getElem_cons_zero, Act.put, List.setIfInBounds_toArray, List.set_cons_zero, List.set_cons_succ]
              refine wpAnyH_take (i := 10) (v := .slice (some ⟨a2, o2 + k * 32, none⟩) (n - k) (c2 - k)) rfl (by kernel_rfl) (by kernel_rfl) (by kernel_rfl) (fun _ _ _ h => h) (Or.inl ⟨by rfl, by intro w9 _; go_simp⟩) HY ?_
              simp only [List.getElem_toArray, List.getElem_cons_succ, List.getElem_cons_zero, Act.put, List.setIfInBounds_toArray, List.set_cons_zero, List.set_cons_succ]
              refine wpAnyH_take (i := 11) (v := .int .i64 ((i : Int) - (k : Int))) rfl (by kernel_rfl) (by kernel_rfl) (by kernel_rfl) (fun _ _ _ h => h) (Or.inl ⟨by rfl, by intro w9 _; go_simp⟩) HY ?_
              simp only [List.getElem_toArray, List.getElem_cons_succ, List.getElem_cons_zero, Act.put, List.setIfInBounds_toArray, List.set_cons_zero, List.set_cons_succ]
              refine wpAnyH_done (by kernel_rfl) ?_ _
              have HXd : Hid (Below wc.heap.size wc wd) := HXf.out.trans (HY.mono HXf.out.size)
              clear HY
              go_wp2
              go_roundw
              case rel => exact ⟨A.drop k, B.drop k, i - k, n - k, a1, o1 + k * 32, c1 - k, a2, o2 + k * 32, c2 - k, dA, dB, by omega, by omega, by omega, by omega, rfl, rfl, by go_num, HAd.out _ (HX0.out.trans (HXd.out.mono HX0.out.size)), HBd.out _ (HX0.out.trans (HXd.out.mono HX0.out.size)), by rw [HCol.out]; exact hcol, HWc.out _ HXd.out⟩
              case measure => simp [lenV]; omega
    · have HF : Hid (Below w.heap.size w wr) := hbw
      have HR : Hid (false = colH A0 B0 i0) := by show _ = _; rw [hcol, colH_one (by omega)]
      clear hbw hcol hA hB
      go_wp2
      go_ret
      exact ⟨(by rw [← HR.out]; rfl), HF.out⟩
end Go.Proofs.YtnigcngaegafoaaDoor
