/- The program's Split and Root (layer 9). -/
import Derived.Test.YtficmbaffkkfhaaDoorR9e0
import Derived.Test.YtficmbaffkkfhaaDoorW8
import Derived.Deep.RegionHeld3
import Derived.Deep.DeepCutAuto
import Derived.Test.YtficmbaffkkfhaaDoorUe
import Derived.Test.YtficmbaffkkfhaaDoorBl
namespace Go.Proofs.YtficmbaffkkfhaaDoor
open Go.RowKit

set_option maxRecDepth 100000 in
theorem split_any (n : Int) (w : World) (h1 : -9223372036854775808 ≤ n) (h2 : n < 9223372036854775808) : Calls Tryd.prog 20 #[.int .i64 n] w fun e w' => e = .returned (.int .i64 (splitZ n)) ∧ w' = w := by
  by_cases hn : n < 2
  · have hR : Hid ((0 : Int) = splitZ n) := by show _ = _; unfold splitZ; rw [split_small (by omega)]; rfl
    go_enter Tryd.func20, Tryd.ntmps20
    go_wp2
    go_ret
    exact ⟨by rw [← hR.out]; rfl, rfl⟩
  have HL : Hid (Calls Tryd.prog 32 #[.int .u64 (n - 1)] w fun e w' => e = .returned (.int .i64 (Lib.bitLen (n - 1).toNat)) ∧ w' = w) := len_any (n - 1) w (by omega) (by omega)
  obtain ⟨L, hL⟩ : ∃ L, Lib.bitLen (n - 1).toNat = L := ⟨_, rfl⟩
  rw [hL] at HL
  have hlog := bitLen_log (n := (n - 1).toNat) (by omega) (by omega)
  rw [hL] at hlog
  have hsp : splitZ n = ((2 ^ (L - 1) : Nat) : Int) := by
    unfold splitZ splitN
    rw [if_neg (by omega), show n.toNat - 1 = (n - 1).toNat by omega, hlog]
    rfl
  have hlo := Nat.log2_self_le (n := (n - 1).toNat) (by omega)
  have hL1 : L - 1 ≤ 62 := by
    refine Nat.le_of_not_lt fun h => ?_
    have h2 := Nat.pow_le_pow_right (n := 2) (by decide) (show 63 ≤ L - 1 by omega)
    rw [show L - 1 = Nat.log2 (n - 1).toNat by omega] at h2
    have : (2 : Nat) ^ 63 = 9223372036854775808 := by decide
    omega
  have hpw : 2 ^ (L - 1) ≤ 4611686018427387904 := Nat.pow_le_pow_right (n := 2) (by decide) hL1
  have HR : Hid (wrap64 ((2 : Int) ^ (L - 1)) = splitZ n) := by
    show _ = _
    rw [hsp, show (2 : Int) ^ (L - 1) = ((2 ^ (L - 1) : Nat) : Int) by simp]
    generalize 2 ^ (L - 1) = q at hpw ⊢
    unfold wrap64
    omega
  have hl1 : (1 : Int) ≤ (L : Int) := by omega
  have hl2 : (L : Int) ≤ 63 := by omega
  clear hL hsp hlo hlog hL1
  go_enter Tryd.func20, Tryd.ntmps20
  go_wp2_with fail
  refine HL.out.mono ?_
  rintro e w' ⟨rfl, rfl⟩
  go_wp2
  go_ret
  exact ⟨congrArg Ending.returned (congrArg (Value.int IntKind.i64) HR.out), rfl⟩
set_option maxRecDepth 100000 in
theorem proot_nil (w : World) (v : Value) (hR : TabL w) (hL : HsAt w v []) : Calls Tryd.prog 16 #[v] w fun e w' => e = .returned (.agg (hv (rootH []))) ∧ Below w.heap.size w w' := by
  obtain ⟨a, c, rfl, -⟩ := hL
  obtain ⟨w1, hw1, b1, hg1⟩ := hash_box w
  have HC : Hid (Calls Tryd.prog 28 #[] w1 fun e w' => e = .returned (.agg (hv (rootH []))) ∧ Below w1.heap.size w1 w') := empty_any w1 (hR.below b1 hR.lt)
  have HG : Hid (∀ w', Below w1.heap.size w1 w' → w'.heap[w.heap.size]? = some (.cells (hv (padTo 32 [])) 23 (0, 0))) := fun w' hb => (hb.block _ (Array.getElem?_eq_some_iff.1 hg1).1).trans hg1
  have HB : Hid (∀ w', Below w1.heap.size w1 w' → Below w.heap.size w w') := fun w' hb => b1.trans (hb.mono b1.size)
  have e4 : (hv (rootH [])).size = 32 := by rw [hv_size]; exact rootH_32 (fun x hx => by cases hx)
  have e5 := hv_one (rootH [])
  generalize hv (rootH []) = R at *
  have z1 : Hid ((hv (padTo 32 [])).size = 32) := hz_size
  rw [zero_h32] at hw1 HG z1
  clear hg1 b1
  go_enter Tryd.func16, Tryd.ntmps16
  go_wp2_with fail
  refine HC.out.mono ?_
  rintro e w2 ⟨rfl, b2⟩
  have g2 := HG.out w2 b2
  have HB2 : Hid _ := HB.out w2 b2
  clear b2 hw1
  go_wp2_with (refine wpList_store_row rfl 23 _ _ rfl w.heap.size R rfl rfl _ _ g2 (by rw [info_h32, e4]) (by rw [z1.out, e4]) e5 ?_)
  refine bodyPost_ret (v := .agg R) (results_cell1 (p := 2) Tryd.results16 _ _ w.heap.size 32 23 5 R (0, 0) rfl (heap_setRow_same g2) Tryd.underlying23 info_h32 e4) rfl ⟨rfl, below_setRow HB2.out (Nat.le_refl _) _⟩
set_option maxRecDepth 100000 in
theorem proot_one (w : World) (v : Value) (x : List UInt8) (hL : HsAt w v [x]) : Calls Tryd.prog 16 #[v] w fun e w' => e = .returned (.agg (hv (rootH [x]))) ∧ Below w.heap.size w w' := by
  obtain ⟨a, c, rfl, -⟩ := id hL
  obtain ⟨hx, b, o, rfl, hk⟩ := hL.cells.2 0 x rfl
  obtain ⟨w1, hw1, b1, g2⟩ := hash_box w
  have hrg := hk w1 b1
  rw [show o + 0 * 32 = o by omega] at hrg
  have HB2 : Hid (Below w.heap.size w w1) := b1
  have e4 : (hv x).size = 32 := by rw [hv_size, hx]
  have e5 := hv_one x
  have ic : Hid ((Tryd.prog.info? 23).map (·.size) = some (hv x).toList.length) := by show _ = _; rw [info_h32, Array.length_toList, e4]
  rw [show rootH [x] = x from rfl]
  generalize hv x = R at *
  have z1 : Hid ((hv (padTo 32 [])).size = 32) := hz_size
  rw [zero_h32] at hw1 g2 z1
  clear hk hL b1
  go_enter Tryd.func16, Tryd.ntmps16
  go_wp2_with (first | (refine wpList_load_mid rfl 23 (.tmp 12) rfl b o rfl R.toList _ hrg Tryd.underlying23 rfl ic.out ?_) | (refine wpList_store_row rfl 23 (.tmp 2) _ rfl w.heap.size R rfl rfl _ _ g2 (by rw [info_h32, e4]) (by rw [z1.out, e4]) e5 ?_) | fail)
  refine bodyPost_ret (v := .agg R) (results_cell1 (p := 2) Tryd.results16 _ _ w.heap.size 32 23 5 R (0, 0) rfl (heap_setRow_same g2) Tryd.underlying23 info_h32 e4) rfl ⟨rfl, below_setRow HB2.out (Nat.le_refl _) _⟩
set_option maxRecDepth 100000 in
set_option maxHeartbeats 4000000 in
set_option linter.unusedSimpArgs false in
theorem proot_upto : ∀ (N : Nat) (L : List (List UInt8)) (w : World) (v : Value), L.length ≤ N → N ≤ 100000 → TabL w → HsAt w v L → (∀ a n c, v = .slice a n c → n ≤ c) → Calls Tryd.prog 16 #[v] w fun e w' => e = .returned (.agg (hv (rootH L))) ∧ Below w.heap.size w w' := by
  intro N
  induction N with
  | zero =>
    intro L w v hN hM hR hL hroom
    obtain rfl : L = [] := List.length_eq_zero_iff.1 (by omega)
    exact proot_nil w v hR hL
  | succ N ih =>
    intro L w v hN hM hR hL hroom
    by_cases h2 : 2 ≤ L.length
    rotate_left
    · match L, h2 with
      | [], _ => exact proot_nil w v hR hL
      | [x], _ => exact proot_one w v x hL
      | x :: y :: l, h2 => exact absurd (by simp) h2
    obtain ⟨s1, s2, s3, _⟩ := split_ok h2
    obtain ⟨a, c, rfl, -⟩ := id hL
    have hcap : L.length ≤ c := hroom _ _ _ rfl
    obtain ⟨x, hx⟩ : ∃ x, L[0]? = some x := ⟨_, List.getElem?_eq_getElem (by omega)⟩
    obtain ⟨hx32, b, o, rfl, -⟩ := hL.cells.2 0 x hx
    obtain ⟨w1, hw1, b1, hg1⟩ := hash_box w
    have HG : Hid (∀ w', Below w1.heap.size w1 w' → w'.heap[w.heap.size]? = some (.cells (hv (padTo 32 [])) 23 (0, 0))) := fun w' hb => (hb.block _ (Array.getElem?_eq_some_iff.1 hg1).1).trans hg1
    have HB : Hid (∀ w', Below w1.heap.size w1 w' → Below w.heap.size w w') := fun w' hb => b1.trans (hb.mono b1.size)
    obtain ⟨k, hk⟩ : ∃ k, splitN L.length = k := ⟨_, rfl⟩
    have HSp : Hid (∀ w' : World, Calls Tryd.prog 20 #[.int .i64 L.length] w' fun e w'' => e = .returned (.int .i64 k) ∧ w'' = w') := fun w' => by
      have := split_any (L.length : Int) w' (by omega) (by omega)
      rwa [splitZ_nat, hk] at this
    rw [hk] at s1 s2 s3
    have HR1 : Hid (∀ w', Below w.heap.size w w' → Calls Tryd.prog 16 #[.slice (some ⟨b, o, none⟩) k c] w' fun e w'' => e = .returned (.agg (hv (rootH (L.take k)))) ∧ Below w'.heap.size w' w'') := fun w' hb =>
      ih (L.take k) w' _ (by rw [List.length_take]; omega) (by omega) (hR.below hb hR.lt) ((hL.below hb).take k (by omega)) (fun a n c e => by have := Value.slice.inj e; omega)
    have HR2 : Hid (∀ w', Below w.heap.size w w' → Calls Tryd.prog 16 #[.slice (some ⟨b, o + k * 32, none⟩) (L.length - k) (c - k)] w' fun e w'' => e = .returned (.agg (hv (rootH (L.drop k)))) ∧ Below w'.heap.size w' w'') := fun w' hb => by
      have hr := (hL.below hb).rest k (by omega) hcap
      rw [if_neg (by omega)] at hr
      exact ih (L.drop k) w' _ (by rw [List.length_drop]; omega) (by omega) (hR.below hb hR.lt) hr (fun a n c e => by have := Value.slice.inj e; omega)
    have HNd : Hid (∀ w', Below w.heap.size w w' → Calls Tryd.prog 18 #[.agg (hv (rootH (L.take k))), .agg (hv (rootH (L.drop k)))] w' fun e w'' => e = .returned (.agg (hv (rootH L))) ∧ Below w'.heap.size w' w'') := fun w' hb => by
      have := node_any (rootH (L.take k)) (rootH (L.drop k)) w' (hR.below hb hR.lt) (rootH_32 (fun x hx => hL.len x (List.mem_of_mem_take hx))) (rootH_32 (fun x hx => hL.len x (List.mem_of_mem_drop hx)))
      rwa [show nodeL (rootH (L.take k)) (rootH (L.drop k)) = rootH L by unfold rootH; rw [root_node _ _ h2, hk]] at this
    have e4 : (hv (rootH L)).size = 32 := by rw [hv_size]; exact rootH_32 hL.len
    have e5 := hv_one (rootH L)
    have z1 : Hid ((hv (padTo 32 [])).size = 32) := hz_size
    have hne0 : ¬ (L.length : Int) = 0 := by omega
    have hne1 : ¬ (L.length : Int) = 1 := by omega
    have b0 : (k : Int) ≤ (L.length : Int) := by omega
    have b2 : (k : Int) ≤ (c : Int) := by omega
    have b3 : (L.length : Int) ≤ (c : Int) := by omega
    have b4 : k ≤ c := by omega
    have b5 : ¬ c = k := by omega
    clear ih h2 hk hL hR hx hroom hN
    generalize hn : L.length = n at *
    clear hn
    generalize hv (rootH (L.take k)) = RA at *
    generalize hv (rootH (L.drop k)) = RC at *
    generalize hv (rootH L) = R at *
    have hwz := hw1
    rw [zero_h32] at hwz
    obtain ⟨Z, hZ⟩ : ∃ Z, hv (padTo 32 []) = Z := ⟨_, rfl⟩
    rw [hZ] at HG z1
    have HB1 : Hid (Below w1.heap.size w1 w1) := Below.refl _ _
    clear hg1 b1 hw1 hZ
    go_enter Tryd.func16, Tryd.ntmps16
    go_wp2_with fail
    refine (HSp.out _).mono ?_
    rintro e w' ⟨rfl, hw'⟩
    have hw'' := hw'.symm
    clear hw'
    subst hw''
    go_upto_region 7 with fail
    refine wp_region_held (S := Below w.heap.size w) (by kernel_rfl) ?_
    change wpAnyH _ _ _ _ _ _ _ _ (World.drew _)
    have HX : Below w1.heap.size w1 w1.drew := HB1.out.drew
    generalize World.drew _ = w4 at *
    refine wpAnyH_take (i := 0) (v := .slice (some ⟨b, o, none⟩) n c) rfl (by kernel_rfl) (by kernel_rfl) (by kernel_rfl) (fun _ _ _ h => h) (Or.inl ⟨by rfl, by intro w _; go_simp⟩) (HB.out _ HX) ?_
    simp only [List.getElem_toArray, List.getElem_cons_succ, List.getElem_cons_zero, Act.put, List.setIfInBounds_toArray, List.set_cons_zero, List.set_cons_succ]
    refine wpAnyH_take (i := 1) (v := .int .i64 k) rfl (by kernel_rfl) (by kernel_rfl) (by kernel_rfl) (fun _ _ _ h => h) (Or.inl ⟨by rfl, by intro w _; go_simp⟩) (HB.out _ HX) ?_
    simp only [List.getElem_toArray, List.getElem_cons_succ, List.getElem_cons_zero, Act.put, List.setIfInBounds_toArray, List.set_cons_zero, List.set_cons_succ]
    refine wpAnyH_take (i := 2) (v := .slice (some ⟨b, o, none⟩) k c) rfl (by kernel_rfl) (by kernel_rfl) (by kernel_rfl) (fun _ _ _ h => h) (Or.inl ⟨by rfl, by intro w _; go_simp⟩) (HB.out _ HX) ?_
    simp only [List.getElem_toArray, List.getElem_cons_succ, List.getElem_cons_zero, Act.put, List.setIfInBounds_toArray, List.set_cons_zero, List.set_cons_succ]
    refine wpAnyH_take (i := 4) (v := .slice (some ⟨b, o, none⟩) n c) rfl (by kernel_rfl) (by kernel_rfl) (by kernel_rfl) (fun _ _ _ h => h) (Or.inl ⟨by rfl, by intro w _; go_simp⟩) (HB.out _ HX) ?_
    simp only [List.getElem_toArray, List.getElem_cons_succ, List.getElem_cons_zero, Act.put, List.setIfInBounds_toArray, List.set_cons_zero, List.set_cons_succ]
    refine wpAnyH_take (i := 5) (v := .int .i64 k) rfl (by kernel_rfl) (by kernel_rfl) (by kernel_rfl) (fun _ _ _ h => h) (Or.inl ⟨by rfl, by intro w _; go_simp⟩) (HB.out _ HX) ?_
    simp only [List.getElem_toArray, List.getElem_cons_succ, List.getElem_cons_zero, Act.put, List.setIfInBounds_toArray, List.set_cons_zero, List.set_cons_succ]
    refine wpAnyH_take (i := 6) (v := .slice (some ⟨b, o + k * 32, none⟩) (n - k) (c - k)) rfl (by kernel_rfl) (by kernel_rfl) (by kernel_rfl) (fun _ _ _ h => h) (Or.inl ⟨by rfl, by intro w _; go_simp⟩) (HB.out _ HX) ?_
    simp only [List.getElem_toArray, List.getElem_cons_succ, List.getElem_cons_zero, Act.put, List.setIfInBounds_toArray, List.set_cons_zero, List.set_cons_succ]
    refine wpAnyH_ready (rs := [3]) (by kernel_rfl) (by simp) (AllReadyH.cons (by simp only [List.getElem?_toArray, List.getElem?_cons_succ, List.getElem?_cons_zero]; rfl) (fun K hK => ?_) AllReadyH.nil)
    refine step_plain rfl ?_
    go_simp
    refine (HR1.out _ (HB.out _ HX)).mono ?_
    rintro e w5 ⟨rfl, b5⟩
    have HX : Below w1.heap.size w1 w5 := HX.trans (b5.mono HX.size)
    clear b5
    refine hK.out _ _ (HB.out _ HX) (fun _ => ?_)
    clear hK K
    try simp only [List.getElem_toArray, List.getElem_cons_succ, List.getElem_cons_zero, Act.put, List.setIfInBounds_toArray, List.set_cons_zero, List.set_cons_succ]
    refine wpAnyH_ready (rs := [7]) (by kernel_rfl) (by simp) (AllReadyH.cons (by simp only [List.getElem?_toArray, List.getElem?_cons_succ, List.getElem?_cons_zero]; rfl) (fun K hK => ?_) AllReadyH.nil)
    refine step_plain rfl ?_
    go_simp
    refine (HR2.out _ (HB.out _ HX)).mono ?_
    rintro e w5 ⟨rfl, b5⟩
    have HX : Below w1.heap.size w1 w5 := HX.trans (b5.mono HX.size)
    clear b5
    refine hK.out _ _ (HB.out _ HX) (fun _ => ?_)
    clear hK K
    try simp only [List.getElem_toArray, List.getElem_cons_succ, List.getElem_cons_zero, Act.put, List.setIfInBounds_toArray, List.set_cons_zero, List.set_cons_succ]
    refine wpAnyH_ready (rs := [8]) (by kernel_rfl) (by simp) (AllReadyH.cons (by simp only [List.getElem?_toArray, List.getElem?_cons_succ, List.getElem?_cons_zero]; rfl) (fun K hK => ?_) AllReadyH.nil)
    refine step_plain rfl ?_
    go_simp
    refine (HNd.out _ (HB.out _ HX)).mono ?_
    rintro e w5 ⟨rfl, b5⟩
    have HX : Below w1.heap.size w1 w5 := HX.trans (b5.mono HX.size)
    clear b5
    refine hK.out _ _ (HB.out _ HX) (fun _ => ?_)
    clear hK K
    try simp only [List.getElem_toArray, List.getElem_cons_succ, List.getElem_cons_zero, Act.put, List.setIfInBounds_toArray, List.set_cons_zero, List.set_cons_succ]
    have g5 := HG.out _ HX
    have HT : Below w.heap.size w (w5.setRow w.heap.size R) := below_setRow (HB.out _ HX) (Nat.le_refl _) R
    refine wpAnyH_ready (rs := [9]) (by kernel_rfl) (by simp) (AllReadyH.cons (by simp only [List.getElem?_toArray, List.getElem?_cons_succ, List.getElem?_cons_zero]; rfl) (fun K hK => ?_) AllReadyH.nil)
    refine step_plain rfl ?_
    refine wp_store_row 23 (.tmp 2) _ rfl w.heap.size R rfl rfl _ _ g5 (by rw [info_h32, e4]) (by rw [z1.out, e4]) e5 ?_
    refine hK.out _ _ HT (fun _ => ?_)
    clear hK K
    try simp only [List.getElem_toArray, List.getElem_cons_succ, List.getElem_cons_zero, Act.put, List.setIfInBounds_toArray, List.set_cons_zero, List.set_cons_succ]
    refine wpAnyH_done (by kernel_rfl) ?_ _
    have g6 := heap_setRow_same (ds := R) g5
    have HW : Hid _ := HT
    clear HX HT g5
    go_wp2
    all_goals
      refine bodyPost_ret (v := .agg R) (results_cell1 (p := 2) Tryd.results16 _ _ w.heap.size 32 23 5 R (0, 0) rfl g6 Tryd.underlying23 info_h32 e4) rfl ⟨rfl, HW.out⟩
theorem root_any {w : World} {v : Value} {L : List (List UInt8)} (hK : TabL w) (hL : HsAt w v L) (hroom : ∀ a n c, v = .slice a n c → n ≤ c) (hl : L.length ≤ 100000) : Calls Tryd.prog 16 #[v] w fun e w' => e = .returned (.agg (hv (rootH L))) ∧ Below w.heap.size w w' := proot_upto L.length L w v (Nat.le_refl _) hl hK hL hroom
end Go.Proofs.YtficmbaffkkfhaaDoor
