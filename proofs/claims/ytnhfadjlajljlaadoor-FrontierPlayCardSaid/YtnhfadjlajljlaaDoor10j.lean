/- Contracts of Of and Load of a frontier (layer 10). -/
import Derived.Test.YtnhfadjlajljlaaDoor10i
import Derived.Test.YtnhfadjlajljlaaDoorR9j
namespace Go.Proofs.YtnhfadjlajljlaaDoor
open Go.RowKit

/-- The hashes of a frontier of leaves. -/
abbrev edH (L : List (List UInt8)) : List (List UInt8) := edT (shaL []) nodeL 63 L
theorem edH_next {L : List (List UInt8)} {i : Nat} {x : List UInt8} (hx : L[i]? = some x) (hl : L.length ≤ 100000) : edH (L.take (i + 1)) = puL nodeL (tlN i) (edH (L.take i)) x := by
  have hlt := (List.getElem?_eq_some_iff.1 hx).1
  have hti : (L.take i).length = i := by rw [List.length_take]; omega
  have := ed_more (shaL []) nodeL 63 (L.take i) x (by omega)
  rw [hti] at this
  rw [← this, List.take_add_one, hx]
  rfl
theorem edH_root {L : List (List UInt8)} (hl : L.length ≤ 100000) : rtH (edH L) = rootH L := ed_root (shaL []) nodeL 63 L (by omega)
set_option maxRecDepth 100000 in
set_option maxHeartbeats 2000000 in
theorem fof_any {w : World} {v : Value} {L : List (List UInt8)} (hL : HsAt w v L) (hT : TabF w) (hlen : L.length ≤ 100000) : Calls Tryd.prog 22 #[v] w fun e w' => ∃ b, e = .returned (.pointer (some ⟨b, 0, none⟩)) ∧ Fr w' w.heap.size b L.length (edH L) ∧ Below w.heap.size w w' := by
  obtain ⟨a, c, rfl, -⟩ := id hL
  have HN : Hid (Calls Tryd.prog 19 #[] w fun e w' => e = .returned (.pointer (some ⟨w.heap.size, 0, none⟩)) ∧ Fr w' w.heap.size w.heap.size 0 [] ∧ Below w.heap.size w w') := fnew_any w
  have HL : Hid (∀ w', Below w.heap.size w w' → HsAt w' (.slice a L.length c) L) := fun w' hb => hL.below hb
  have HA : Hid (∀ (i : Nat) (x : List UInt8) (W : World), L[i]? = some x → Fr W w.heap.size w.heap.size i (edH (L.take i)) → Below w.heap.size w W → Calls Tryd.prog 10 #[.pointer (some ⟨w.heap.size, 0, none⟩), .agg (hv x)] W fun e w' => e = .returned (.int .i64 0) ∧ Fr w' w.heap.size w.heap.size (i + 1) (edH (L.take (i + 1))) ∧ Below w.heap.size w w') := fun i x W hx hF hB => by
    have hlt := (List.getElem?_eq_some_iff.1 hx).1
    refine (fappend_any x hF (hT.below hB hT.lt) hT.lt (hL.len x (List.mem_of_getElem? hx)) (by omega)).mono ?_
    rintro e w' ⟨rfl, h1, h2⟩
    rw [edH_next hx hlen]
    exact ⟨rfl, h1, hB.trans (h2.below (Nat.le_refl _) hB.size)⟩
  clear hL hT
  go_enter Tryd.func22, Tryd.ntmps22
  go_wp2_with fail
  refine HN.out.mono ?_
  rintro e w1 ⟨rfl, hF1, hB1⟩
  have HF1 : Hid (Fr w1 w.heap.size w.heap.size 0 (edH (L.take 0))) := by
    have e0 : edH (L.take 0) = [] := by rw [List.take_zero]; exact ed_nil _ _ 63
    show Fr _ _ _ _ _
    rw [e0]
    exact hF1
  have HB1 : Hid (Below w.heap.size w w1) := hB1
  clear hF1 hB1 HN
  obtain ⟨b, hb⟩ : ∃ b, w.heap.size = b := ⟨_, rfl⟩
  have HBb : Hid (w.heap.size = b) := hb
  rw [hb] at HF1 HA HB1 HL ⊢
  go_wp2
  go_loopw [9] (fun iv wr => ∃ i : Nat, i ≤ L.length ∧ iv = .int .i64 i ∧ Fr wr b b i (edH (L.take i)) ∧ Below b w wr) (fun iv _ => L.length - (intOf iv).toNat)
  case atStart => exact ⟨0, Nat.zero_le _, rfl, HF1.out, HB1.out⟩
  case round =>
    obtain ⟨i, hi, rfl, hF, hB⟩ := hrel
    clear HF1 HB1
    by_cases hi2 : i < L.length
    · obtain ⟨x, hx⟩ : ∃ x, L[i]? = some x := ⟨_, List.getElem?_eq_getElem hi2⟩
      obtain ⟨h32, b1, o1, rfl, hr⟩ := (HL.out wr hB).cells.2 i x hx
      have hr := hr wr (Below.refl _ _)
      have hxs : (hv x).size = 32 := by rw [hv_size, h32]
      have ic : Hid ((Tryd.prog.info? 30).map (·.size) = some (hv x).toList.length) := by show _ = _; rw [info_h32, Array.length_toList, hxs]
      obtain ⟨w2, hw2, b2, g2⟩ := hash_box wr
      have hzs := hz_size
      have hF2 := hF.next (b2.trans (below_setRow (Below.refl wr.heap.size w2) (Nat.le_refl _) (hv x)))
      have hB2 : Below b w (w2.setRow wr.heap.size (hv x)) := hB.trans ((b2.trans (below_setRow (Below.refl wr.heap.size w2) (Nat.le_refl _) (hv x))).mono (by rw [← hb]; exact hB.size))
      have g3 := range_row (heap_setRow_same (ds := hv x) g2)
      have HA2 := HA.out i x _ hx hF2 hB2
      have hone := hv_one x
      have k1 : (i : Int) < (L.length : Int) := by omega
      have k2 : (0 : Int) ≤ (i : Int) := by omega
      have hwi : wrap64 ((i : Int) + 1) = (i : Int) + 1 := by unfold wrap64; omega
      rw [zero_h32] at hw2 g2 hzs
      have HA2 : Hid (Calls Tryd.prog 10 #[.pointer (some ⟨b, 0, none⟩), .agg (hv x)] (w2.setRow wr.heap.size (hv x)) fun e w' => e = .returned (.int .i64 0) ∧ Fr w' b b (i + 1) (edH (L.take (i + 1))) ∧ Below b w w') := HA2
      clear hx hF hB b2 hF2 hB2 HL HA
      generalize hX : hv x = X at *
      obtain ⟨w3, hw3⟩ : ∃ w3, w2.setRow wr.heap.size X = w3 := ⟨_, rfl⟩
      rw [hw3] at HA2 g3
      go_wp2_with (first | (refine wpList_load_mid rfl 30 (.tmp 11) rfl b1 (o1 + i * 32) rfl X.toList _ hr Tryd.underlying30 rfl ic.out ?_) | (refine wpList_store_row rfl 30 _ _ rfl wr.heap.size X rfl rfl _ _ g2 (by rw [info_h32, hxs]) (by rw [hzs, hxs]) hone ?_; rw [hw3]) | (refine wpList_load_mid rfl 30 (.tmp 5) rfl wr.heap.size 0 rfl X.toList _ g3 Tryd.underlying30 rfl ic.out ?_) | fail)
      refine HA2.out.mono ?_
      rintro e w4 ⟨rfl, hF4, hB4⟩
      have HF4 : Hid (Fr w4 b b (i + 1) (edH (L.take (i + 1)))) := hF4
      have HB4 : Hid (Below b w w4) := hB4
      clear hF4 hB4 hr g2 g3 hw2 hw3
      go_wp2
      go_roundw
      case rel => exact ⟨i + 1, by omega, by go_num, HF4.out, HB4.out⟩
      case measure => simp [intOf]; omega
    · obtain rfl : i = L.length := by omega
      rw [List.take_length] at hF
      have HF : Hid (Fr wr b b L.length (edH L)) := hF
      have HB : Hid (Below b w wr) := hB
      have k1 : ¬ (L.length : Int) < (L.length : Int) := by omega
      clear hF hB hb hi HL HA
      go_wp2
      go_ret
      exact ⟨b, rfl, by rw [HBb.out]; exact HF.out, by rw [HBb.out]; exact HB.out⟩
set_option maxRecDepth 100000 in
theorem fload_bad {w : World} {v : Value} {L : List (List UInt8)} (n : Int) (hL : HsAt w v L) (hn1 : n < 9223372036854775808) (hb : n < 0 ∨ pcN n.toNat ≠ L.length) : Calls Tryd.prog 8 #[.int .i64 n, v] w fun e w' => e = .returned (.tuple #[.pointer none, .int .i64 2]) ∧ w' = w := by
  obtain ⟨a, c, rfl, -⟩ := id hL
  clear hL
  by_cases hn : n < 0
  · go_enter Tryd.func8, Tryd.ntmps8
    go_wp2
    go_ret2
    exact ⟨rfl, rfl⟩
  · obtain ⟨m, rfl⟩ := Int.eq_ofNat_of_zero_le (show 0 ≤ n by omega)
    have hb2 : pcN m ≠ L.length := hb.resolve_left hn
    have hpl := pc_le 63 m (by omega)
    have hne : (((pcN m : Nat) : Int) == (L.length : Int)) = false := by rw [beq_eq_false_iff_ne]; omega
    have HC : Hid (∀ W, Calls Tryd.prog 24 #[.int .u64 (m : Int)] W fun e w' => e = .returned (.int .i64 (pcN m)) ∧ w' = W) := fun W => ones_any m (by omega) W
    have hcv : IntKind.u64.wrap (m : Int) = (m : Int) := not_u64 m (by omega)
    clear hb hb2 hn hpl
    have hn : ¬ (m : Int) < 0 := by omega
    clear hn1
    generalize pcN m = q at *
    generalize L.length = r at *
    go_enter Tryd.func8, Tryd.ntmps8
    go_wp2_with (first | (go_at_call 24; refine (HC.out _).mono ?_; rintro e w ⟨rfl, rfl⟩) | fail)
    go_ret2
    exact ⟨rfl, rfl⟩
set_option maxRecDepth 100000 in
theorem fload_good {w : World} {v : Value} {L : List (List UInt8)} (m : Nat) (hL : HsAt w v L) (hlen : L.length ≤ 100000) (hm : m < 9223372036854775808) (hb : pcN m = L.length) : Calls Tryd.prog 8 #[.int .i64 m, v] w fun e w' => ∃ b, e = .returned (.tuple #[.pointer (some ⟨b, 0, none⟩), .int .i64 0]) ∧ Fr w' w.heap.size b m L ∧ Below w.heap.size w w' := by
  obtain ⟨a, c, rfl, -⟩ := id hL
  have HC : Hid (∀ W, Calls Tryd.prog 24 #[.int .u64 (m : Int)] W fun e w' => e = .returned (.int .i64 (L.length : Nat)) ∧ w' = W) := fun W => by
    have := ones_any m (by omega) W
    rwa [hb] at this
  have hcv : IntKind.u64.wrap (m : Int) = (m : Int) := not_u64 m hm
  have HN : Hid (Calls Tryd.prog 19 #[] w fun e w' => e = .returned (.pointer (some ⟨w.heap.size, 0, none⟩)) ∧ Fr w' w.heap.size w.heap.size 0 [] ∧ Below w.heap.size w w') := fnew_any w
  have HCl : Hid (∀ W, Below w.heap.size w W → Calls Tryd.prog 25 #[.slice a L.length c] W fun e w' => ∃ a c, e = .returned (.slice a L.length c) ∧ Mh W W.heap.size (.slice a L.length c) L w') := fun W hW => hclone_any (hL.below hW) hlen
  have hn : ¬ (m : Int) < 0 := by omega
  have HP : Hid (L.length = pcN m) := hb.symm
  clear hb hL
  obtain ⟨r, hr⟩ : ∃ r, L.length = r := ⟨_, rfl⟩
  rw [hr] at HC HCl ⊢
  go_enter Tryd.func8, Tryd.ntmps8
  go_wp2_with (first | (go_at_call 24; refine (HC.out _).mono ?_; rintro e w ⟨rfl, rfl⟩) | fail)
  refine HN.out.mono ?_
  rintro e w1 ⟨rfl, hF, hB⟩
  obtain ⟨a0, q0, h1, -⟩ := hF
  go_wp2_with fail
  refine (HCl.out w1 hB).mono ?_
  rintro e w2 ⟨xa, xc, rfl, hM⟩
  have h2 := (hM.below.block _ (Array.getElem?_eq_some_iff.1 h1).1).trans h1
  obtain ⟨c0, c1, c2⟩ := fcells h2
  have f0 : w2.frozen? ⟨w.heap.size, 0, none⟩ = false := by rw [World.frozen?, h2]; rfl
  have f2 : w2.frozen? ⟨w.heap.size, 2, none⟩ = false := by rw [World.frozen?, h2]; rfl
  have hQ := hM.at_
  have hOw := hM.own
  obtain ⟨a', c', hsl, hxc⟩ := hM.slice
  rw [hr] at hsl hxc
  obtain ⟨rfl, -, rfl⟩ := Value.slice.inj hsl
  have hbl : w.heap.size < w1.heap.size := (Array.getElem?_eq_some_iff.1 h1).1
  have HF : Hid (Fr ((w2.setCell ⟨w.heap.size, 0, none⟩ (.slice xa r xc)).setCell ⟨w.heap.size, 2, none⟩ (.int .i64 (m : Int))) w.heap.size w.heap.size m L ∧ Below w.heap.size w ((w2.setCell ⟨w.heap.size, 0, none⟩ (.slice xa r xc)).setCell ⟨w.heap.size, 2, none⟩ (.int .i64 (m : Int)))) := by
    have s1 := heap_set_same (o := 0) (v := .slice xa r xc) h2
    have s2 := heap_set_same (o := 2) (v := .int .i64 (m : Int)) s1
    refine ⟨⟨xa, xc, ?_, ?_, by rw [hr]; exact hxc, fun ad ha => ?_, Nat.le_refl _, HP.out, hm⟩, ((hB.trans (hM.below.mono hB.size)).setCell (Nat.le_refl _) _).setCell (Nat.le_refl _) _⟩
    · rw [hr]
      exact s2
    · rw [hr]
      refine hQ.kept fun ad ha hpos => ?_
      obtain ⟨g, o, e, hg⟩ := hOw ad ha
      subst e
      rw [Below.heap_setCell _ _ _ _ (by simp only; omega), Below.heap_setCell _ _ _ _ (by simp only; omega)]
    · obtain ⟨g, o, e, hg⟩ := hOw ad ha
      exact ⟨g, o, e, by omega⟩
  clear hM hB h1 h2 hQ hOw hsl hxc
  go_wp2
  go_ret2
  exact ⟨_, rfl, HF.out⟩
end Go.Proofs.YtnhfadjlajljlaaDoor
