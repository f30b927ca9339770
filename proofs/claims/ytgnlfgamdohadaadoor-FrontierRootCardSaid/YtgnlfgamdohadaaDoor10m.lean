/- The law FrontierRoot (layer 10). -/
import Derived.Test.YtgnlfgamdohadaaDoor10k
namespace Go.Proofs.YtgnlfgamdohadaaDoor
open Go.RowKit

theorem and_i64 (a b : Nat) (ha : a < 9223372036854775808) (hb : b < 9223372036854775808) : bits .and .i64 (a : Int) (b : Int) = ((a &&& b : Nat) : Int) := by
  have h1 : (BitVec.ofInt 64 (a : Int)).toNat = a := by
    rw [BitVec.ofInt_natCast, BitVec.toNat_ofNat]; exact Nat.mod_eq_of_lt (by omega)
  have h2 : (BitVec.ofInt 64 (b : Int)).toNat = b := by
    rw [BitVec.ofInt_natCast, BitVec.toNat_ofNat]; exact Nat.mod_eq_of_lt (by omega)
  have h3 : a &&& b ≤ a := Nat.and_le_left
  show IntKind.i64.wrap ((BitVec.ofInt 64 (a : Int) &&& BitVec.ofInt 64 (b : Int)).toNat : Int) = _
  rw [BitVec.toNat_and, h1, h2, IntKind.wrap_i64]
  omega
/-- The size that stands for so many bits. -/
def szE : Nat → Nat
  | 0 => 0
  | e + 1 => 2 ^ e
theorem szE_half (e : Nat) : szE (e + 1) / 2 = szE e := by
  cases e with
  | zero => rfl
  | succ e => show 2 ^ (e + 1) / 2 = 2 ^ e; rw [Nat.pow_succ]; omega
theorem bit_is : ∀ (e : Fin 7) (n : Fin 65), (n.val &&& 2 ^ e.val = 0 ↔ n.val % 2 ^ (e.val + 1) < 2 ^ e.val) ∧ (n.val &&& 2 ^ e.val ≤ 64) := by decide +kernel
theorem add_wraps (a b : Nat) (h : a + b ≤ 1000) : wrap64 ((a : Int) + (b : Int)) = ((a + b : Nat) : Int) ∧ IntKind.i64.wrap ((a : Int) + (b : Int)) = ((a + b : Nat) : Int) :=
  ⟨by unfold wrap64; omega, by rw [IntKind.wrap_i64]; omega⟩
theorem ed_less : ∀ (e d : Nat) (l : List (List UInt8)), l.length < 2 ^ e → edT (shaL []) nodeL (d + e) l = edT (shaL []) nodeL e l
  | e, 0, l, _ => by rw [Nat.zero_add]
  | e, d + 1, l, h => by
    have h1 : 2 ^ e ≤ 2 ^ (d + e) := Nat.pow_le_pow_right (by decide) (by omega)
    rw [show d + 1 + e = (d + e) + 1 by omega, edT, if_neg (by omega), ed_less e d l h]
theorem mod_low {n e : Nat} (h : n % 2 ^ (e + 1) < 2 ^ e) : n % 2 ^ e = n % 2 ^ (e + 1) := by
  have h1 : n % 2 ^ (e + 1) % 2 ^ e = n % 2 ^ e := Nat.mod_mod_of_dvd n (Nat.pow_dvd_pow 2 (by omega))
  rw [← h1, Nat.mod_eq_of_lt h]
theorem mod_high {n e : Nat} (h : ¬ n % 2 ^ (e + 1) < 2 ^ e) : n % 2 ^ (e + 1) = n % 2 ^ e + 2 ^ e := by
  have h1 : n % 2 ^ (e + 1) % 2 ^ e = n % 2 ^ e := Nat.mod_mod_of_dvd n (Nat.pow_dvd_pow 2 (by omega))
  have h2 : n % 2 ^ (e + 1) < 2 ^ (e + 1) := Nat.mod_lt _ (Nat.pow_pos (by decide))
  rw [Nat.pow_succ] at h2
  have h3 : (n % 2 ^ (e + 1) - 2 ^ e) % 2 ^ e = n % 2 ^ (e + 1) % 2 ^ e := by
    conv => rhs; rw [show n % 2 ^ (e + 1) = (n % 2 ^ (e + 1) - 2 ^ e) + 2 ^ e by omega]
    rw [Nat.add_mod_right]
  rw [Nat.mod_eq_of_lt (a := n % 2 ^ (e + 1) - 2 ^ e) (by omega)] at h3
  omega
theorem ed_low_bit (L : List (List UInt8)) {n e : Nat} (hn : L.length = n) (h : n % 2 ^ (e + 1) < 2 ^ e) : edT (shaL []) nodeL (e + 1) (L.drop (n - n % 2 ^ (e + 1))) = edT (shaL []) nodeL e (L.drop (n - n % 2 ^ (e + 1))) ∧ n % 2 ^ (e + 1) = n % 2 ^ e := by
  have h1 := Nat.mod_le n (2 ^ (e + 1))
  exact ⟨by rw [edT, if_neg (by rw [List.length_drop, hn]; omega)], (mod_low h).symm⟩
theorem ed_high_bit (L : List (List UInt8)) {n e : Nat} (hn : L.length = n) (h : ¬ n % 2 ^ (e + 1) < 2 ^ e) : edT (shaL []) nodeL (e + 1) (L.drop (n - n % 2 ^ (e + 1))) = rootH ((L.drop (n - n % 2 ^ (e + 1))).take (2 ^ e)) :: edT (shaL []) nodeL e (L.drop (n - n % 2 ^ (e + 1) + 2 ^ e)) ∧ n - n % 2 ^ (e + 1) + 2 ^ e = n - n % 2 ^ e ∧ n - n % 2 ^ (e + 1) + 2 ^ e ≤ n := by
  have h1 := Nat.mod_le n (2 ^ (e + 1))
  have h2 := mod_high h
  have h3 : 0 < 2 ^ e := Nat.pow_pos (by decide)
  refine ⟨?_, by omega, by omega⟩
  rw [edT, if_pos (by rw [List.length_drop, hn]; omega), List.drop_drop]
  rfl
theorem HsAt.part {w : World} {b o n c : Nat} {L : List (List UInt8)} (h : HsAt w (.slice (some ⟨b, o, none⟩) n c) L) (i k : Nat) (hi : i + k ≤ n) (hc : n ≤ c) : HsAt w (.slice (if c = i then some ⟨b, o, none⟩ else some ⟨b, o + i * 32, none⟩) k (c - i)) ((L.drop i).take k) :=
  (h.rest i (by omega) hc).take k (by omega)
set_option maxRecDepth 100000 in
set_option maxHeartbeats 8000000 in
set_option linter.unusedSimpArgs false in
set_option linter.unusedVariables false in
theorem froot_law {w : World} {v : Value} {L : List (List UInt8)} (hL : HsAt w v L) (hroom : ∀ a n c, v = .slice a n c → n ≤ c) (hT : TabF w) : Calls Tryd.prog 5 #[v] w fun e w' => e = .returned (.bool true) ∧ Below w.heap.size w w' := by
  obtain ⟨a, c, rfl, -⟩ := id hL
  have hc := hroom _ _ _ rfl
  by_cases hbig : L.length > 64
  · have h1 : (L.length : Int) > 64 := by omega
    clear hL
    go_enter Tryd.func5, Tryd.ntmps5
    go_wp2
    go_ret
    exact ⟨rfl, Below.refl _ _⟩
  have h64 : L.length ≤ 64 := by omega
  have hng : ¬ (L.length : Int) > 64 := by omega
  obtain ⟨n, hn⟩ : ∃ n, L.length = n := ⟨_, rfl⟩
  have HLn : Hid (L.length = n) := hn
  have h32 := hL.len
  have HL : Hid (∀ W, Below w.heap.size w W → HsAt W (.slice a n c) L ∧ TabF W) := fun W hW => ⟨by rw [← hn]; exact hL.below hW, hT.below hW hT.lt⟩
  have HN : Hid (Calls Tryd.prog 19 #[] w fun e w' => e = .returned (.pointer (some ⟨w.heap.size, 0, none⟩)) ∧ Fr w' w.heap.size w.heap.size 0 [] ∧ Below w.heap.size w w') := fnew_any w
  have HOf : Hid (∀ W, Below w.heap.size w W → Calls Tryd.prog 22 #[.slice a n c] W fun e w' => ∃ b, e = .returned (.pointer (some ⟨b, 0, none⟩)) ∧ Fr w' W.heap.size b n (edH L) ∧ Below W.heap.size W w') := fun W hW => by
    have := fof_any (HL.out W hW).1 (HL.out W hW).2 (by omega)
    rwa [hn] at this
  have HRL : Hid (∀ W i, i ≤ n → Below w.heap.size w W → Calls Tryd.prog 21 #[.slice a i c] W fun e w' => e = .returned (.agg (hv (rootH (L.take i)))) ∧ Below W.heap.size W w') := fun W i hi hW => root_any (HL.out W hW).2.l ((HL.out W hW).1.take i hi) (fun a n c e => by have := Value.slice.inj e; omega) (by rw [List.length_take]; omega)
  have HFR : Hid (∀ (W : World) (B b i : Nat), i ≤ n → Fr W B b i (edH (L.take i)) → Below w.heap.size w W → Calls Tryd.prog 14 #[.pointer (some ⟨b, 0, none⟩)] W fun e w' => e = .returned (.agg (hv (rootH (L.take i)))) ∧ Below W.heap.size W w') := fun W B b i hi hF hW => by
    have := froot_any hF (HL.out W hW).2.l
    rwa [edH_root (by rw [List.length_take]; omega)] at this
  have HAp : Hid (∀ (W : World) (i : Nat) (x : List UInt8), L[i]? = some x → Fr W w.heap.size w.heap.size i (edH (L.take i)) → Below w.heap.size w W → Calls Tryd.prog 10 #[.pointer (some ⟨w.heap.size, 0, none⟩), .agg (hv x)] W fun e w' => e = .returned (.int .i64 0) ∧ Fr w' w.heap.size w.heap.size (i + 1) (edH (L.take (i + 1))) ∧ Below w.heap.size w w') := fun W i x hx hF hW => by
    have hlt := (List.getElem?_eq_some_iff.1 hx).1
    refine (fappend_any x hF (HL.out W hW).2 hT.lt (h32 x (List.mem_of_getElem? hx)) (by omega)).mono ?_
    rintro e w' ⟨rfl, h1, h2⟩
    rw [edH_next hx (by omega)]
    exact ⟨rfl, h1, hW.trans (h2.below (Nat.le_refl _) hW.size)⟩
  have HD : Hid (∀ W, Below w.heap.size w W → Calls Tryd.prog 18 #[] W fun e w' => e = .returned (.bool true) ∧ Below W.heap.size W w') := fun W hW => does10_any W (HL.out W hW).2
  have hneq : ∀ (w9 : World) (i : Nat), (binOp .neq 30 (.agg (hv (rootH (L.take i)))) (.agg (hv (rootH (L.take i))))).run Tryd.prog w9 = .ok (.bool false) w9 := fun w9 i => by
    have h3 : (rootH (L.take i)).length = 32 := rootH_32 (fun x hx => h32 x (List.mem_of_mem_take hx))
    have := neqH w9 (rootH (L.take i)) (rootH (L.take i)) h3 h3
    simpa using this
  have heqH : ∀ (w9 : World), (binOp .eql 30 (.agg (hv (rootH L))) (.agg (hv (rootH L)))).run Tryd.prog w9 = .ok (.bool true) w9 := fun w9 => by
    have h3 : (rootH L).length = 32 := rootH_32 h32
    have := eqH w9 (rootH L) (rootH L) h3 h3
    rwa [beq_self_eq_true] at this
  have HGet : Hid (∀ i, i < n → ∃ x, L[i]? = some x ∧ x.length = 32) := fun i hi => ⟨_, List.getElem?_eq_getElem (by omega), h32 _ (List.getElem_mem _)⟩
  clear hL hT hn hroom
  obtain ⟨B, hB⟩ : ∃ B, w.heap.size = B := ⟨_, rfl⟩
  have HBb : Hid (w.heap.size = B) := hB
  rw [HLn.out] at hng h64 hc ⊢
  go_enter Tryd.func5, Tryd.ntmps5
  go_wp2_with fail
  refine HN.out.mono ?_
  rintro e w1 ⟨rfl, hF1, hB1⟩
  have HF1 : Hid (Fr w1 B B 0 (edH (L.take 0))) := by
    have e0 : edH (L.take 0) = [] := by rw [List.take_zero]; exact ed_nil _ _ 63
    show Fr _ _ _ _ _
    rw [e0, ← hB]
    exact hF1
  have HB1 : Hid (Below B w w1) := by
    show Below _ _ _
    rw [← hB]
    exact hB1
  clear hF1 hB1 HN
  rw [hB] at HL HOf HRL HFR HAp HD ⊢
  go_wp2
  go_loopw [4] (fun iv wr => ∃ i : Nat, i ≤ n ∧ iv = .int .i64 i ∧ Fr wr B B i (edH (L.take i)) ∧ Below B w wr) (fun iv _ => n - (intOf iv).toNat)
  case atStart => exact ⟨0, Nat.zero_le _, rfl, HF1.out, HB1.out⟩
  case round =>
    obtain ⟨i, hi, rfl, hF, hBr⟩ := hrel
    clear HF1 HB1
    by_cases hi2 : i < n
    · obtain ⟨x, hx, hx32⟩ := HGet.out i hi2
      obtain ⟨-, b1, o1, rfl, -⟩ := (HL.out wr hBr).1.cells.2 i x hx
      have HR : Hid (∀ W, Below B w W → W.rangeAt b1 (o1 + i * 32) (hv x).toList) := fun W hW => by
        obtain ⟨-, b', o', e, hr⟩ := (HL.out W hW).1.cells.2 i x hx
        simp at e
        obtain ⟨rfl, rfl⟩ := e
        exact hr W (Below.refl _ _)
      have HAx : Hid (∀ W, Fr W B B i (edH (L.take i)) → Below B w W → Calls Tryd.prog 10 #[.pointer (some ⟨B, 0, none⟩), .agg (hv x)] W fun e w' => e = .returned (.int .i64 0) ∧ Fr w' B B (i + 1) (edH (L.take (i + 1))) ∧ Below B w w') := fun W => HAp.out W i x hx
      have hxs : (hv x).size = 32 := by rw [hv_size, hx32]
      have ic : Hid ((Tryd.prog.info? 30).map (·.size) = some (hv x).toList.length) := by show _ = _; rw [info_h32, Array.length_toList, hxs]
      have HX0 : Hid (Below B w wr) := hBr
      have HF0 : Hid (Fr wr B B i (edH (L.take i))) := hF
      have hne := hneq
      have hne1 : ∀ w9 : World, (binOp .neq 30 (.agg (hv (rootH (L.take i)))) (.agg (hv (rootH (L.take i))))).run Tryd.prog w9 = .ok (.bool false) w9 := fun w9 => hneq w9 i
      have HRi : Hid (∀ W, Below B w W → Calls Tryd.prog 21 #[.slice (some ⟨b1, o1, none⟩) i c] W fun e w' => e = .returned (.agg (hv (rootH (L.take i)))) ∧ Below W.heap.size W w') := fun W hW => HRL.out W i hi hW
      have HFi : Hid (∀ W, Fr W B B i (edH (L.take i)) → Below B w W → Calls Tryd.prog 14 #[.pointer (some ⟨B, 0, none⟩)] W fun e w' => e = .returned (.agg (hv (rootH (L.take i)))) ∧ Below W.heap.size W w') := fun W => HFR.out W B B i hi
      have k0 : (0 : Int) ≤ (i : Int) := by omega
      have k1 : (i : Int) < (n : Int) := by omega
      have hic : i ≤ c := by omega
      have k2 : (i : Int) ≤ (c : Int) := by omega
      have hwi : wrap64 ((i : Int) + 1) = ((i + 1 : Nat) : Int) := by unfold wrap64; omega
      have hwi2 : IntKind.i64.wrap ((i : Int) + 1) = ((i + 1 : Nat) : Int) := by rw [IntKind.wrap_i64]; omega
      have hBL : Hid (∀ W, Below B w W → B ≤ W.heap.size) := fun W hW => by rw [← HBb.out]; exact hW.size
      clear hx hx32 hF hBr hneq heqH HL HOf HRL HFR HAp HD HGet hB hne
      generalize hv (rootH (L.take i)) = RR at *
      generalize hv x = X at *
      go_upto_region 7 with fail
      refine wp_region_held (S := Below B w) (by kernel_rfl) ?_
      change wpAnyH _ _ _ _ _ _ _ _ (World.drew _)
      have HX : Below B w wr.drew := HX0.out.drew
      have hF : Fr wr.drew B B i (edH (L.take i)) := HF0.out.next (Below.refl _ _).drew
      clear HX0 HF0
      generalize World.drew _ = x0 at *
      refine wpAnyH_take (i := 0) (v := .pointer (some ⟨B, 0, none⟩)) rfl (by kernel_rfl) (by kernel_rfl) (by kernel_rfl) (fun _ _ _ h => h) (Or.inl ⟨by rfl, by intro w9 _; go_simp⟩) HX ?_
      simp only [List.getElem_toArray, List.getElem_cons_succ, List.getElem_cons_zero, Act.put, List.setIfInBounds_toArray, List.set_cons_zero, List.set_cons_succ]
      refine wpAnyH_take (i := 2) (v := .slice (some ⟨b1, o1, none⟩) n c) rfl (by kernel_rfl) (by kernel_rfl) (by kernel_rfl) (fun _ _ _ h => h) (Or.inl ⟨by rfl, by intro w9 _; go_simp⟩) HX ?_
      simp only [List.getElem_toArray, List.getElem_cons_succ, List.getElem_cons_zero, Act.put, List.setIfInBounds_toArray, List.set_cons_zero, List.set_cons_succ]
      refine wpAnyH_take (i := 3) (v := .int .i64 (i : Int)) rfl (by kernel_rfl) (by kernel_rfl) (by kernel_rfl) (fun _ _ _ h => h) (Or.inl ⟨by rfl, by intro w9 _; go_simp⟩) HX ?_
      simp only [List.getElem_toArray, List.getElem_cons_succ, List.getElem_cons_zero, Act.put, List.setIfInBounds_toArray, List.set_cons_zero, List.set_cons_succ]
      refine wpAnyH_take (i := 4) (v := .slice (some ⟨b1, o1, none⟩) i c) rfl (by kernel_rfl) (by kernel_rfl) (by kernel_rfl) (fun _ _ _ h => h) (Or.inl ⟨by rfl, by intro w9 _; go_simp⟩) HX ?_
      simp only [List.getElem_toArray, List.getElem_cons_succ, List.getElem_cons_zero, Act.put, List.setIfInBounds_toArray, List.set_cons_zero, List.set_cons_succ]
      refine wpAnyH_ready (rs := [1]) (by kernel_rfl) (by simp) (AllReadyH.cons (by simp only [List.getElem?_toArray, List.getElem?_cons_succ, List.getElem?_cons_zero]; rfl) (fun K hK => ?_) AllReadyH.nil)
      refine step_want (by rfl) ?_
      go_simp
      refine (HFi.out x0 hF HX).mono ?_
      rintro e x1 ⟨rfl, bc⟩
      have HX : Below B w x1 := HX.trans (bc.mono (hBL.out _ HX))
      have hF := hF.next bc
      clear bc
      refine hK.out _ _ HX (fun _ => ?_)
      clear hK K
      try simp only [List.getElem_toArray, List.getElem_cons_succ, List.getElem_cons_zero, Act.put, List.setIfInBounds_toArray, List.set_cons_zero, List.set_cons_succ]
      refine wpAnyH_ready (rs := [5]) (by kernel_rfl) (by simp) (AllReadyH.cons (by simp only [List.getElem?_toArray, List.getElem?_cons_succ, List.getElem?_cons_zero]; rfl) (fun K hK => ?_) AllReadyH.nil)
      refine step_want (by rfl) ?_
      go_simp
      refine (HRi.out x1 HX).mono ?_
      rintro e x2 ⟨rfl, bc⟩
      have HX : Below B w x2 := HX.trans (bc.mono (hBL.out _ HX))
      have hF := hF.next bc
      clear bc
      refine hK.out _ _ HX (fun _ => ?_)
      clear hK K
      try simp only [List.getElem_toArray, List.getElem_cons_succ, List.getElem_cons_zero, Act.put, List.setIfInBounds_toArray, List.set_cons_zero, List.set_cons_succ]
      refine wpAnyH_take (i := 6) (v := .bool false) rfl (by kernel_rfl) (by kernel_rfl) (by kernel_rfl) (fun _ _ _ h => h) (Or.inl ⟨by rfl, by intro w9 _; go_simp⟩) HX ?_
      simp only [List.getElem_toArray, List.getElem_cons_succ, List.getElem_cons_zero, Act.put, List.setIfInBounds_toArray, List.set_cons_zero, List.set_cons_succ]
      refine wpAnyH_take (i := 7) (v := .bool false) rfl (by kernel_rfl) (by kernel_rfl) (by kernel_rfl) (fun _ _ _ h => h) (Or.inl ⟨by rfl, by intro w9 _; go_simp⟩) HX ?_
      simp only [List.getElem_toArray, List.getElem_cons_succ, List.getElem_cons_zero, Act.put, List.setIfInBounds_toArray, List.set_cons_zero, List.set_cons_succ]
      refine wpAnyH_take (i := 8) (v := .pointer (some ⟨B, 0, none⟩)) rfl (by kernel_rfl) (by kernel_rfl) (by kernel_rfl) (fun _ _ _ h => h) (Or.inl ⟨by rfl, by intro w9 _; go_simp⟩) HX ?_
      simp only [List.getElem_toArray, List.getElem_cons_succ, List.getElem_cons_zero, Act.put, List.setIfInBounds_toArray, List.set_cons_zero, List.set_cons_succ]
      refine wpAnyH_take (i := 9) (v := .slice (some ⟨b1, o1, none⟩) n c) rfl (by kernel_rfl) (by kernel_rfl) (by kernel_rfl) (fun _ _ _ h => h) (Or.inl ⟨by rfl, by intro w9 _; go_simp⟩) HX ?_
      simp only [List.getElem_toArray, List.getElem_cons_succ, List.getElem_cons_zero, Act.put, List.setIfInBounds_toArray, List.set_cons_zero, List.set_cons_succ]
      refine wpAnyH_take (i := 10) (v := .int .i64 (i : Int)) rfl (by kernel_rfl) (by kernel_rfl) (by kernel_rfl) (fun _ _ _ h => h) (Or.inl ⟨by rfl, by intro w9 _; go_simp⟩) HX ?_
      simp only [List.getElem_toArray, List.getElem_cons_succ, List.getElem_cons_zero, Act.put, List.setIfInBounds_toArray, List.set_cons_zero, List.set_cons_succ]
      refine wpAnyH_take (i := 11) (v := .pointer (some ⟨b1, o1 + i * 32, none⟩)) rfl (by kernel_rfl) (by kernel_rfl) (by kernel_rfl) (fun _ _ _ h => h) (Or.inl ⟨by rfl, by intro w9 _; go_simp⟩) HX ?_
      simp only [List.getElem_toArray, List.getElem_cons_succ, List.getElem_cons_zero, Act.put, List.setIfInBounds_toArray, List.set_cons_zero, List.set_cons_succ]
      refine wpAnyH_take (i := 12) (v := .agg X) rfl (by kernel_rfl) (by kernel_rfl) (by kernel_rfl) (fun _ _ _ h => h) (yieldsIf_load_mid (by rfl) 30 _ rfl b1 (o1 + i * 32) rfl X.toList _ (fun w' h => HR.out w' h) Tryd.underlying30 rfl ic.out) HX ?_
      simp only [List.getElem_toArray, List.getElem_cons_succ, List.getElem_cons_zero, Act.put, List.setIfInBounds_toArray, List.set_cons_zero, List.set_cons_succ]
      refine wpAnyH_ready (rs := [13]) (by kernel_rfl) (by simp) (AllReadyH.cons (by simp only [List.getElem?_toArray, List.getElem?_cons_succ, List.getElem?_cons_zero]; rfl) (fun K hK => ?_) AllReadyH.nil)
      refine step_want (by rfl) ?_
      go_simp
      refine (HAx.out x2 hF HX).mono ?_
      clear hF
      rintro e x3 ⟨rfl, hF, HX⟩
      refine hK.out _ _ HX (fun _ => ?_)
      clear hK K
      try simp only [List.getElem_toArray, List.getElem_cons_succ, List.getElem_cons_zero, Act.put, List.setIfInBounds_toArray, List.set_cons_zero, List.set_cons_succ]
      refine wpAnyH_take (i := 14) (v := .bool false) rfl (by kernel_rfl) (by kernel_rfl) (by kernel_rfl) (fun _ _ _ h => h) (Or.inl ⟨by rfl, by intro w9 _; go_simp⟩) HX ?_
      simp only [List.getElem_toArray, List.getElem_cons_succ, List.getElem_cons_zero, Act.put, List.setIfInBounds_toArray, List.set_cons_zero, List.set_cons_succ]
      refine wpAnyH_take (i := 15) (v := .bool false) rfl (by kernel_rfl) (by kernel_rfl) (by kernel_rfl) (fun _ _ _ h => h) (Or.inl ⟨by rfl, by intro w9 _; go_simp⟩) HX ?_
      simp only [List.getElem_toArray, List.getElem_cons_succ, List.getElem_cons_zero, Act.put, List.setIfInBounds_toArray, List.set_cons_zero, List.set_cons_succ]
      refine wpAnyH_take (i := 16) (v := .bool false) rfl (by kernel_rfl) (by kernel_rfl) (by kernel_rfl) (fun _ _ _ h => h) (Or.inl ⟨by rfl, by intro w9 _; go_simp⟩) HX ?_
      simp only [List.getElem_toArray, List.getElem_cons_succ, List.getElem_cons_zero, Act.put, List.setIfInBounds_toArray, List.set_cons_zero, List.set_cons_succ]
      refine wpAnyH_take (i := 17) (v := .pointer (some ⟨B, 0, none⟩)) rfl (by kernel_rfl) (by kernel_rfl) (by kernel_rfl) (fun _ _ _ h => h) (Or.inl ⟨by rfl, by intro w9 _; go_simp⟩) HX ?_
      simp only [List.getElem_toArray, List.getElem_cons_succ, List.getElem_cons_zero, Act.put, List.setIfInBounds_toArray, List.set_cons_zero, List.set_cons_succ]
      refine wpAnyH_take (i := 19) (v := .int .i64 (i : Int)) rfl (by kernel_rfl) (by kernel_rfl) (by kernel_rfl) (fun _ _ _ h => h) (Or.inl ⟨by rfl, by intro w9 _; go_simp⟩) HX ?_
      simp only [List.getElem_toArray, List.getElem_cons_succ, List.getElem_cons_zero, Act.put, List.setIfInBounds_toArray, List.set_cons_zero, List.set_cons_succ]
      refine wpAnyH_take (i := 20) (v := .int .i64 ((i + 1 : Nat) : Int)) rfl (by kernel_rfl) (by kernel_rfl) (by kernel_rfl) (fun _ _ _ h => h) (Or.inl ⟨by rfl, by intro w9 _; go_simp⟩) HX ?_
      simp only [List.getElem_toArray, List.getElem_cons_succ, List.getElem_cons_zero, Act.put, List.setIfInBounds_toArray, List.set_cons_zero, List.set_cons_succ]
      refine wpAnyH_ready (rs := [18]) (by kernel_rfl) (by simp) (AllReadyH.cons (by simp only [List.getElem?_toArray, List.getElem?_cons_succ, List.getElem?_cons_zero]; rfl) (fun K hK => ?_) AllReadyH.nil)
      refine step_want (by rfl) ?_
      go_simp
      refine (flen_any hF).mono ?_
      rintro e x3 ⟨rfl, rfl⟩
      refine hK.out _ _ HX (fun _ => ?_)
      clear hK K
      try simp only [List.getElem_toArray, List.getElem_cons_succ, List.getElem_cons_zero, Act.put, List.setIfInBounds_toArray, List.set_cons_zero, List.set_cons_succ]
      refine wpAnyH_take (i := 21) (v := .bool false) rfl (by kernel_rfl) (by kernel_rfl) (by kernel_rfl) (fun _ _ _ h => h) (Or.inl ⟨by rfl, by intro w9 _; go_simp⟩) HX ?_
      simp only [List.getElem_toArray, List.getElem_cons_succ, List.getElem_cons_zero, Act.put, List.setIfInBounds_toArray, List.set_cons_zero, List.set_cons_succ]
      refine wpAnyH_take (i := 22) (v := .bool false) rfl (by kernel_rfl) (by kernel_rfl) (by kernel_rfl) (fun _ _ _ h => h) (Or.inl ⟨by rfl, by intro w9 _; go_simp⟩) HX ?_
      simp only [List.getElem_toArray, List.getElem_cons_succ, List.getElem_cons_zero, Act.put, List.setIfInBounds_toArray, List.set_cons_zero, List.set_cons_succ]
      refine wpAnyH_done (by kernel_rfl) ?_ _
      have HF2 : Hid (Fr x3 B B (i + 1) (edH (L.take (i + 1)))) := hF
      have HX2 : Hid (Below B w x3) := HX
      clear hF HX
      go_wp2
      go_roundw
      case rel => exact ⟨i + 1, by omega, by first | rfl | go_num, HF2.out, HX2.out⟩
      case measure => simp [intOf]; omega
    · obtain rfl : i = n := by omega
      have e1 : L.take i = L := List.take_of_length_le (by rw [HLn.out]; omega)
      rw [e1] at hF
      have k1 : ¬ (i : Int) < (i : Int) := by omega
      have HF : Hid (Fr wr B B i (edH L)) := hF
      have HX : Hid (Below B w wr) := hBr
      have HHs : Hid (Calls Tryd.prog 16 #[.pointer (some ⟨B, 0, none⟩)] wr fun e w' => ∃ a c, e = .returned (.slice a (edH L).length c) ∧ Mh wr wr.heap.size (.slice a (edH L).length c) (edH L) w') := fhashes_any hF
      obtain ⟨q, hq⟩ : ∃ q, (edH L).length = q := ⟨_, rfl⟩
      have HQ : Hid ((edH L).length = q) := hq
      rw [hq] at HHs
      have hq63 : q ≤ 63 := by rw [← hq]; exact hF.len.2.1
      have HH32 : Hid (∀ x ∈ edH L, x.length = 32) := hF.h32
      clear hF hBr e1 hq HFR HAp
      go_wp2_with fail
      refine HHs.out.mono ?_
      rintro e w4 ⟨ha, hc', rfl, hM⟩
      have HH4 : Hid (∀ W, Below w4.heap.size w4 W → HsAt W (.slice ha q hc') (edH L) ∧ Below B w W ∧ Fr W B B i (edH L)) := fun W hW =>
        ⟨hM.at_.below hW, HX.out.trans ((hM.below.trans (hW.mono hM.below.size)).mono (by rw [← HBb.out]; exact HX.out.size)), HF.out.next (hM.below.trans (hW.mono hM.below.size))⟩
      have HX4 : Hid (Below w4.heap.size w4 w4) := Below.refl _ _
      clear hM HHs HF HX
      go_wp2
      go_loopw [6, 7, 8] (fun av kv sv wr => ∃ e at_ k s : Nat, e ≤ 7 ∧ at_ = i - i % 2 ^ e ∧ s = szE e ∧ k ≤ q ∧ (edH L).drop k = edT (shaL []) nodeL e (L.drop at_) ∧ av = .int .i64 at_ ∧ kv = .int .i64 k ∧ sv = .int .i64 s ∧ Below w4.heap.size w4 wr) (fun _ _ sv _ => (intOf sv).toNat)
      case atStart =>
        refine ⟨7, 0, 0, 64, Nat.le_refl _, ?_, rfl, Nat.zero_le _, ?_, rfl, rfl, rfl, HX4.out⟩
        · have : i % 2 ^ 7 = i := Nat.mod_eq_of_lt (by omega)
          omega
        · rw [List.drop_zero, List.drop_zero]
          exact ed_less 7 56 L (by rw [HLn.out]; omega)
      case round =>
        obtain ⟨e, at_, k, s, he, hat, hs, hkq, hd, rfl, rfl, rfl, hW⟩ := hrel
        clear HX4
        cases e with
        | succ e =>
          have hsp : s = 2 ^ e := hs
          have hs1 : 1 ≤ s := by rw [hsp]; exact Nat.pow_pos (by decide)
          have hs64 : s ≤ 64 := by
            rw [hsp]
            exact Nat.pow_le_pow_right (n := 2) (by decide) (show e ≤ 6 by omega)
          have hgt : (s : Int) > 0 := by omega
          have hband : bits .and .i64 (i : Int) (s : Int) = ((i &&& s : Nat) : Int) := and_i64 i s (by omega) (by omega)
          have hqu : (s : Int) / 2 = ((s / 2 : Nat) : Int) := by omega
          have hhalf : s / 2 = szE e := by rw [hs]; exact szE_half e
          obtain ⟨hb1, hb2⟩ := bit_is ⟨e, by omega⟩ ⟨i, by omega⟩
          simp only at hb1 hb2
          by_cases hbit : i % 2 ^ (e + 1) < 2 ^ e
          · have hz : i &&& s = 0 := by rw [hsp]; exact hb1.2 hbit
            obtain ⟨hl1, hl2⟩ := ed_low_bit L HLn.out hbit
            rw [← hat] at hl1
            have hba : bits .and .i64 (i : Int) (s : Int) = 0 := by rw [hband, hz]; rfl
            have hd2 : Hid ((edH L).drop k = edT (shaL []) nodeL e (L.drop at_)) := by show _ = _; rw [hd, hl1]
            have hat2 : Hid (at_ = i - i % 2 ^ e) := by show _ = _; rw [hat, hl2]
            have hhalf : Hid (s / 2 = szE e) := hhalf
            have hlt2 : Hid (s / 2 < s) := by show _ < _; omega
            have HW : Hid (Below w4.heap.size w4 wr) := hW
            have he2 : Hid (e ≤ 7) := by show _ ≤ _; omega
            clear hb1 hb2 hbit hz hl1 hl2 hd hat hs hsp hband hW he
            go_wp2
            go_roundw
            case rel => exact ⟨e, at_, k, s / 2, he2.out, hat2.out, hhalf.out, hkq, hd2.out, rfl, rfl, by first | rfl | go_num, HW.out⟩
            case measure => simp [intOf]; have := hlt2.out; omega
          · have hz : i &&& s ≠ 0 := by rw [hsp]; exact fun h => hbit (hb1.1 h)
            obtain ⟨hl1, hl2, hl3⟩ := ed_high_bit L HLn.out hbit
            have hat2 : Hid (at_ + s = i - i % 2 ^ e) := by show _ = _; rw [hat, hsp]; exact hl2
            rw [← hat, ← hsp] at hl1
            rw [← hat, ← hsp] at hl3
            rw [hl1] at hd
            have hba : (((bits .and .i64 (i : Int) (s : Int)) == 0) = false) := by rw [hband, beq_eq_false_iff_ne]; omega
            have hkl : k < q := by
              have := congrArg List.length hd
              rw [List.length_drop, HQ.out, List.length_cons] at this
              omega
            have hgk : (edH L)[k]? = some (rootH ((L.drop at_).take s)) := by
              have := congrArg (fun l => l[0]?) hd
              simp only [List.getElem?_drop, Nat.add_zero, List.getElem?_cons_zero] at this
              exact this
            have hd2 : Hid ((edH L).drop (k + 1) = edT (shaL []) nodeL e (L.drop (at_ + s))) := by
              have := congrArg (List.drop 1) hd
              rw [List.drop_drop] at this
              exact this
            obtain ⟨-, g1, p1, rfl, -⟩ := (HH4.out wr hW).1.cells.2 k _ hgk
            have HRk : Hid (∀ W, Below w4.heap.size w4 W → W.rangeAt g1 (p1 + k * 32) (hv (rootH ((L.drop at_).take s))).toList) := fun W h => by
              obtain ⟨-, b', o', e, hr⟩ := (HH4.out W h).1.cells.2 k _ hgk
              simp at e
              obtain ⟨rfl, rfl⟩ := e
              exact hr W (Below.refl _ _)
            obtain ⟨x0, hx0, -⟩ := HGet.out at_ (by omega)
            obtain ⟨-, b1, o1, rfl, -⟩ := (HL.out wr (HH4.out wr hW).2.1).1.cells.2 at_ x0 hx0
            have HRt : Hid (∀ W, Below w4.heap.size w4 W → Calls Tryd.prog 21 #[.slice (if c = at_ then some ⟨b1, o1, none⟩ else some ⟨b1, o1 + at_ * 32, none⟩) s (c - at_)] W fun e w' => e = .returned (.agg (hv (rootH ((L.drop at_).take s)))) ∧ Below W.heap.size W w') := fun W h =>
              root_any (HL.out W (HH4.out W h).2.1).2.l ((HL.out W (HH4.out W h).2.1).1.part at_ s (by omega) hc) (fun a n c e => by have := Value.slice.inj e; omega) (by rw [List.length_take]; omega)
            have hr32 : (rootH ((L.drop at_).take s)).length = 32 := rootH_32 (fun x hx => h32 x (List.mem_of_mem_drop (List.mem_of_mem_take hx)))
            have hrs : (hv (rootH ((L.drop at_).take s))).size = 32 := by rw [hv_size, hr32]
            have ic : Hid ((Tryd.prog.info? 30).map (·.size) = some (hv (rootH ((L.drop at_).take s))).toList.length) := by show _ = _; rw [info_h32, Array.length_toList, hrs]
            have hne1 : ∀ w9 : World, (binOp .neq 30 (.agg (hv (rootH ((L.drop at_).take s)))) (.agg (hv (rootH ((L.drop at_).take s))))).run Tryd.prog w9 = .ok (.bool false) w9 := fun w9 => by
              have := neqH w9 _ _ hr32 hr32
              simpa using this
            clear hb1 hb2 hbit hz hl1 hl2 hd hat hsp hband hgk hx0 hr32 HL HH4 HOf HRL HD HGet heqH hneq
            have hle : at_ + s ≤ 1000 := Nat.le_trans hl3 (Nat.le_trans h64 (by decide))
            obtain ⟨hwa, hwa2⟩ := add_wraps at_ s hle
            have hwk : wrap64 ((k : Int) + 1) = ((k + 1 : Nat) : Int) := (add_wraps k 1 (Nat.le_trans (Nat.succ_le_of_lt hkl) (Nat.le_trans hq63 (by decide)))).1
            clear hle
            have k0 : ¬ (k : Int) ≥ (q : Int) := fun h => Nat.not_le_of_lt hkl (Int.ofNat_le.1 h)
            have k1 : (0 : Int) ≤ (k : Int) := Int.natCast_nonneg k
            have k2 : (k : Int) < (q : Int) := Int.ofNat_lt.2 hkl
            have k3 : (0 : Int) ≤ (at_ : Int) := Int.natCast_nonneg at_
            have k4 : (at_ : Int) ≤ ((at_ + s : Nat) : Int) := Int.ofNat_le.2 (Nat.le_add_right _ _)
            have k5 : ((at_ + s : Nat) : Int) ≤ (c : Int) := Int.ofNat_le.2 (Nat.le_trans hl3 hc)
            have k6 : at_ + s ≤ c := Nat.le_trans hl3 hc
            have k7 : at_ + s - at_ = s := Nat.add_sub_cancel_left at_ s
            have hhalf : Hid (s / 2 = szE e) := hhalf
            have hlt2 : Hid (s / 2 < s) := Nat.div_lt_self hs1 (by decide)
            have hW0 : Hid (Below w4.heap.size w4 wr) := hW
            have he2 : Hid (e ≤ 7) := Nat.le_of_succ_le he
            have hkq2 : Hid (k + 1 ≤ q) := hkl
            clear hl3 hs hW he
            have hwa3 : Hid (wrap64 ((at_ : Int) + (s : Int)) = ((at_ + s : Nat) : Int)) := hwa
            have hwk3 : Hid (wrap64 ((k : Int) + 1) = ((k + 1 : Nat) : Int)) := hwk
            clear hwk hwa
            generalize at_ + s = u at *
            generalize hv (rootH ((L.drop at_).take s)) = RR at *
            go_upto_region 15 with fail
            refine wp_region_held (S := Below w4.heap.size w4) (by kernel_rfl) ?_
            change wpAnyH _ _ _ _ _ _ _ _ (World.drew _)
            have HX : Below w4.heap.size w4 wr.drew := hW0.out.drew
            clear hW0
            generalize World.drew _ = x0 at *
            refine wpAnyH_take (i := 0) (v := .int .i64 (k : Int)) rfl (by kernel_rfl) (by kernel_rfl) (by kernel_rfl) (fun _ _ _ h => h) (Or.inl ⟨by rfl, by intro w9 _; go_simp⟩) HX ?_
            simp only [List.getElem_toArray, List.getElem_cons_succ, List.getElem_cons_zero, Act.put, List.setIfInBounds_toArray, List.set_cons_zero, List.set_cons_succ]
            refine wpAnyH_take (i := 1) (v := .slice (some ⟨g1, p1, none⟩) q hc') rfl (by kernel_rfl) (by kernel_rfl) (by kernel_rfl) (fun _ _ _ h => h) (Or.inl ⟨by rfl, by intro w9 _; go_simp⟩) HX ?_
            simp only [List.getElem_toArray, List.getElem_cons_succ, List.getElem_cons_zero, Act.put, List.setIfInBounds_toArray, List.set_cons_zero, List.set_cons_succ]
            refine wpAnyH_take (i := 2) (v := .int .i64 (q : Int)) rfl (by kernel_rfl) (by kernel_rfl) (by kernel_rfl) (fun _ _ _ h => h) (Or.inl ⟨by rfl, by intro w9 _; go_simp⟩) HX ?_
            simp only [List.getElem_toArray, List.getElem_cons_succ, List.getElem_cons_zero, Act.put, List.setIfInBounds_toArray, List.set_cons_zero, List.set_cons_succ]
            refine wpAnyH_take (i := 3) (v := .bool false) rfl (by kernel_rfl) (by kernel_rfl) (by kernel_rfl) (fun _ _ _ h => h) (Or.inl ⟨by rfl, by intro w9 _; go_simp⟩) HX ?_
            simp only [List.getElem_toArray, List.getElem_cons_succ, List.getElem_cons_zero, Act.put, List.setIfInBounds_toArray, List.set_cons_zero, List.set_cons_succ]
            refine wpAnyH_take (i := 4) (v := .bool false) rfl (by kernel_rfl) (by kernel_rfl) (by kernel_rfl) (fun _ _ _ h => h) (Or.inl ⟨by rfl, by intro w9 _; go_simp⟩) HX ?_
            simp only [List.getElem_toArray, List.getElem_cons_succ, List.getElem_cons_zero, Act.put, List.setIfInBounds_toArray, List.set_cons_zero, List.set_cons_succ]
            refine wpAnyH_take (i := 5) (v := .slice (some ⟨g1, p1, none⟩) q hc') rfl (by kernel_rfl) (by kernel_rfl) (by kernel_rfl) (fun _ _ _ h => h) (Or.inl ⟨by rfl, by intro w9 _; go_simp⟩) HX ?_
            simp only [List.getElem_toArray, List.getElem_cons_succ, List.getElem_cons_zero, Act.put, List.setIfInBounds_toArray, List.set_cons_zero, List.set_cons_succ]
            refine wpAnyH_take (i := 6) (v := .int .i64 (k : Int)) rfl (by kernel_rfl) (by kernel_rfl) (by kernel_rfl) (fun _ _ _ h => h) (Or.inl ⟨by rfl, by intro w9 _; go_simp⟩) HX ?_
            simp only [List.getElem_toArray, List.getElem_cons_succ, List.getElem_cons_zero, Act.put, List.setIfInBounds_toArray, List.set_cons_zero, List.set_cons_succ]
            refine wpAnyH_take (i := 7) (v := .pointer (some ⟨g1, p1 + k * 32, none⟩)) rfl (by kernel_rfl) (by kernel_rfl) (by kernel_rfl) (fun _ _ _ h => h) (Or.inl ⟨by rfl, by intro w9 _; go_simp⟩) HX ?_
            simp only [List.getElem_toArray, List.getElem_cons_succ, List.getElem_cons_zero, Act.put, List.setIfInBounds_toArray, List.set_cons_zero, List.set_cons_succ]
            refine wpAnyH_take (i := 8) (v := .agg RR) rfl (by kernel_rfl) (by kernel_rfl) (by kernel_rfl) (fun _ _ _ h => h) (yieldsIf_load_mid (by rfl) 30 _ rfl g1 (p1 + k * 32) rfl RR.toList _ (fun w' h => HRk.out w' h) Tryd.underlying30 rfl ic.out) HX ?_
            simp only [List.getElem_toArray, List.getElem_cons_succ, List.getElem_cons_zero, Act.put, List.setIfInBounds_toArray, List.set_cons_zero, List.set_cons_succ]
            refine wpAnyH_take (i := 9) (v := .slice (some ⟨b1, o1, none⟩) i c) rfl (by kernel_rfl) (by kernel_rfl) (by kernel_rfl) (fun _ _ _ h => h) (Or.inl ⟨by rfl, by intro w9 _; go_simp⟩) HX ?_
            simp only [List.getElem_toArray, List.getElem_cons_succ, List.getElem_cons_zero, Act.put, List.setIfInBounds_toArray, List.set_cons_zero, List.set_cons_succ]
            refine wpAnyH_take (i := 10) (v := .int .i64 (at_ : Int)) rfl (by kernel_rfl) (by kernel_rfl) (by kernel_rfl) (fun _ _ _ h => h) (Or.inl ⟨by rfl, by intro w9 _; go_simp⟩) HX ?_
            simp only [List.getElem_toArray, List.getElem_cons_succ, List.getElem_cons_zero, Act.put, List.setIfInBounds_toArray, List.set_cons_zero, List.set_cons_succ]
            refine wpAnyH_take (i := 11) (v := .int .i64 (at_ : Int)) rfl (by kernel_rfl) (by kernel_rfl) (by kernel_rfl) (fun _ _ _ h => h) (Or.inl ⟨by rfl, by intro w9 _; go_simp⟩) HX ?_
            simp only [List.getElem_toArray, List.getElem_cons_succ, List.getElem_cons_zero, Act.put, List.setIfInBounds_toArray, List.set_cons_zero, List.set_cons_succ]
            refine wpAnyH_take (i := 12) (v := .int .i64 (s : Int)) rfl (by kernel_rfl) (by kernel_rfl) (by kernel_rfl) (fun _ _ _ h => h) (Or.inl ⟨by rfl, by intro w9 _; go_simp⟩) HX ?_
            simp only [List.getElem_toArray, List.getElem_cons_succ, List.getElem_cons_zero, Act.put, List.setIfInBounds_toArray, List.set_cons_zero, List.set_cons_succ]
            refine wpAnyH_take (i := 13) (v := .int .i64 (u : Int)) rfl (by kernel_rfl) (by kernel_rfl) (by kernel_rfl) (fun _ _ _ h => h) (Or.inl ⟨by rfl, by intro w9 _; go_simp⟩) HX ?_
            simp only [List.getElem_toArray, List.getElem_cons_succ, List.getElem_cons_zero, Act.put, List.setIfInBounds_toArray, List.set_cons_zero, List.set_cons_succ]
            refine wpAnyH_take (i := 14) (v := .slice (if c = at_ then some ⟨b1, o1, none⟩ else some ⟨b1, o1 + at_ * 32, none⟩) s (c - at_)) rfl (by kernel_rfl) (by kernel_rfl) (by kernel_rfl) (fun _ _ _ h => h) (Or.inl ⟨by rfl, by intro w9 _; go_simp⟩) HX ?_
            simp only [List.getElem_toArray, List.getElem_cons_succ, List.getElem_cons_zero, Act.put, List.setIfInBounds_toArray, List.set_cons_zero, List.set_cons_succ]
            refine wpAnyH_ready (rs := [15]) (by kernel_rfl) (by simp) (AllReadyH.cons (by simp only [List.getElem?_toArray, List.getElem?_cons_succ, List.getElem?_cons_zero]; rfl) (fun K hK => ?_) AllReadyH.nil)
            refine step_want (by rfl) ?_
            go_simp
            refine (HRt.out x0 HX).mono ?_
            rintro e x1 ⟨rfl, bc⟩
            have HX : Below w4.heap.size w4 x1 := HX.trans (bc.mono HX.size)
            clear bc
            refine hK.out _ _ HX (fun _ => ?_)
            clear hK K
            try simp only [List.getElem_toArray, List.getElem_cons_succ, List.getElem_cons_zero, Act.put, List.setIfInBounds_toArray, List.set_cons_zero, List.set_cons_succ]
            refine wpAnyH_take (i := 16) (v := .bool false) rfl (by kernel_rfl) (by kernel_rfl) (by kernel_rfl) (fun _ _ _ h => h) (Or.inl ⟨by rfl, by intro w9 _; go_simp⟩) HX ?_
            simp only [List.getElem_toArray, List.getElem_cons_succ, List.getElem_cons_zero, Act.put, List.setIfInBounds_toArray, List.set_cons_zero, List.set_cons_succ]
            refine wpAnyH_take (i := 17) (v := .bool false) rfl (by kernel_rfl) (by kernel_rfl) (by kernel_rfl) (fun _ _ _ h => h) (Or.inl ⟨by rfl, by intro w9 _; go_simp⟩) HX ?_
            simp only [List.getElem_toArray, List.getElem_cons_succ, List.getElem_cons_zero, Act.put, List.setIfInBounds_toArray, List.set_cons_zero, List.set_cons_succ]
            refine wpAnyH_done (by kernel_rfl) ?_ _
            have HX2 : Hid (Below w4.heap.size w4 x1) := HX
            clear HX HRt HRk k0 k1 k2 k3 k4 k5 k6 k7 hne1 ic hrs hba hwa2
            generalize (if c = at_ then (some ⟨b1, o1, none⟩ : Option Addr) else some ⟨b1, o1 + at_ * 32, none⟩) = zz at *
            go_wp2_with (first | (simp only [hwa3.out, hwk3.out]) | fail)
            all_goals go_roundw
            all_goals first | exact ⟨e, u, k + 1, s / 2, he2.out, hat2.out, hhalf.out, hkq2.out, hd2.out, by first | rfl | go_num, by first | rfl | go_num, by first | rfl | go_num, HX2.out⟩ | exact (show ((((s / 2 : Nat) : Int)).toNat < ((s : Nat) : Int).toNat) from by rw [Int.toNat_natCast, Int.toNat_natCast]; exact hlt2.out) | (simp [intOf]; have h8 := hlt2.out; clear hqu; omega)
        | zero =>
          have hs0 : s = 0 := hs
          subst hs0
          have hng0 : ¬ ((0 : Nat) : Int) > 0 := by omega
          have hkk : k = q := by
            have := congrArg List.length hd
            rw [List.length_drop, HQ.out] at this
            simp only [edT, List.length_nil] at this
            omega
          subst hkk
          have HW : Hid (Below w4.heap.size w4 wr) := hW
          have hBw : Hid (Below B w wr) := (HH4.out wr hW).2.1
          clear hd hat hs hW he
          go_wp2_with fail
          refine (HOf.out wr hBw.out).mono ?_
          rintro e w5 ⟨bg, rfl, hG, b5⟩
          have H5 : Hid (∀ W, Below w5.heap.size w5 W → Fr W B B i (edH L) ∧ Fr W wr.heap.size bg i (edH L) ∧ Below B w W) := fun W h =>
            have hq := HH4.out W (HW.out.trans ((b5.trans (h.mono b5.size)).mono HW.out.size))
            ⟨hq.2.2, hG.next h, hq.2.1⟩
          have HX5 : Hid (Below w5.heap.size w5 w5) := Below.refl _ _
          have HRf : Hid (∀ (W : World) (B' b : Nat), Fr W B' b i (edH L) → Below B w W → Calls Tryd.prog 14 #[.pointer (some ⟨b, 0, none⟩)] W fun e w' => e = .returned (.agg (hv (rootH L))) ∧ Below W.heap.size W w') := fun W B' b h1 h2 => by
            have := froot_any h1 (HL.out W h2).2.l
            rwa [edH_root (by rw [HLn.out]; omega)] at this
          have HRr : Hid (∀ W, Below B w W → Calls Tryd.prog 21 #[.slice a i c] W fun e w' => e = .returned (.agg (hv (rootH L))) ∧ Below W.heap.size W w') := fun W h => root_any (HL.out W h).2.l (HL.out W h).1 (fun a n c e => by have := Value.slice.inj e; omega) (by rw [HLn.out]; omega)
          have HLe : Hid (∀ (W : World) (B' b : Nat), Fr W B' b i (edH L) → Calls Tryd.prog 12 #[.pointer (some ⟨b, 0, none⟩)] W fun e w' => e = .returned (.int .i64 i) ∧ w' = W) := fun W B' b h => flen_any h
          clear hG b5 HW hBw HL HOf HRL HGet hneq HH4
          generalize hv (rootH L) = RR at *
          go_wp2_with fail
          refine (HRf.out w5 _ _ (H5.out _ HX5.out).1 (H5.out _ HX5.out).2.2).mono ?_
          rintro e w6 ⟨rfl, bc⟩
          have HX6 : Hid (Below w5.heap.size w5 w6) := HX5.out.trans (bc.mono HX5.out.size)
          clear bc HX5
          go_wp2_with fail
          refine (HRr.out w6 (H5.out _ HX6.out).2.2).mono ?_
          rintro e w7 ⟨rfl, bc⟩
          have HX7 : Hid (Below w5.heap.size w5 w7) := HX6.out.trans (bc.mono HX6.out.size)
          clear bc HX6
          go_wp2_with fail
          refine (HRf.out w7 _ _ (H5.out _ HX7.out).2.1 (H5.out _ HX7.out).2.2).mono ?_
          rintro e w8 ⟨rfl, bc⟩
          have HX8 : Hid (Below w5.heap.size w5 w8) := HX7.out.trans (bc.mono HX7.out.size)
          clear bc HX7
          go_wp2_with fail
          refine (HRf.out w8 _ _ (H5.out _ HX8.out).1 (H5.out _ HX8.out).2.2).mono ?_
          rintro e w9 ⟨rfl, bc⟩
          have HX9 : Hid (Below w5.heap.size w5 w9) := HX8.out.trans (bc.mono HX8.out.size)
          clear bc HX8
          go_wp2_with fail
          refine (HLe.out w9 _ _ (H5.out _ HX9.out).2.1).mono ?_
          rintro e w9 ⟨rfl, rfl⟩
          go_wp2_with fail
          refine (HD.out w9 (H5.out _ HX9.out).2.2).mono ?_
          rintro e w10 ⟨rfl, bc⟩
          have HF : Hid (Below B w w10) := (H5.out _ (HX9.out.trans (bc.mono HX9.out.size))).2.2
          clear bc
          go_wp2
          go_ret
          exact ⟨rfl, by rw [HBb.out]; exact HF.out⟩
