/- The law RootsLevels (layer 9). -/
import Derived.Test.YtnigcngaegafoaaDoorR9k
namespace Go.Proofs.YtnigcngaegafoaaDoor
open Go.RowKit

section
variable {H : Type} (nd : H → H → H)
theorem pairs_get : ∀ (m : Nat) (l : List H) (x y : H), l[2 * m]? = some x → l[2 * m + 1]? = some y → (pairs nd l)[m]? = some (nd x y)
  | 0, a :: b :: l, x, y, h1, h2 => by
    obtain rfl : a = x := by simpa using h1
    obtain rfl : b = y := by simpa using h2
    rfl
  | m + 1, a :: b :: l, x, y, h1, h2 => by
    rw [show 2 * (m + 1) = 2 * m + 1 + 1 by omega, List.getElem?_cons_succ, List.getElem?_cons_succ] at h1
    rw [show 2 * (m + 1) + 1 = 2 * m + 1 + 1 + 1 by omega, List.getElem?_cons_succ, List.getElem?_cons_succ] at h2
    rw [pairs, List.getElem?_cons_succ]
    exact pairs_get m l x y h1 h2
  | _, [], x, y, h1, _ => by simp at h1
  | 0, [a], x, y, _, h2 => by simp at h2
  | m + 1, [a], x, y, h1, _ => by rw [show 2 * (m + 1) = 2 * m + 1 + 1 by omega] at h1; simp at h1
theorem pairs_last : ∀ (m : Nat) (l : List H) (x : H), l.length = 2 * m + 1 → l[2 * m]? = some x → (pairs nd l)[m]? = some x
  | 0, [a], x, _, h => by simpa [pairs] using h
  | 0, a :: b :: l, x, h, _ => by simp at h
  | m + 1, a :: b :: l, x, h, h1 => by
    rw [show 2 * (m + 1) = 2 * m + 1 + 1 by omega, List.getElem?_cons_succ, List.getElem?_cons_succ] at h1
    rw [pairs, List.getElem?_cons_succ]
    exact pairs_last m l x (by simp at h; omega) h1
  | _, [], x, h, _ => by simp at h
  | m + 1, [a], x, h, _ => by simp at h
end
theorem take_next {α : Type} {l : List α} {m : Nat} {x : α} (h : l[m]? = some x) : l.take m ++ [x] = l.take (m + 1) := by
  rw [List.take_add_one, h]; rfl
set_option maxRecDepth 100000 in
set_option maxHeartbeats 2000000 in
theorem levels_long (L : List (List UInt8)) (a : Option Addr) (c : Nat) (w : World) (hl : 40 < L.length) : Calls Tryd.prog 8 #[.slice a L.length c] w fun e w' => e = .returned (.bool true) ∧ Below w.heap.size w w' := by
  have h1 : (L.length : Int) > 40 := by omega
  go_enter Tryd.func8, Tryd.ntmps8
  go_wp2
  go_ret
  exact ⟨rfl, Below.refl _ _⟩
set_option maxRecDepth 100000 in
set_option maxHeartbeats 2000000 in
set_option linter.unusedSimpArgs false in
theorem levels_some (L : List (List UInt8)) (b o c : Nat) (w : World) (hK : TabL w) (hL : HsAt w (.slice (some ⟨b, o, none⟩) L.length c) L) (hlc : L.length ≤ c) (hl : L.length ≤ 40) : Calls Tryd.prog 8 #[.slice (some ⟨b, o, none⟩) L.length c] w fun e w' => e = .returned (.bool true) ∧ Below w.heap.size w w' := by
  have h1 : ¬ (L.length : Int) > 40 := by omega
  have HL : Hid (∀ w', Below w.heap.size w w' → HsAt w' (.slice (some ⟨b, o, none⟩) L.length c) L) := fun w' h => hL.below h
  have h32 := hL.len
  have HK : Hid (∀ w', Below w.heap.size w w' → TabL w') := fun w' h => hK.below h hK.lt
  have HNd : Hid (∀ (w' : World) (x y : List UInt8), x.length = 32 → y.length = 32 → Below w.heap.size w w' → Calls Tryd.prog 15 #[.agg (hv x), .agg (hv y)] w' fun e w'' => e = .returned (.agg (hv (nodeL x y))) ∧ Below w'.heap.size w' w'') := fun w' x y hx hy h => node_any _ _ w' (HK.out w' h) hx hy
  have HM0 : Hid (Mh w w.heap.size (.slice none 0 0) ((pairs nodeL L).take 0) w) := Mh.start w
  have HPl : Hid ((pairs nodeL L).length = (L.length + 1) / 2) := pairs_length _ _
  have HRo : Hid (rootH L = rootH (pairs nodeL L)) := root_level _ _ _ L (Nat.le_refl _)
  clear hK hL
  go_enter Tryd.func8, Tryd.ntmps8
  go_wp2
  go_loopw [3, 4] (fun ov iv wr => ∃ m j : Nat, j = 2 * m ∧ j ≤ L.length ∧ iv = .int .i64 j ∧ ∃ xa xc, ov = .slice xa m xc ∧ Mh w w.heap.size (.slice xa m xc) ((pairs nodeL L).take m) wr) (fun _ iv _ => L.length - (intOf iv).toNat)
  case atStart => exact ⟨0, 0, rfl, by omega, rfl, none, 0, rfl, HM0.out⟩
  case round =>
    obtain ⟨m, j, hj, hjl, rfl, xa, xc, rfl, hM⟩ := hrel
    have Hj : Hid (j = 2 * m) := hj
    clear hj
    by_cases hlt : (j : Int) + 1 < (L.length : Int)
    · obtain ⟨x, hx⟩ : ∃ x, L[j]? = some x := ⟨_, List.getElem?_eq_getElem (by omega)⟩
      obtain ⟨y, hy⟩ : ∃ y, L[j + 1]? = some y := ⟨_, List.getElem?_eq_getElem (by omega)⟩
      have x32 : x.length = 32 := h32 x (List.mem_of_getElem? hx)
      have y32 : y.length = 32 := h32 y (List.mem_of_getElem? hy)
      have HX0 : Hid (∀ w', Below w.heap.size w w' → w'.rangeAt b (o + j * 32) (hv x).toList) := fun w' h => by
        obtain ⟨-, b', o', e, hr⟩ := (HL.out w' h).cells.2 j x hx
        simp at e
        obtain ⟨rfl, rfl⟩ := e
        exact hr w' (Below.refl _ _)
      have HY0 : Hid (∀ w', Below w.heap.size w w' → w'.rangeAt b (o + (j + 1) * 32) (hv y).toList) := fun w' h => by
        obtain ⟨-, b', o', e, hr⟩ := (HL.out w' h).cells.2 (j + 1) y hy
        simp at e
        obtain ⟨rfl, rfl⟩ := e
        exact hr w' (Below.refl _ _)
      have hst : Hid ((pairs nodeL L).take m ++ [nodeL x y] = (pairs nodeL L).take (m + 1)) := take_next (pairs_get nodeL m L x y (by rw [← Hj.out]; exact hx) (by rw [← Hj.out]; exact hy))
      have hsl : Hid (((pairs nodeL L).take (m + 1)).length = m + 1) := by show _ = _; rw [List.length_take, HPl.out]; have := Hj.out; omega
      have HC : Hid (∀ w' : World, Below w.heap.size w w' → Calls Tryd.prog 15 #[.agg (hv x), .agg (hv y)] w' fun e w'' => e = .returned (.agg (hv (nodeL x y))) ∧ Below w'.heap.size w' w'') := fun w' h => HNd.out w' x y x32 y32 h
      have hNl : (nodeL x y).length = 32 := shaL_length _
      have HMd : Hid (∀ w' : World, HsAt (w'.alloc (.cells (hv (nodeL x y)) 23)) (.slice (some ⟨w'.heap.size, 0, none⟩) 1 1) [nodeL x y]) := fun w' => HsAt.made w' _ hNl
      have sR : (hv (nodeL x y)).size = 32 := by rw [hv_size, hNl]
      have icx : Hid ((Tryd.prog.info? 23).map (·.size) = some (hv x).toList.length) := by show _ = _; rw [info_h32, Array.length_toList, hv_size, x32]
      have icy : Hid ((Tryd.prog.info? 23).map (·.size) = some (hv y).toList.length) := by show _ = _; rw [info_h32, Array.length_toList, hv_size, y32]
      have hbld := build_hash (hv (nodeL x y)) sR
      rw [zero_h32] at hbld
      have HXr : Hid (Below w.heap.size w wr) := hM.below
      have HMr : Hid (Mh w w.heap.size (.slice xa m xc) ((pairs nodeL L).take m) wr) := hM
      have k1 : (0 : Int) ≤ (j : Int) := by omega
      have k2 : (j : Int) < (L.length : Int) := by omega
      have k3 : ((j : Int) + 1).toNat = j + 1 := by omega
      have k4 : j < L.length := by omega
      have k5 : j + 1 < L.length := by omega
      have k6 : IntKind.i64.wrap ((j : Int) + 1) = (j : Int) + 1 := by rw [IntKind.wrap_i64]; omega
      have k7 : ¬ (j : Int) + 1 < 0 := by omega
      have k8 : m + 1 ≤ 100000 := by have := Hj.out; omega
      clear hM HNd x32 y32 hNl h32
      generalize nodeL x y = Z at *
      generalize hv x = X at *
      generalize hv y = Y at *
      generalize hv Z = R at *
      go_upto_region 7 with fail
      refine wp_region_held (S := Below w.heap.size w) (by kernel_rfl) ?_
      change wpAnyH _ _ _ _ _ _ _ _ (World.drew _)
      have HX := HXr.out.drew
      have hM := HMr.out.next (Below.refl _ _).drew
      generalize World.drew _ = x0 at *
      refine wpAnyH_take (i := 0) (v := .slice xa m xc) rfl (by kernel_rfl) (by kernel_rfl) (by kernel_rfl) (fun _ _ _ h => h) (Or.inl ⟨by rfl, by intro w9 _; go_simp⟩) HX ?_
      simp only [List.getElem_toArray, List.getElem_cons_succ, List.getElem_cons_zero, Act.put, List.setIfInBounds_toArray, List.set_cons_zero, List.set_cons_succ]
      refine wpAnyH_take (i := 1) (v := .slice (some ⟨b, o, none⟩) L.length c) rfl (by kernel_rfl) (by kernel_rfl) (by kernel_rfl) (fun _ _ _ h => h) (Or.inl ⟨by rfl, by intro w9 _; go_simp⟩) HX ?_
      simp only [List.getElem_toArray, List.getElem_cons_succ, List.getElem_cons_zero, Act.put, List.setIfInBounds_toArray, List.set_cons_zero, List.set_cons_succ]
      refine wpAnyH_take (i := 2) (v := .int .i64 j) rfl (by kernel_rfl) (by kernel_rfl) (by kernel_rfl) (fun _ _ _ h => h) (Or.inl ⟨by rfl, by intro w9 _; go_simp⟩) HX ?_
      simp only [List.getElem_toArray, List.getElem_cons_succ, List.getElem_cons_zero, Act.put, List.setIfInBounds_toArray, List.set_cons_zero, List.set_cons_succ]
      refine wpAnyH_take (i := 3) (v := .pointer (some ⟨b, o + j * 32, none⟩)) rfl (by kernel_rfl) (by kernel_rfl) (by kernel_rfl) (fun _ _ _ h => h) (Or.inl ⟨by rfl, by intro w9 _; go_simp⟩) HX ?_
      simp only [List.getElem_toArray, List.getElem_cons_succ, List.getElem_cons_zero, Act.put, List.setIfInBounds_toArray, List.set_cons_zero, List.set_cons_succ]
      refine wpAnyH_take (i := 4) (v := .agg X) rfl (by kernel_rfl) (by kernel_rfl) (by kernel_rfl) (fun _ _ _ h => h) (yieldsIf_load_mid (by rfl) 23 _ rfl b (o + j * 32) rfl X.toList _ (fun w' h => HX0.out w' h) Tryd.underlying23 rfl icx.out) HX ?_
      simp only [List.getElem_toArray, List.getElem_cons_succ, List.getElem_cons_zero, Act.put, List.setIfInBounds_toArray, List.set_cons_zero, List.set_cons_succ]
      refine wpAnyH_take (i := 5) (v := .slice (some ⟨b, o, none⟩) L.length c) rfl (by kernel_rfl) (by kernel_rfl) (by kernel_rfl) (fun _ _ _ h => h) (Or.inl ⟨by rfl, by intro w9 _; go_simp⟩) HX ?_
      simp only [List.getElem_toArray, List.getElem_cons_succ, List.getElem_cons_zero, Act.put, List.setIfInBounds_toArray, List.set_cons_zero, List.set_cons_succ]
      refine wpAnyH_take (i := 6) (v := .int .i64 j) rfl (by kernel_rfl) (by kernel_rfl) (by kernel_rfl) (fun _ _ _ h => h) (Or.inl ⟨by rfl, by intro w9 _; go_simp⟩) HX ?_
      simp only [List.getElem_toArray, List.getElem_cons_succ, List.getElem_cons_zero, Act.put, List.setIfInBounds_toArray, List.set_cons_zero, List.set_cons_succ]
      refine wpAnyH_take (i := 7) (v := .int .i64 ((j : Int) + 1)) rfl (by kernel_rfl) (by kernel_rfl) (by kernel_rfl) (fun _ _ _ h => h) (Or.inl ⟨by rfl, by intro w9 _; go_simp⟩) HX ?_
      simp only [List.getElem_toArray, List.getElem_cons_succ, List.getElem_cons_zero, Act.put, List.setIfInBounds_toArray, List.set_cons_zero, List.set_cons_succ]
      refine wpAnyH_take (i := 8) (v := .pointer (some ⟨b, o + (j + 1) * 32, none⟩)) rfl (by kernel_rfl) (by kernel_rfl) (by kernel_rfl) (fun _ _ _ h => h) (Or.inl ⟨by rfl, by intro w9 _; go_simp⟩) HX ?_
      simp only [List.getElem_toArray, List.getElem_cons_succ, List.getElem_cons_zero, Act.put, List.setIfInBounds_toArray, List.set_cons_zero, List.set_cons_succ]
      refine wpAnyH_take (i := 9) (v := .agg Y) rfl (by kernel_rfl) (by kernel_rfl) (by kernel_rfl) (fun _ _ _ h => h) (yieldsIf_load_mid (by rfl) 23 _ rfl b (o + (j + 1) * 32) rfl Y.toList _ (fun w' h => HY0.out w' h) Tryd.underlying23 rfl icy.out) HX ?_
      simp only [List.getElem_toArray, List.getElem_cons_succ, List.getElem_cons_zero, Act.put, List.setIfInBounds_toArray, List.set_cons_zero, List.set_cons_succ]
      refine wpAnyH_ready (rs := [10]) (by kernel_rfl) (by simp) (AllReadyH.cons (by simp only [List.getElem?_toArray, List.getElem?_cons_succ, List.getElem?_cons_zero]; rfl) (fun K hK => ?_) AllReadyH.nil)
      refine step_want (by rfl) ?_
      go_simp
      refine (HC.out _ HX).mono ?_
      rintro e w5 ⟨rfl, b5⟩
      have HX : Below w.heap.size w w5 := HX.trans (b5.mono HX.size)
      have hM := hM.next b5
      clear b5
      refine hK.out _ _ HX (fun _ => ?_)
      clear hK K
      try simp only [List.getElem_toArray, List.getElem_cons_succ, List.getElem_cons_zero, Act.put, List.setIfInBounds_toArray, List.set_cons_zero, List.set_cons_succ]
      refine wpAnyH_ready (rs := [11]) (by kernel_rfl) (by simp) (AllReadyH.cons (by simp only [List.getElem?_toArray, List.getElem?_cons_succ, List.getElem?_cons_zero]; rfl) (fun K hK => ?_) AllReadyH.nil)
      refine step_want (by rfl) ?_
      go_simp
      have hN := HMd.out w5
      obtain ⟨w6, hw⟩ : ∃ w6, w5.alloc (.cells R 23) = w6 := ⟨_, rfl⟩
      have bc : Below w5.heap.size w5 w6 := by rw [← hw]; exact (Below.refl _ _).alloc (Nat.le_refl _) _
      obtain ⟨nb, hb0⟩ : ∃ nb, w5.heap.size = nb := ⟨_, rfl⟩
      rw [hw, hb0] at hN
      rw [hw, hb0]
      have HX : Below w.heap.size w w6 := HX.trans (bc.mono HX.size)
      have hM := hM.next bc
      clear bc hw hb0
      refine hK.out _ _ HX (fun _ => ?_)
      clear hK K
      try simp only [List.getElem_toArray, List.getElem_cons_succ, List.getElem_cons_zero, Act.put, List.setIfInBounds_toArray, List.set_cons_zero, List.set_cons_succ]
      refine wpAnyH_ready (rs := [12]) (by kernel_rfl) (by simp) (AllReadyH.cons (by simp only [List.getElem?_toArray, List.getElem?_cons_succ, List.getElem?_cons_zero]; rfl) (fun K hK => ?_) AllReadyH.nil)
      refine step_want (by rfl) ?_
      refine wp_append_mh (M := [Z]) (.tmp 15) (.tmp 26) rfl hM ⟨nb, 0, none⟩ 1 rfl rfl hN ((pairs nodeL L).take (m + 1)) (m + 1) hst.out hsl.out k8 ?_
      clear hM HX hN
      intro ya yc w7 _ hM
      have HX : Below w.heap.size w w7 := hM.below
      refine hK.out _ _ HX (fun _ => ?_)
      clear hK K
      try simp only [List.getElem_toArray, List.getElem_cons_succ, List.getElem_cons_zero, Act.put, List.setIfInBounds_toArray, List.set_cons_zero, List.set_cons_succ]
      refine wpAnyH_take (i := 13) (v := .slice ya (m + 1) yc) rfl (by kernel_rfl) (by kernel_rfl) (by kernel_rfl) (fun _ _ _ h => h) (Or.inl ⟨by rfl, by intro w9 _; go_simp⟩) HX ?_
      simp only [List.getElem_toArray, List.getElem_cons_succ, List.getElem_cons_zero, Act.put, List.setIfInBounds_toArray, List.set_cons_zero, List.set_cons_succ]
      refine wpAnyH_done (by kernel_rfl) ?_ _
      have HM : Hid (Mh w w.heap.size (.slice ya (m + 1) yc) ((pairs nodeL L).take (m + 1)) w7) := hM
      clear HX hM
      go_wp2
      go_roundw
      case rel => exact ⟨m + 1, j + 2, by have := Hj.out; omega, by omega, by go_num, ya, yc, rfl, HM.out⟩
      case measure => simp [intOf]; omega
    · have hj2 := Hj.out
      have HM : Hid (Mh w w.heap.size (.slice xa m xc) ((pairs nodeL L).take m) wr) := hM
      clear hM Hj
      by_cases hp : L.length = j
      · have hodd : ¬ (L.length : Int) % 2 = 1 := by omega
        have HMq : Hid (Mh w w.heap.size (.slice xa m xc) (pairs nodeL L) wr) := by
          have := HM.out
          rwa [List.take_of_length_le (by rw [HPl.out]; omega)] at this
        clear HM hp hj2
        have HW : Hid (∀ w', Below wr.heap.size wr w' → Below w.heap.size w w') := fun w' h => HMq.out.below.trans (h.mono HMq.out.size)
        have HR0 : Hid (∀ w', Below wr.heap.size wr w' → Calls Tryd.prog 9 #[.slice (some ⟨b, o, none⟩) L.length c] w' fun e w'' => e = .returned (.agg (hv (rootH L))) ∧ Below w'.heap.size w' w'') := fun w' h => root_any (HK.out w' (HW.out w' h)) (HL.out w' (HW.out w' h)) (fun a n c e => by have := Value.slice.inj e; omega) (by omega)
        have HR1 : Hid (∀ w', Below wr.heap.size wr w' → Calls Tryd.prog 9 #[.slice xa m xc] w' fun e w'' => e = .returned (.agg (hv (rootH L))) ∧ Below w'.heap.size w' w'') := fun w' h => by
          obtain ⟨a', c', hs, hc⟩ := HMq.out.slice
          have := root_any (HK.out w' (HW.out w' h)) ((HMq.out.next h).at_) (fun a n c e => by have := Value.slice.inj e; have := Value.slice.inj hs; omega) (by rw [HPl.out]; omega)
          rwa [← HRo.out] at this
        have HD : Hid (∀ w', Below wr.heap.size wr w' → Calls Tryd.prog 12 #[] w' fun e w'' => e = .returned (.bool true) ∧ Below w'.heap.size w' w'') := fun w' h => does_any w' (HK.out w' (HW.out w' h))
        have he : ∀ w' : World, (binOp .eql 23 (.agg (hv (rootH L))) (.agg (hv (rootH L)))).run Tryd.prog w' = .ok (.bool true) w' := fun w' => by simpa using eqH w' (rootH L) (rootH L) (rootH_32 h32) (rootH_32 h32)
        clear HMq HK HL HPl HRo h32 HM0 HNd
        generalize hv (rootH L) = RR at *
        have HX0 : Hid (Below wr.heap.size wr wr) := Below.refl _ _
        go_wp2_with fail
        refine (HR0.out _ HX0.out).mono ?_
        rintro e w4 ⟨rfl, b4⟩
        have HX4 : Hid (Below wr.heap.size wr w4) := b4
        clear b4
        go_wp2_with fail
        refine (HR1.out _ HX4.out).mono ?_
        rintro e w5 ⟨rfl, b5⟩
        have HX5 : Hid (Below wr.heap.size wr w5) := HX4.out.trans (b5.mono HX4.out.size)
        clear b5
        go_wp2_with fail
        refine (HD.out _ HX5.out).mono ?_
        rintro e w6 ⟨rfl, b6⟩
        have HF : Hid (Below w.heap.size w w6) := HW.out _ (HX5.out.trans (b6.mono HX5.out.size))
        clear b6
        go_wp2
        go_ret
        exact ⟨rfl, HF.out⟩
      · have hodd : (L.length : Int) % 2 = 1 := by omega
        have hNj : L.length = j + 1 := by omega
        obtain ⟨x, hx⟩ : ∃ x, L[j]? = some x := ⟨_, List.getElem?_eq_getElem (by omega)⟩
        have x32 : x.length = 32 := h32 x (List.mem_of_getElem? hx)
        have hst : (pairs nodeL L).take m ++ [x] = pairs nodeL L := by
          rw [take_next (pairs_last nodeL m L x (by omega) (by rw [← hj2]; exact hx)), List.take_of_length_le (by rw [HPl.out]; omega)]
        have hsl : (pairs nodeL L).length = m + 1 := by rw [HPl.out]; omega
        have hrx : wr.rangeAt b (o + j * 32) (hv x).toList := by
          obtain ⟨-, b', o', e, hr⟩ := (HL.out wr HM.out.below).cells.2 j x hx
          simp at e
          obtain ⟨rfl, rfl⟩ := e
          exact hr wr (Below.refl _ _)
        have icx : Hid ((Tryd.prog.info? 23).map (·.size) = some (hv x).toList.length) := by show _ = _; rw [info_h32, Array.length_toList, hv_size, x32]
        have sR : (hv x).size = 32 := by rw [hv_size, x32]
        have hbld := build_hash (hv x) sR
        rw [zero_h32] at hbld
        have hNn := HsAt.made wr x x32
        have hMn := HM.out.alloc (.cells (hv x) 23)
        have k1 : (0 : Int) ≤ (L.length : Int) - 1 := by omega
        have k2 : ((L.length : Int) - 1).toNat = j := by omega
        have k3 : (L.length : Int) - 1 < (L.length : Int) := by omega
        have k4 : ¬ (L.length : Int) - 1 < 0 := by omega
        have k8 : m + 1 ≤ 100000 := by omega
        have HST : Hid ((pairs nodeL L).take m ++ [x] = pairs nodeL L) := hst
        have HSL : Hid ((pairs nodeL L).length = m + 1) := hsl
        have HN : Hid (HsAt (wr.alloc (.cells (hv x) 23)) (.slice (some ⟨wr.heap.size, 0, none⟩) 1 1) [x]) := hNn
        have HMn : Hid (Mh w w.heap.size (.slice xa m xc) ((pairs nodeL L).take m) (wr.alloc (.cells (hv x) 23))) := hMn
        clear HM hp hst hsl hNn hMn x32 hx hj2 hNj
        generalize hv x = X at *
        go_upto_region 10 with (first
          | (refine wpList_load_mid rfl 23 (.tmp 37) rfl b (o + j * 32) rfl X.toList _ hrx Tryd.underlying23 rfl icx.out ?_)
          | (refine wpList_append_mh (M := [x]) rfl (.tmp 32) (.tmp 39) rfl HMn.out ⟨wr.heap.size, 0, none⟩ 1 rfl rfl HN.out (pairs nodeL L) (m + 1) HST.out HSL.out k8 ?_
             intro ya yc w9 _ hM9)
          | fail)
        have HMq : Hid (Mh w w.heap.size (.slice ya (m + 1) yc) (pairs nodeL L) w9) := hM9
        clear hM9 HMn HN HST HSL hrx hbld icx
        have HW : Hid (∀ w', Below w9.heap.size w9 w' → Below w.heap.size w w') := fun w' h => HMq.out.below.trans (h.mono HMq.out.size)
        have HR0 : Hid (∀ w', Below w9.heap.size w9 w' → Calls Tryd.prog 9 #[.slice (some ⟨b, o, none⟩) L.length c] w' fun e w'' => e = .returned (.agg (hv (rootH L))) ∧ Below w'.heap.size w' w'') := fun w' h => root_any (HK.out w' (HW.out w' h)) (HL.out w' (HW.out w' h)) (fun a n c e => by have := Value.slice.inj e; omega) (by omega)
        have HR1 : Hid (∀ w', Below w9.heap.size w9 w' → Calls Tryd.prog 9 #[.slice ya (m + 1) yc] w' fun e w'' => e = .returned (.agg (hv (rootH L))) ∧ Below w'.heap.size w' w'') := fun w' h => by
          obtain ⟨a', c', hs, hc⟩ := HMq.out.slice
          have := root_any (HK.out w' (HW.out w' h)) ((HMq.out.next h).at_) (fun a n c e => by have := Value.slice.inj e; have := Value.slice.inj hs; omega) (by rw [HPl.out]; omega)
          rwa [← HRo.out] at this
        have HD : Hid (∀ w', Below w9.heap.size w9 w' → Calls Tryd.prog 12 #[] w' fun e w'' => e = .returned (.bool true) ∧ Below w'.heap.size w' w'') := fun w' h => does_any w' (HK.out w' (HW.out w' h))
        have he : ∀ w' : World, (binOp .eql 23 (.agg (hv (rootH L))) (.agg (hv (rootH L)))).run Tryd.prog w' = .ok (.bool true) w' := fun w' => by simpa using eqH w' (rootH L) (rootH L) (rootH_32 h32) (rootH_32 h32)
        clear HMq HK HL HPl HRo h32 HM0 HNd
        generalize hv (rootH L) = RR at *
        have HX0 : Hid (Below w9.heap.size w9 w9) := Below.refl _ _
        go_wp2_with fail
        refine (HR0.out _ HX0.out).mono ?_
        rintro e w4 ⟨rfl, b4⟩
        have HX4 : Hid (Below w9.heap.size w9 w4) := b4
        clear b4
        go_wp2_with fail
        refine (HR1.out _ HX4.out).mono ?_
        rintro e w5 ⟨rfl, b5⟩
        have HX5 : Hid (Below w9.heap.size w9 w5) := HX4.out.trans (b5.mono HX4.out.size)
        clear b5
        go_wp2_with fail
        refine (HD.out _ HX5.out).mono ?_
        rintro e w6 ⟨rfl, b6⟩
        have HF : Hid (Below w.heap.size w w6) := HW.out _ (HX5.out.trans (b6.mono HX5.out.size))
        clear b6
        go_wp2
        go_ret
        exact ⟨rfl, HF.out⟩
set_option maxRecDepth 100000 in
set_option maxHeartbeats 2000000 in
theorem levels_nil (a : Option Addr) (c : Nat) (w : World) (hK : TabL w) (hL : HsAt w (.slice a 0 c) []) : Calls Tryd.prog 8 #[.slice a 0 c] w fun e w' => e = .returned (.bool true) ∧ Below w.heap.size w w' := by
  have HR0 : Hid (∀ w', Below w.heap.size w w' → Calls Tryd.prog 9 #[.slice a 0 c] w' fun e w'' => e = .returned (.agg (hv (rootH []))) ∧ Below w'.heap.size w' w'') := fun w' h => root_any (hK.below h hK.lt) (hL.below h) (fun a n c e => by have := Value.slice.inj e; omega) (by simp)
  have HR1 : Hid (∀ w', Below w.heap.size w w' → Calls Tryd.prog 9 #[.slice none 0 0] w' fun e w'' => e = .returned (.agg (hv (rootH []))) ∧ Below w'.heap.size w' w'') := fun w' h => root_any (hK.below h hK.lt) (Mh.start w').at_ (fun a n c e => by have := Value.slice.inj e; omega) (by simp)
  have HD : Hid (∀ w', Below w.heap.size w w' → Calls Tryd.prog 12 #[] w' fun e w'' => e = .returned (.bool true) ∧ Below w'.heap.size w' w'') := fun w' h => does_any w' (hK.below h hK.lt)
  have he : ∀ w' : World, (binOp .eql 23 (.agg (hv (rootH []))) (.agg (hv (rootH [])))).run Tryd.prog w' = .ok (.bool true) w' := fun w' => by simpa using eqH w' (rootH []) (rootH []) (rootH_32 hL.len) (rootH_32 hL.len)
  clear hL hK
  generalize hv (rootH []) = RR at *
  go_enter Tryd.func8, Tryd.ntmps8
  go_wp2
  go_loopw [3, 4] (fun ov iv wr => ov = .slice none 0 0 ∧ iv = .int .i64 0 ∧ wr = w) (fun _ _ _ => 0)
  case atStart => exact ⟨rfl, rfl, rfl⟩
  case round =>
    obtain ⟨rfl, rfl, hwr⟩ := hrel
    have HX0 : Hid (Below w.heap.size w wr) := by rw [hwr]; exact Below.refl _ _
    clear hwr
    go_wp2_with fail
    refine (HR0.out _ HX0.out).mono ?_
    rintro e w4 ⟨rfl, b4⟩
    have HX4 : Hid (Below w.heap.size w w4) := HX0.out.trans (b4.mono HX0.out.size)
    clear b4
    go_wp2_with fail
    refine (HR1.out _ HX4.out).mono ?_
    rintro e w5 ⟨rfl, b5⟩
    have HX5 : Hid (Below w.heap.size w w5) := HX4.out.trans (b5.mono HX4.out.size)
    clear b5
    go_wp2_with fail
    refine (HD.out _ HX5.out).mono ?_
    rintro e w6 ⟨rfl, b6⟩
    have HF : Hid (Below w.heap.size w w6) := HX5.out.trans (b6.mono HX5.out.size)
    clear b6
    go_wp2
    go_ret
    exact ⟨rfl, HF.out⟩
theorem levels_walk {L : List (List UInt8)} {v : Value} {w : World} (hK : TabL w) (hL : HsAt w v L) (hroom : ∀ a n c, v = .slice a n c → n ≤ c) : Calls Tryd.prog 8 #[v] w fun e w' => e = .returned (.bool true) ∧ Below w.heap.size w w' := by
  obtain ⟨a, c, rfl, hh⟩ := id hL
  by_cases h : 40 < L.length
  · exact levels_long L a c w h
  cases L with
  | nil => exact levels_nil a c w hK hL
  | cons x k =>
    obtain ⟨-, b, o, rfl, -⟩ := hL.cells.2 0 x rfl
    exact levels_some _ b o c w hK hL (hroom _ _ _ rfl) (by omega)
end Go.Proofs.YtnigcngaegafoaaDoor
