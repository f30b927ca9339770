/- The program's Give (layer 7). -/
import Derived.Test.YtbnfhhjgalphgaaZc
import Derived.Test.YtbnfhhjgalphgaaZd
import Derived.Test.YtbnfhhjgalphgaaZf
namespace Go.Proofs.Ytbnfhhjgalphgaa
open Go.RowKit

/-- A slice as the program makes them: none, or one whose length is within its room. -/
def SlOk (v : Value) : Prop := v = .slice none 0 0 ∨ ∃ b o n c, v = .slice (some ⟨b, o, none⟩) n c ∧ n ≤ c
/-- The box of the run that is given. -/
structure Gv (w : World) (r : Rn) (w' : World) : Prop where
  below : Below w.heap.size w w'
  cr : w'.heap[w.heap.size]? = some (.cells #[.int .i64 r.s, .int .i64 r.c] 24 (0, 0))
section
variable {w w' w'' : World} {r : Rn}
theorem Gv.lt (h : Gv w r w') : w.heap.size < w'.heap.size := (Array.getElem?_eq_some_iff.1 h.cr).1
theorem Gv.r0 (h : Gv w r w') : w'.cell? ⟨w.heap.size, 0, none⟩ = some (.int .i64 r.s) := by rw [cell_of_row _ _ _ _ _ _ h.cr]; rfl
theorem Gv.r1 (h : Gv w r w') : w'.cell? ⟨w.heap.size, 1, none⟩ = some (.int .i64 r.c) := by rw [cell_of_row _ _ _ _ _ _ h.cr]; rfl
theorem Gv.next (h : Gv w r w') (hb : Below w'.heap.size w' w'') : Gv w r w'' := ⟨h.below.trans (hb.mono h.below.size), (hb.block _ h.lt).trans h.cr⟩
theorem Gv.drew (h : Gv w r w') : Gv w r w'.drew := h.next (Below.refl _ _).drew
theorem Gv.alloc (h : Gv w r w') (o : Obj) : Gv w r (w'.alloc o) := h.next ((Below.refl _ _).alloc (Nat.le_refl _) _)
theorem Gv.turn (h : Gv w r w') (y z : Int) : Gv w ⟨y, z⟩ (w'.setRow w.heap.size #[.int .i64 y, .int .i64 z]) := ⟨below_setRow h.below (Nat.le_refl _) _, heap_setRow_same h.cr⟩
theorem Gv.turnC (h : Gv w r w') (z : Int) : Gv w ⟨r.s, z⟩ (w'.setCell ⟨w.heap.size, 1, none⟩ (.int .i64 z)) := ⟨h.below.setCell (Nat.le_refl _) _, by rw [heap_set_same h.cr]; rfl⟩
end
/-- The box of one that stands between, too. -/
structure Gx (w : World) (r : Rn) (xb : Nat) (x : Rn) (w' : World) : Prop where
  gv : Gv w r w'
  cx : w'.heap[xb]? = some (.cells #[.int .i64 x.s, .int .i64 x.c] 24 (0, 0))
  ne : w.heap.size < xb
section
variable {w w' w'' : World} {r x : Rn} {xb : Nat}
theorem Gx.x0 (h : Gx w r xb x w') : w'.cell? ⟨xb, 0, none⟩ = some (.int .i64 x.s) := by rw [cell_of_row _ _ _ _ _ _ h.cx]; rfl
theorem Gx.x1 (h : Gx w r xb x w') : w'.cell? ⟨xb, 1, none⟩ = some (.int .i64 x.c) := by rw [cell_of_row _ _ _ _ _ _ h.cx]; rfl
theorem Gx.next (h : Gx w r xb x w') (hb : Below w'.heap.size w' w'') : Gx w r xb x w'' := ⟨h.gv.next hb, (hb.block _ (Array.getElem?_eq_some_iff.1 h.cx).1).trans h.cx, h.ne⟩
theorem Gx.drew (h : Gx w r xb x w') : Gx w r xb x w'.drew := h.next (Below.refl _ _).drew
end
set_option maxRecDepth 100000 in
set_option maxHeartbeats 4000000 in
set_option linter.unusedSimpArgs false in
theorem give_any {w : World} {v : Value} {l : List Rn} (r : Rn) (h : RunsAt w v l) (hq : SlOk v) (hf : fitR l) (hl : l.length ≤ 100000) (hr1 : -9223372036854775808 ≤ r.s ∧ r.s < 9223372036854775808) (hr2 : -9223372036854775808 ≤ r.c ∧ r.c < 9223372036854775808) :
    Calls Try.prog 12 #[v, .agg #[.int .i64 r.s, .int .i64 r.c]] w fun e w' => GiveSays w w.heap.size (giveT l r) e w' := by
  obtain ⟨a, q, rfl, -⟩ := id h
  obtain ⟨w1, hw1⟩ : ∃ w1, w.alloc (.cells #[.int .i64 r.s, .int .i64 r.c] 24) = w1 := ⟨_, rfl⟩
  have hG : Gv w r w1 := by rw [← hw1]; exact ⟨(Below.refl _ _).alloc (Nat.le_refl _) _, heap_alloc_last w _⟩
  have HG1 : Hid _ := hG
  have HCk : Hid (Calls Try.prog 17 #[.slice a l.length q] w1 fun e w' => e = .returned (.bool (chkB l)) ∧ Below w1.heap.size w1 w') := check_any (h.below hG.below) hf (by omega)
  have HCr : Hid (∀ w2 : World, Calls Try.prog 17 #[.slice (some ⟨w2.heap.size, 0, none⟩) 1 1] (w2.alloc (.cells #[.int .i64 r.s, .int .i64 r.c] 24)) fun e w' => e = .returned (.bool (oneB r)) ∧ Below (w2.alloc (.cells #[.int .i64 r.s, .int .i64 r.c] 24)).heap.size (w2.alloc (.cells #[.int .i64 r.s, .int .i64 r.c] 24)) w') := fun w2 => by
    have := check_any (RunsAt.made w2 r.s r.c) (fun x hx => by obtain rfl := List.mem_singleton.1 hx; exact ⟨hr1, hr2⟩) (by simp)
    rw [show chkB [(⟨r.s, r.c⟩ : Rn)] = oneB r by simp [chkB]] at this
    exact this
  have HL : Hid _ := h.cells.2
  have HRa : Hid (∀ w', Below w.heap.size w w' → RunsAt w' (.slice a l.length q) l) := fun w' hb => h.below hb
  clear h hf hG
  cases hck : chkB l with
  | false =>
    have hT : Hid (giveT l r = none) := by show _ = _; unfold giveT; rw [if_neg (by rw [hck]; simp)]
    rw [hck] at HCk
    clear hck
    go_enter Try.func12, Try.ntmps12
    go_wp2_with fail
    refine HCk.out.mono ?_
    rintro e w2 ⟨rfl, b2⟩
    have HG2 : Hid _ := HG1.out.next b2
    clear b2
    go_wp2
    go_ret2
    rw [hT.out]
    exact ⟨rfl, HG2.out.below⟩
  | true =>
  rw [hck] at HCk
  go_enter Try.func12, Try.ntmps12
  go_wp2_with fail
  refine HCk.out.mono ?_
  rintro e w2 ⟨rfl, b2⟩
  have HG2 : Gv w r w2 := HG1.out.next b2
  have hg2 := HG2.cr
  have HG2 : Hid _ := HG2
  clear b2 hw1 HG1 HCk
  go_wp2_with (first | (refine load_box rfl (.tmp 3) rfl w.heap.size r.s r.c (0, 0) rfl hg2 ?_) | fail)
  refine (HCr.out w2).mono ?_
  rintro e w3 ⟨rfl, b3⟩
  have HG3 : Gv w r w3 := (HG2.out.alloc _).next b3
  have HG3 : Hid _ := HG3
  clear b3 HG2 HCr hg2
  cases hone : oneB r with
  | false =>
    have hT : Hid (giveT l r = none) := by show _ = _; unfold giveT; rw [if_neg (by rw [hone]; simp)]
    clear hone
    go_wp2
    go_ret2
    rw [hT.out]
    exact ⟨rfl, HG3.out.below⟩
  | true =>
  have hro := oneB_iff.1 hone
  have HOne : Hid (∀ x ∈ l, oneB x = true) := chk_one hck
  obtain ⟨f, hfd⟩ : ∃ f, f = findN (fun x => decide (r.s ≤ x.e)) l := ⟨_, rfl⟩
  have hfl : f ≤ l.length := by rw [hfd]; exact findN_le _ _
  obtain ⟨c, hcd⟩ : ∃ c, c = findN (fun x => decide (r.e < x.s)) (l.drop f) := ⟨_, rfl⟩
  have hcl : c ≤ l.length - f := by rw [hcd, ← List.length_drop]; exact findN_le _ _
  have HNear : Hid (Near r ((l.drop f).take c)) := near_of hck hfd hcd
  have HSome : Hid (∀ r', Grown r ((l.drop f).take c) r' → giveT l r = some (l.take f ++ ([r'] ++ l.drop (f + c)))) := fun r' hgr => give_some hck hone hfd hcd hgr
  have HSt : Hid (oneB r = true) := hone
  have hfit : ∀ x ∈ l, -9223372036854775808 ≤ x.s + x.c ∧ x.s + x.c < 9223372036854775808 := fun x hx => by have := oneB_iff.1 (HOne.out x hx); omega
  have HF1 : Hid (∀ w4 : World, Gv w r w4 → Calls Try.prog 25 #[.slice a l.length q, .func (.func 28) #[] #[.pointer (some ⟨w.heap.size, 0, none⟩)]] w4 fun e w' => e = .returned (.int .i64 f) ∧ Below w4.heap.size w4 w') := fun w4 hg => by
    rw [hfd]; exact find_any (HRa.out _ hg.below) (by omega) hfit (give1_any hg.r0 hg.r1 (by omega))
  have HF2 : Hid (∀ (w4 : World) (a' : Option Addr) (q' : Nat), Gv w r w4 → RunsAt w4 (.slice a' (l.length - f) q') (l.drop f) → Calls Try.prog 25 #[.slice a' (l.length - f) q', .func (.func 30) #[] #[.pointer (some ⟨w.heap.size, 0, none⟩)]] w4 fun e w' => e = .returned (.int .i64 c) ∧ Below w4.heap.size w4 w') := fun w4 a' q' hg hR => by
    rw [hcd]; exact find_any hR (by rw [List.length_drop]; omega) (fun x hx => hfit x (List.mem_of_mem_drop hx)) (give2_any hg.r0 hg.r1 (by omega))
  clear hfd hcd hck hone hfit
  go_wp2_with fail
  refine (HF1.out w3 HG3.out).mono ?_
  rintro e w4 ⟨rfl, b4⟩
  have HG4 : Gv w r w4 := HG3.out.next b4
  have HG4 : Hid _ := HG4
  clear b4 HG3 HF1
  have HNone : Hid (∀ (j : Nat) (x : Rn), ((l.drop f).take c)[j]? = some x → meetB x r = true → giveT l r = none) := fun j x hx hm => give_none hx hm
  rcases hq with hq | ⟨b, ofs, n', c', hq, hcap⟩
  · simp at hq
    obtain ⟨rfl, hl0, rfl⟩ := hq
    obtain rfl : l = [] := by first | exact hl0 | exact List.length_eq_zero_iff.1 hl0
    clear hl0
    obtain rfl : f = 0 := by simpa using hfl
    obtain rfl : c = 0 := by simpa using hcl
    have HLn : Hid (([] : List Rn).length - 0 = 0) := rfl
    have HDn : Hid (([] : List Rn).drop 0 = []) := rfl
    have HSo : Hid (giveT [] r = some (([] : List Rn) ++ ([r] ++ []))) := by
      have := HSome.out r (by rw [List.take_zero]; exact Grown.start HSt.out)
      show _ = _
      simpa using this
    have HV1 : Hid (∀ w', Below w.heap.size w w' → RunsAt w' (.slice none 0 0) []) := fun w' hb => HRa.out _ hb
    have HV3 : Hid (∀ w', Below w.heap.size w w' → RunsAt w' (.slice none 0 0) ([] : List Rn)) := fun w' hb => ⟨_, _, rfl, fun i r hi => (by simp at hi)⟩
    have hF3 : Calls Try.prog 25 #[.slice none 0 0, .func (.func 30) #[] #[.pointer (some ⟨w.heap.size, 0, none⟩)]] w4 fun e w' => e = .returned (.int .i64 0) ∧ Below w4.heap.size w4 w' := by
      have := HF2.out w4 none 0 HG4.out (by rw [HDn.out, HLn.out]; exact ⟨_, _, rfl, fun i r hi => (by simp at hi)⟩)
      rw [HLn.out] at this
      exact this
    have hAB : Hid (([] : List Rn).length + ([] : List Rn).length + 1 ≤ 1000000) := by show _ ≤ _; simp only [List.length_nil]; omega
    clear HSome HF2 HNone HNear HLn HDn
    go_wp2_with fail
    refine hF3.mono ?_
    rintro e w5 ⟨rfl, b5'⟩
    have HG5 : Gv w r w5 := HG4.out.next b5'
    have HG5 : Hid _ := HG5
    clear b5' HG4 hF3
    obtain ⟨A, hA⟩ : ∃ A : List Rn, [] = A := ⟨_, rfl⟩
    obtain ⟨B, hB⟩ : ∃ B : List Rn, [] = B := ⟨_, rfl⟩
    have hT : Hid (giveT [] r = some (A ++ ([(⟨r.s, r.c⟩ : Rn)] ++ B))) := by show _ = _; rw [← hA, ← hB]; exact HSo.out
    have hAB : Hid (A.length + B.length + 1 ≤ 1000000) := by rw [← hA, ← hB]; exact hAB
    have HV1 : Hid (∀ w', Below w.heap.size w w' → RunsAt w' (.slice none 0 0) A) := by rw [← hA]; exact HV1
    have HV3 : Hid (∀ w', Below w.heap.size w w' → RunsAt w' (.slice none 0 0) B) := by rw [← hB]; exact HV3
    clear hA hB HSo
    go_wp2
    go_loopw [34] (fun iv wr => iv = .int .i64 0 ∧ Gv w r wr) (fun _ _ => 0)
    case atStart => exact ⟨rfl, HG5.out⟩
    case round =>
      obtain ⟨rfl, HG⟩ := hrel
      have HG : Gv w ⟨r.s, r.c⟩ wr := HG
      have HG : Hid _ := HG
      go_upto_region 14 with fail
      refine wp_region_held (S := Gv w ⟨r.s, r.c⟩) (by kernel_rfl) ?_
      change wpAnyH _ _ _ _ _ _ _ _ (World.drew _)
      have HY := HG.out.drew
      generalize World.drew _ = wA at *
      refine wpAnyH_take (i := 0) (v := .slice none 0 0) rfl (by kernel_rfl) (by kernel_rfl) (by kernel_rfl) (fun _ _ _ h => h) (Or.inl ⟨by rfl, by intro w _; go_simp⟩) HY ?_
      simp only [List.getElem_toArray, List.getElem_cons_succ, List.getElem_cons_zero, Act.put, List.setIfInBounds_toArray, List.set_cons_zero, List.set_cons_succ]
      refine wpAnyH_take (i := 1) (v := .int .i64 0) rfl (by kernel_rfl) (by kernel_rfl) (by kernel_rfl) (fun _ _ _ h => h) (Or.inl ⟨by rfl, by intro w _; go_simp⟩) HY ?_
      simp only [List.getElem_toArray, List.getElem_cons_succ, List.getElem_cons_zero, Act.put, List.setIfInBounds_toArray, List.set_cons_zero, List.set_cons_succ]
      refine wpAnyH_take (i := 2) (v := .slice none 0 0) rfl (by kernel_rfl) (by kernel_rfl) (by kernel_rfl) (fun _ _ _ h => h) (Or.inl ⟨by rfl, by intro w _; go_simp⟩) HY ?_
      simp only [List.getElem_toArray, List.getElem_cons_succ, List.getElem_cons_zero, Act.put, List.setIfInBounds_toArray, List.set_cons_zero, List.set_cons_succ]
      refine wpAnyH_take (i := 3) (v := .agg #[.int .i64 r.s, .int .i64 r.c]) rfl (by kernel_rfl) (by kernel_rfl) (by kernel_rfl) (fun _ _ _ h => h) (Or.inl ⟨by rfl, by intro w4 hw; have hc := hw.r0; have hd := hw.r1; go_simp⟩) HY ?_
      simp only [List.getElem_toArray, List.getElem_cons_succ, List.getElem_cons_zero, Act.put, List.setIfInBounds_toArray, List.set_cons_zero, List.set_cons_succ]
      refine wpAnyH_take (i := 5) (v := .slice none 0 0) rfl (by kernel_rfl) (by kernel_rfl) (by kernel_rfl) (fun _ _ _ h => h) (Or.inl ⟨by rfl, by intro w _; go_simp⟩) HY ?_
      simp only [List.getElem_toArray, List.getElem_cons_succ, List.getElem_cons_zero, Act.put, List.setIfInBounds_toArray, List.set_cons_zero, List.set_cons_succ]
      refine wpAnyH_take (i := 6) (v := .int .i64 0) rfl (by kernel_rfl) (by kernel_rfl) (by kernel_rfl) (fun _ _ _ h => h) (Or.inl ⟨by rfl, by intro w _; go_simp⟩) HY ?_
      simp only [List.getElem_toArray, List.getElem_cons_succ, List.getElem_cons_zero, Act.put, List.setIfInBounds_toArray, List.set_cons_zero, List.set_cons_succ]
      refine wpAnyH_take (i := 7) (v := .slice none 0 0) rfl (by kernel_rfl) (by kernel_rfl) (by kernel_rfl) (fun _ _ _ h => h) (Or.inl ⟨by rfl, by intro w _; go_simp⟩) HY ?_
      simp only [List.getElem_toArray, List.getElem_cons_succ, List.getElem_cons_zero, Act.put, List.setIfInBounds_toArray, List.set_cons_zero, List.set_cons_succ]
      refine wpAnyH_ready (rs := [4]) (by kernel_rfl) (by simp) (AllReadyH.cons (by simp only [List.getElem?_toArray, List.getElem?_cons_succ, List.getElem?_cons_zero]; rfl) (fun K hK => ?_) AllReadyH.nil)
      refine step_plain rfl ?_
      go_simp
      have hmd := RunsAt.made wA r.s r.c
      have HY := HY.alloc (.cells #[.int .i64 r.s, .int .i64 r.c] 24)
      refine hK.out _ _ HY (fun _ => ?_)
      clear hK K
      try simp only [List.getElem_toArray, List.getElem_cons_succ, List.getElem_cons_zero, Act.put, List.setIfInBounds_toArray, List.set_cons_zero, List.set_cons_succ]
      generalize wA.alloc (.cells #[.int .i64 r.s, .int .i64 r.c] 24) = wB at *
      generalize wA.heap.size = rg at *
      refine wpAnyH_ready (rs := [8]) (by kernel_rfl) (by simp) (AllReadyH.cons (by simp only [List.getElem?_toArray, List.getElem?_cons_succ, List.getElem?_cons_zero]; rfl) (fun K hK => ?_) AllReadyH.nil)
      refine step_plain rfl ?_
      go_simp
      have hgB := heap_alloc_last wB (.cells #[.slice none 0 0, .slice (some ⟨rg, 0, none⟩) 1 1, .slice none 0 0] 22)
      have HY := HY.alloc (.cells #[.slice none 0 0, .slice (some ⟨rg, 0, none⟩) 1 1, .slice none 0 0] 22)
      have hmd := hmd.below ((Below.refl _ _).alloc (Nat.le_refl _) (.cells #[.slice none 0 0, .slice (some ⟨rg, 0, none⟩) 1 1, .slice none 0 0] 22))
      refine hK.out _ _ HY (fun _ => ?_)
      clear hK K
      try simp only [List.getElem_toArray, List.getElem_cons_succ, List.getElem_cons_zero, Act.put, List.setIfInBounds_toArray, List.set_cons_zero, List.set_cons_succ]
      generalize wB.alloc (.cells #[.slice none 0 0, .slice (some ⟨rg, 0, none⟩) 1 1, .slice none 0 0] 22) = wC at *
      generalize wB.heap.size = bb at *
      have hR1 := HV1.out wC HY.below
      have hR2 := HV3.out wC HY.below
      have hAll : allR ([((.slice none 0 0 : Value), (A : List Rn)), ((.slice (some ⟨rg, 0, none⟩) 1 1 : Value), ([⟨r.s, r.c⟩] : List Rn)), ((.slice none 0 0 : Value), (B : List Rn))] : List (Value × List Rn)) = A ++ ([(⟨r.s, r.c⟩ : Rn)] ++ B) := by simp [allR]
      have hCc : Calls Try.prog 27 #[.slice (some ⟨bb, 0, none⟩) 3 3] wC fun e w' => ∃ a c, e = .returned (.slice a (A ++ ([(⟨r.s, r.c⟩ : Rn)] ++ B)).length c) ∧ w'.ownsRow wC.heap.size 24 2 (.slice a (A ++ ([(⟨r.s, r.c⟩ : Rn)] ++ B)).length c) (A ++ ([(⟨r.s, r.c⟩ : Rn)] ++ B)).length (rsv (A ++ ([(⟨r.s, r.c⟩ : Rn)] ++ B))) ∧ Below wC.heap.size wC w' := by
        have := concat_any (w := wC) (b := bb) (c := 3) (ts := [((.slice none 0 0 : Value), (A : List Rn)), ((.slice (some ⟨rg, 0, none⟩) 1 1 : Value), ([⟨r.s, r.c⟩] : List Rn)), ((.slice none 0 0 : Value), (B : List Rn))]) (fun i v' l' hi => ?_) (by simp) (by rw [hAll]; have := hAB.out; simp only [List.length_append, List.length_cons, List.length_nil]; omega)
        · rw [hAll] at this; exact this
        · rw [cell_of_row _ _ _ _ _ _ hgB]
          match i, hi with
          | 0, hi => obtain ⟨rfl, rfl⟩ := Prod.mk.inj (Option.some.inj hi); exact ⟨rfl, hR1⟩
          | 1, hi => obtain ⟨rfl, rfl⟩ := Prod.mk.inj (Option.some.inj hi); exact ⟨rfl, hmd⟩
          | 2, hi => obtain ⟨rfl, rfl⟩ := Prod.mk.inj (Option.some.inj hi); exact ⟨rfl, hR2⟩
          | i + 3, hi => simp at hi
      clear hR1 hR2 hgB hmd hAll HG
      generalize hRes : (A ++ ([(⟨r.s, r.c⟩ : Rn)] ++ B) : List Rn) = R at *
      refine wpAnyH_ready (rs := [9]) (by kernel_rfl) (by simp) (AllReadyH.cons (by simp only [List.getElem?_toArray, List.getElem?_cons_succ, List.getElem?_cons_zero]; rfl) (fun K hK => ?_) AllReadyH.nil)
      refine step_plain rfl ?_
      go_simp
      refine hCc.mono ?_
      rintro e wD ⟨za, zc, rfl, ho, bD⟩
      have hwC : w.heap.size ≤ wC.heap.size := HY.below.size
      have HY := HY.next bD
      clear hCc bD
      refine hK.out _ _ HY (fun _ => ?_)
      clear hK K
      try simp only [List.getElem_toArray, List.getElem_cons_succ, List.getElem_cons_zero, Act.put, List.setIfInBounds_toArray, List.set_cons_zero, List.set_cons_succ]
      refine wpAnyH_take (i := 10) (v := .slice za R.length zc) rfl (by kernel_rfl) (by kernel_rfl) (by kernel_rfl) (fun _ _ _ h => h) (Or.inl ⟨by rfl, by intro w _; go_simp⟩) HY ?_
      simp only [List.getElem_toArray, List.getElem_cons_succ, List.getElem_cons_zero, Act.put, List.setIfInBounds_toArray, List.set_cons_zero, List.set_cons_succ]
      refine wpAnyH_take (i := 11) (v := .bool true) rfl (by kernel_rfl) (by kernel_rfl) (by kernel_rfl) (fun _ _ _ h => h) (Or.inl ⟨by rfl, by intro w _; go_simp⟩) HY ?_
      simp only [List.getElem_toArray, List.getElem_cons_succ, List.getElem_cons_zero, Act.put, List.setIfInBounds_toArray, List.set_cons_zero, List.set_cons_succ]
      refine wpAnyH_done (by kernel_rfl) ?_ _
      have HF : Hid (GiveSays w w.heap.size (some R) (.returned (.tuple #[.slice za R.length zc, .bool true])) wD) := ⟨za, zc, rfl, owns_lower ho hwC, HY.below⟩
      have hT2 : Hid (giveT [] r = some R) := by show _ = _; exact hT.out
      clear HY ho hRes
      go_wp2
      all_goals go_ret2
      all_goals
        rw [hT2.out]
        exact HF.out
  · simp at hq
    obtain ⟨rfl, rfl, rfl⟩ := hq
    have b0 : (f : Int) ≤ (l.length : Int) := by omega
    have b1 : (l.length : Int) ≤ (q : Int) := by omega
    have b2 : (f : Int) ≤ (q : Int) := by omega
    have htl : f + c ≤ l.length := by omega
    have hwt : wrap64 ((f : Int) + (c : Int)) = (f : Int) + (c : Int) := by unfold wrap64; omega
    have b3 : (f : Int) + (c : Int) ≤ (l.length : Int) := by omega
    have b4 : (f : Int) + (c : Int) ≤ (q : Int) := by omega
    have b5 : (f : Int) ≤ (f : Int) + (c : Int) := by omega
    have b6 : ¬ ((f : Int) + (c : Int) < 0) := by omega
    have b7 : (0 : Int) ≤ (f : Int) + (c : Int) := by omega
    have b8 : f + c ≤ q := by omega
    have hnat : ((f : Int) + (c : Int)).toNat = f + c := by omega
    by_cases hqf : q = f
    · obtain rfl : f = l.length := by omega
      obtain rfl : q = l.length := by omega
      obtain rfl : c = 0 := by omega
      have HLn : Hid (l.length - l.length = 0) := Nat.sub_self _
      have HDn : Hid (l.drop l.length = []) := List.drop_length
      clear hqf hnat b0 b1 b2 b3 b4 b5 b6 b7 b8 hwt htl hcap
      have hwt : wrap64 (l.length : Int) = (l.length : Int) := by unfold wrap64; omega
      have HSo : Hid (giveT l r = some (l ++ ([r] ++ []))) := by
        have := HSome.out r (by rw [List.take_zero]; exact Grown.start HSt.out)
        show _ = _
        simpa using this
      have HV1 : Hid (∀ w', Below w.heap.size w w' → RunsAt w' (.slice (some ⟨b, ofs, none⟩) l.length l.length) l) := fun w' hb => HRa.out _ hb
      have HV3 : Hid (∀ w', Below w.heap.size w w' → RunsAt w' (.slice (some ⟨b, ofs, none⟩) 0 0) ([] : List Rn)) := fun w' hb => ⟨_, _, rfl, fun i r hi => (by simp at hi)⟩
      have hF3 : Calls Try.prog 25 #[.slice (some ⟨b, ofs, none⟩) 0 0, .func (.func 30) #[] #[.pointer (some ⟨w.heap.size, 0, none⟩)]] w4 fun e w' => e = .returned (.int .i64 0) ∧ Below w4.heap.size w4 w' := by
        have := HF2.out w4 (some ⟨b, ofs, none⟩) 0 HG4.out (by rw [HDn.out, HLn.out]; exact ⟨_, _, rfl, fun i r hi => (by simp at hi)⟩)
        rw [HLn.out] at this
        exact this
      have hAB : Hid (l.length + ([] : List Rn).length + 1 ≤ 1000000) := by show _ ≤ _; simp only [List.length_nil]; omega
      clear HSome HF2 HNone HNear HLn HDn
      go_wp2_with fail
      refine hF3.mono ?_
      rintro e w5 ⟨rfl, b5'⟩
      have HG5 : Gv w r w5 := HG4.out.next b5'
      have HG5 : Hid _ := HG5
      clear b5' HG4 hF3
      obtain ⟨A, hA⟩ : ∃ A, l = A := ⟨_, rfl⟩
      obtain ⟨B, hB⟩ : ∃ B : List Rn, [] = B := ⟨_, rfl⟩
      have hT : Hid (giveT l r = some (A ++ ([(⟨r.s, r.c⟩ : Rn)] ++ B))) := by show _ = _; rw [← hA, ← hB]; exact HSo.out
      have hAB : Hid (A.length + B.length + 1 ≤ 1000000) := by rw [← hA, ← hB]; exact hAB
      have HV1 : Hid (∀ w', Below w.heap.size w w' → RunsAt w' (.slice (some ⟨b, ofs, none⟩) l.length l.length) A) := by rw [← hA]; exact HV1
      have HV3 : Hid (∀ w', Below w.heap.size w w' → RunsAt w' (.slice (some ⟨b, ofs, none⟩) 0 0) B) := by rw [← hB]; exact HV3
      clear hA hB HSo
      go_wp2
      go_loopw [34] (fun iv wr => iv = .int .i64 0 ∧ Gv w r wr) (fun _ _ => 0)
      case atStart => exact ⟨rfl, HG5.out⟩
      case round =>
        obtain ⟨rfl, HG⟩ := hrel
        have HG : Gv w ⟨r.s, r.c⟩ wr := HG
        have HG : Hid _ := HG
        go_upto_region 14 with fail
        refine wp_region_held (S := Gv w ⟨r.s, r.c⟩) (by kernel_rfl) ?_
        change wpAnyH _ _ _ _ _ _ _ _ (World.drew _)
        have HY := HG.out.drew
        generalize World.drew _ = wA at *
        refine wpAnyH_take (i := 0) (v := .slice (some ⟨b, ofs, none⟩) l.length l.length) rfl (by kernel_rfl) (by kernel_rfl) (by kernel_rfl) (fun _ _ _ h => h) (Or.inl ⟨by rfl, by intro w _; go_simp⟩) HY ?_
        simp only [List.getElem_toArray, List.getElem_cons_succ, List.getElem_cons_zero, Act.put, List.setIfInBounds_toArray, List.set_cons_zero, List.set_cons_succ]
        refine wpAnyH_take (i := 1) (v := .int .i64 (l.length : Int)) rfl (by kernel_rfl) (by kernel_rfl) (by kernel_rfl) (fun _ _ _ h => h) (Or.inl ⟨by rfl, by intro w _; go_simp⟩) HY ?_
        simp only [List.getElem_toArray, List.getElem_cons_succ, List.getElem_cons_zero, Act.put, List.setIfInBounds_toArray, List.set_cons_zero, List.set_cons_succ]
        refine wpAnyH_take (i := 2) (v := .slice (some ⟨b, ofs, none⟩) l.length l.length) rfl (by kernel_rfl) (by kernel_rfl) (by kernel_rfl) (fun _ _ _ h => h) (Or.inl ⟨by rfl, by intro w _; go_simp⟩) HY ?_
        simp only [List.getElem_toArray, List.getElem_cons_succ, List.getElem_cons_zero, Act.put, List.setIfInBounds_toArray, List.set_cons_zero, List.set_cons_succ]
        refine wpAnyH_take (i := 3) (v := .agg #[.int .i64 r.s, .int .i64 r.c]) rfl (by kernel_rfl) (by kernel_rfl) (by kernel_rfl) (fun _ _ _ h => h) (Or.inl ⟨by rfl, by intro w4 hw; have hc := hw.r0; have hd := hw.r1; go_simp⟩) HY ?_
        simp only [List.getElem_toArray, List.getElem_cons_succ, List.getElem_cons_zero, Act.put, List.setIfInBounds_toArray, List.set_cons_zero, List.set_cons_succ]
        refine wpAnyH_take (i := 5) (v := .slice (some ⟨b, ofs, none⟩) l.length l.length) rfl (by kernel_rfl) (by kernel_rfl) (by kernel_rfl) (fun _ _ _ h => h) (Or.inl ⟨by rfl, by intro w _; go_simp⟩) HY ?_
        simp only [List.getElem_toArray, List.getElem_cons_succ, List.getElem_cons_zero, Act.put, List.setIfInBounds_toArray, List.set_cons_zero, List.set_cons_succ]
        refine wpAnyH_take (i := 6) (v := .int .i64 (l.length : Int)) rfl (by kernel_rfl) (by kernel_rfl) (by kernel_rfl) (fun _ _ _ h => h) (Or.inl ⟨by rfl, by intro w _; go_simp⟩) HY ?_
        simp only [List.getElem_toArray, List.getElem_cons_succ, List.getElem_cons_zero, Act.put, List.setIfInBounds_toArray, List.set_cons_zero, List.set_cons_succ]
        refine wpAnyH_take (i := 7) (v := .slice (some ⟨b, ofs, none⟩) 0 0) rfl (by kernel_rfl) (by kernel_rfl) (by kernel_rfl) (fun _ _ _ h => h) (Or.inl ⟨by rfl, by intro w _; go_simp⟩) HY ?_
        simp only [List.getElem_toArray, List.getElem_cons_succ, List.getElem_cons_zero, Act.put, List.setIfInBounds_toArray, List.set_cons_zero, List.set_cons_succ]
        refine wpAnyH_ready (rs := [4]) (by kernel_rfl) (by simp) (AllReadyH.cons (by simp only [List.getElem?_toArray, List.getElem?_cons_succ, List.getElem?_cons_zero]; rfl) (fun K hK => ?_) AllReadyH.nil)
        refine step_plain rfl ?_
        go_simp
        have hmd := RunsAt.made wA r.s r.c
        have HY := HY.alloc (.cells #[.int .i64 r.s, .int .i64 r.c] 24)
        refine hK.out _ _ HY (fun _ => ?_)
        clear hK K
        try simp only [List.getElem_toArray, List.getElem_cons_succ, List.getElem_cons_zero, Act.put, List.setIfInBounds_toArray, List.set_cons_zero, List.set_cons_succ]
        generalize wA.alloc (.cells #[.int .i64 r.s, .int .i64 r.c] 24) = wB at *
        generalize wA.heap.size = rg at *
        refine wpAnyH_ready (rs := [8]) (by kernel_rfl) (by simp) (AllReadyH.cons (by simp only [List.getElem?_toArray, List.getElem?_cons_succ, List.getElem?_cons_zero]; rfl) (fun K hK => ?_) AllReadyH.nil)
        refine step_plain rfl ?_
        go_simp
        have hgB := heap_alloc_last wB (.cells #[.slice (some ⟨b, ofs, none⟩) l.length l.length, .slice (some ⟨rg, 0, none⟩) 1 1, .slice (some ⟨b, ofs, none⟩) 0 0] 22)
        have HY := HY.alloc (.cells #[.slice (some ⟨b, ofs, none⟩) l.length l.length, .slice (some ⟨rg, 0, none⟩) 1 1, .slice (some ⟨b, ofs, none⟩) 0 0] 22)
        have hmd := hmd.below ((Below.refl _ _).alloc (Nat.le_refl _) (.cells #[.slice (some ⟨b, ofs, none⟩) l.length l.length, .slice (some ⟨rg, 0, none⟩) 1 1, .slice (some ⟨b, ofs, none⟩) 0 0] 22))
        refine hK.out _ _ HY (fun _ => ?_)
        clear hK K
        try simp only [List.getElem_toArray, List.getElem_cons_succ, List.getElem_cons_zero, Act.put, List.setIfInBounds_toArray, List.set_cons_zero, List.set_cons_succ]
        generalize wB.alloc (.cells #[.slice (some ⟨b, ofs, none⟩) l.length l.length, .slice (some ⟨rg, 0, none⟩) 1 1, .slice (some ⟨b, ofs, none⟩) 0 0] 22) = wC at *
        generalize wB.heap.size = bb at *
        have hR1 := HV1.out wC HY.below
        have hR2 := HV3.out wC HY.below
        have hAll : allR ([((.slice (some ⟨b, ofs, none⟩) l.length l.length : Value), (A : List Rn)), ((.slice (some ⟨rg, 0, none⟩) 1 1 : Value), ([⟨r.s, r.c⟩] : List Rn)), ((.slice (some ⟨b, ofs, none⟩) 0 0 : Value), (B : List Rn))] : List (Value × List Rn)) = A ++ ([(⟨r.s, r.c⟩ : Rn)] ++ B) := by simp [allR]
        have hCc : Calls Try.prog 27 #[.slice (some ⟨bb, 0, none⟩) 3 3] wC fun e w' => ∃ a c, e = .returned (.slice a (A ++ ([(⟨r.s, r.c⟩ : Rn)] ++ B)).length c) ∧ w'.ownsRow wC.heap.size 24 2 (.slice a (A ++ ([(⟨r.s, r.c⟩ : Rn)] ++ B)).length c) (A ++ ([(⟨r.s, r.c⟩ : Rn)] ++ B)).length (rsv (A ++ ([(⟨r.s, r.c⟩ : Rn)] ++ B))) ∧ Below wC.heap.size wC w' := by
          have := concat_any (w := wC) (b := bb) (c := 3) (ts := [((.slice (some ⟨b, ofs, none⟩) l.length l.length : Value), (A : List Rn)), ((.slice (some ⟨rg, 0, none⟩) 1 1 : Value), ([⟨r.s, r.c⟩] : List Rn)), ((.slice (some ⟨b, ofs, none⟩) 0 0 : Value), (B : List Rn))]) (fun i v' l' hi => ?_) (by simp) (by rw [hAll]; have := hAB.out; simp only [List.length_append, List.length_cons, List.length_nil]; omega)
          · rw [hAll] at this; exact this
          · rw [cell_of_row _ _ _ _ _ _ hgB]
            match i, hi with
            | 0, hi => obtain ⟨rfl, rfl⟩ := Prod.mk.inj (Option.some.inj hi); exact ⟨rfl, hR1⟩
            | 1, hi => obtain ⟨rfl, rfl⟩ := Prod.mk.inj (Option.some.inj hi); exact ⟨rfl, hmd⟩
            | 2, hi => obtain ⟨rfl, rfl⟩ := Prod.mk.inj (Option.some.inj hi); exact ⟨rfl, hR2⟩
            | i + 3, hi => simp at hi
        clear hR1 hR2 hgB hmd hAll HG
        generalize hRes : (A ++ ([(⟨r.s, r.c⟩ : Rn)] ++ B) : List Rn) = R at *
        refine wpAnyH_ready (rs := [9]) (by kernel_rfl) (by simp) (AllReadyH.cons (by simp only [List.getElem?_toArray, List.getElem?_cons_succ, List.getElem?_cons_zero]; rfl) (fun K hK => ?_) AllReadyH.nil)
        refine step_plain rfl ?_
        go_simp
        refine hCc.mono ?_
        rintro e wD ⟨za, zc, rfl, ho, bD⟩
        have hwC : w.heap.size ≤ wC.heap.size := HY.below.size
        have HY := HY.next bD
        clear hCc bD
        refine hK.out _ _ HY (fun _ => ?_)
        clear hK K
        try simp only [List.getElem_toArray, List.getElem_cons_succ, List.getElem_cons_zero, Act.put, List.setIfInBounds_toArray, List.set_cons_zero, List.set_cons_succ]
        refine wpAnyH_take (i := 10) (v := .slice za R.length zc) rfl (by kernel_rfl) (by kernel_rfl) (by kernel_rfl) (fun _ _ _ h => h) (Or.inl ⟨by rfl, by intro w _; go_simp⟩) HY ?_
        simp only [List.getElem_toArray, List.getElem_cons_succ, List.getElem_cons_zero, Act.put, List.setIfInBounds_toArray, List.set_cons_zero, List.set_cons_succ]
        refine wpAnyH_take (i := 11) (v := .bool true) rfl (by kernel_rfl) (by kernel_rfl) (by kernel_rfl) (fun _ _ _ h => h) (Or.inl ⟨by rfl, by intro w _; go_simp⟩) HY ?_
        simp only [List.getElem_toArray, List.getElem_cons_succ, List.getElem_cons_zero, Act.put, List.setIfInBounds_toArray, List.set_cons_zero, List.set_cons_succ]
        refine wpAnyH_done (by kernel_rfl) ?_ _
        have HF : Hid (GiveSays w w.heap.size (some R) (.returned (.tuple #[.slice za R.length zc, .bool true])) wD) := ⟨za, zc, rfl, owns_lower ho hwC, HY.below⟩
        have hT2 : Hid (giveT l r = some R) := by show _ = _; exact hT.out
        clear HY ho hRes
        go_wp2
        all_goals go_ret2
        all_goals
          rw [hT2.out]
          exact HF.out
    have hR4 : RunsAt w4 (.slice (some ⟨b, ofs + f * 2, none⟩) (l.length - f) (q - f)) (l.drop f) := by
      have := (HRa.out _ HG4.out.below).rest f hfl hcap
      rwa [if_neg hqf] at this
    have HMV : Hid (∀ w', Below w.heap.size w w' → RunsAt w' (.slice (some ⟨b, ofs + f * 2, none⟩) c (q - f)) ((l.drop f).take c)) := fun w' hb => by
      have := (HRa.out _ hb).rest f hfl hcap
      rw [if_neg hqf] at this
      exact this.take c hcl
    have HV1 : Hid (∀ w', Below w.heap.size w w' → RunsAt w' (.slice (some ⟨b, ofs, none⟩) f q) (l.take f)) := fun w' hb => (HRa.out _ hb).take f hfl
    have HV3 : Hid (∀ w', Below w.heap.size w w' → RunsAt w' (.slice (if q = f + c then some ⟨b, ofs, none⟩ else some ⟨b, ofs + (f + c) * 2, none⟩) (l.length - (f + c)) (q - (f + c))) (l.drop (f + c))) := fun w' hb => by
      exact (HRa.out _ hb).rest (f + c) htl hcap
    have hMl : ((l.drop f).take c).length = c := by rw [List.length_take, List.length_drop]; omega
    have hAB : Hid ((l.take f).length + (l.drop (f + c)).length + 1 ≤ 1000000) := by show _ ≤ _; rw [List.length_take, List.length_drop]; omega
    go_wp2_with fail
    refine (HF2.out w4 _ _ HG4.out hR4).mono ?_
    rintro e w5 ⟨rfl, b5'⟩
    have HG5 : Gv w r w5 := HG4.out.next b5'
    have HG5 : Hid _ := HG5
    clear b5' HG4 HF2 hR4
    generalize (l.drop f).take c = M at *
    generalize l.take f = A at *
    generalize l.drop (f + c) = B at *
    go_wp2
    go_loopw [34] (fun iv wr => ∃ (j : Nat) (r' : Rn), j ≤ M.length ∧ iv = .int .i64 j ∧ Grown r (M.take j) r' ∧ Gv w r' wr) (fun iv _ => M.length - (intOf iv).toNat)
    case atStart => exact ⟨0, r, Nat.zero_le _, rfl, Grown.start HSt.out, HG5.out⟩
    case round =>
      obtain ⟨j, r', hj, rfl, hgr, HG⟩ := hrel
      by_cases hlt : j < M.length
      · obtain ⟨x, hx⟩ : ∃ x, M[j]? = some x := ⟨_, List.getElem?_eq_getElem hlt⟩
        have hlt2 : (j : Int) < (c : Int) := by omega
        obtain ⟨b', o', e, kk⟩ := (HMV.out wr HG.below).cells.2 j x hx
        simp at e
        obtain ⟨rfl, rfl⟩ := e
        obtain ⟨c1, c2⟩ := kk wr (Below.refl _ _)
        have hxo := oneB_iff.1 (chk_one HNear.out.chk x (List.mem_of_getElem? hx))
        have glo := hgr.lo
        have ghi := hgr.hi
        have gl1 := hgr.le1
        have gl2 := hgr.le2
        have HJ1 : Hid (x.e = r'.s → Grown r (M.take (j + 1)) ⟨x.s, x.c + r'.c⟩) := fun he => hgr.join1 HSt.out HNear.out hx he
        have HJ2 : Hid (x.s = r'.e → Grown r (M.take (j + 1)) ⟨r'.s, r'.c + x.c⟩) := fun he => hgr.join2 HSt.out HNear.out hx he
        have HJ3 : Hid (¬ x.e = r'.s → ¬ x.s = r'.e → giveT l r = none) := fun h1 h2 => HNone.out j x hx (hgr.meets HNear.out hx h1 h2)
        obtain ⟨w6, hw6⟩ : ∃ w6, (wr.alloc (.cells #[.int .i64 x.s, .int .i64 x.c] 24)) = w6 := ⟨_, rfl⟩
        obtain ⟨xb, hxb⟩ : ∃ xb, wr.heap.size = xb := ⟨_, rfl⟩
        have hbx : w6.heap[xb]? = some (.cells #[.int .i64 x.s, .int .i64 x.c] 24 (0, 0)) := by rw [← hw6, ← hxb]; exact heap_alloc_last wr _
        have HX : Gx w r' xb x w6 := ⟨by rw [← hw6]; exact HG.alloc _, hbx, by rw [← hxb]; exact HG.lt⟩
        have HX : Hid _ := HX
        have HEn : Hid (∀ w', Calls Try.prog 29 #[.agg #[.int .i64 x.s, .int .i64 x.c]] w' fun e w'' => e = .returned (.int .i64 (x.s + x.c)) ∧ Below w'.heap.size w' w'') := fun w' => end_any x w' (by omega)
        have HEr : Hid (∀ w', Calls Try.prog 29 #[.agg #[.int .i64 r'.s, .int .i64 r'.c]] w' fun e w'' => e = .returned (.int .i64 (r'.s + r'.c)) ∧ Below w'.heap.size w' w'') := fun w' => end_any r' w' (by unfold Rn.e at *; omega)
        have hfb : 0 ≤ r'.c ∧ r'.c ≤ 1099511627776 := by unfold Rn.e at *; omega
        have hwc : wrap64 (x.c + r'.c) = x.c + r'.c := by unfold wrap64; omega
        have hwd : wrap64 (r'.c + x.c) = r'.c + x.c := by unfold wrap64; omega
        clear hx hgr HG kk hbx gl1 gl2 hxo
        obtain ⟨xs, xc⟩ := x
        obtain ⟨gs, gc⟩ := r'
        unfold Rn.e at HJ1 HJ2 HJ3
        simp only at HJ1 HJ2 HJ3 HEn HEr hwc hwd hfb c1 c2 hw6 glo ghi
        by_cases h1 : xs + xc = gs
        · have HN : Hid _ := HJ1.out h1
          have e1 : (xs + xc == gs) = true := by simpa using h1
          clear HJ1 HJ2 HJ3 h1
          go_upto_region 9 with fail
          refine wp_region_held (S := Gx w ⟨gs, gc⟩ xb ⟨xs, xc⟩) (by kernel_rfl) ?_
          change wpAnyH _ _ _ _ _ _ _ _ (World.drew _)
          have HX := HX.out.drew
          generalize World.drew _ = w7 at *
          refine wpAnyH_take (i := 0) (v := .agg #[.int .i64 xs, .int .i64 xc]) rfl (by kernel_rfl) (by kernel_rfl) (by kernel_rfl) (fun _ _ _ h => h) (Or.inl ⟨by rfl, by intro w4 hw; have hc := hw.x0; have hd := hw.x1; go_simp⟩) HX ?_
          simp only [List.getElem_toArray, List.getElem_cons_succ, List.getElem_cons_zero, Act.put, List.setIfInBounds_toArray, List.set_cons_zero, List.set_cons_succ]
          refine wpAnyH_take (i := 2) (v := .pointer (some ⟨w.heap.size, 0, none⟩)) rfl (by kernel_rfl) (by kernel_rfl) (by kernel_rfl) (fun _ _ _ h => h) (Or.inl ⟨by rfl, by intro w _; go_simp⟩) HX ?_
          simp only [List.getElem_toArray, List.getElem_cons_succ, List.getElem_cons_zero, Act.put, List.setIfInBounds_toArray, List.set_cons_zero, List.set_cons_succ]
          refine wpAnyH_take (i := 3) (v := .int .i64 gs) rfl (by kernel_rfl) (by kernel_rfl) (by kernel_rfl) (fun _ _ _ h => h) (Or.inl ⟨by rfl, by intro w4 hw; have hc := hw.gv.r0; go_simp⟩) HX ?_
          simp only [List.getElem_toArray, List.getElem_cons_succ, List.getElem_cons_zero, Act.put, List.setIfInBounds_toArray, List.set_cons_zero, List.set_cons_succ]
          refine wpAnyH_ready (rs := [1]) (by kernel_rfl) (by simp) (AllReadyH.cons (by simp only [List.getElem?_toArray, List.getElem?_cons_succ, List.getElem?_cons_zero]; rfl) (fun K hK => ?_) AllReadyH.nil)
          refine step_plain rfl ?_
          go_simp
          refine (HEn.out _).mono ?_
          rintro e w8 ⟨rfl, b8⟩
          have HX := HX.next b8
          clear b8
          refine hK.out _ _ HX (fun _ => ?_)
          clear hK K
          try simp only [List.getElem_toArray, List.getElem_cons_succ, List.getElem_cons_zero, Act.put, List.setIfInBounds_toArray, List.set_cons_zero, List.set_cons_succ]
          refine wpAnyH_take (i := 4) (v := .bool true) rfl (by kernel_rfl) (by kernel_rfl) (by kernel_rfl) (fun _ _ _ h => h) (Or.inl ⟨by rfl, by intro w4 _; go_simp⟩) HX ?_
          simp only [List.getElem_toArray, List.getElem_cons_succ, List.getElem_cons_zero, Act.put, List.setIfInBounds_toArray, List.set_cons_zero, List.set_cons_succ]
          refine wpAnyH_take (i := 5) (v := .bool true) rfl (by kernel_rfl) (by kernel_rfl) (by kernel_rfl) (fun _ _ _ h => h) (Or.inl ⟨by rfl, by intro w _; go_simp⟩) HX ?_
          simp only [List.getElem_toArray, List.getElem_cons_succ, List.getElem_cons_zero, Act.put, List.setIfInBounds_toArray, List.set_cons_zero, List.set_cons_succ]
          refine wpAnyH_done (by kernel_rfl) ?_ _
          have d0 := HX.x0
          have d1 := HX.x1
          have f0 := HX.gv.r0
          have f1 := HX.gv.r1
          have hgr := HX.gv.cr
          have ffr : _ = false := frozen_of_row _ _ 1 _ _ hgr
          have HT : Hid _ := HX.gv.turn xs (xc + gc)
          clear HX hw6 HEn HEr e1
          go_wp2_with (refine wpList_store_row rfl 24 (.tmp 3) _ rfl w.heap.size #[.int .i64 xs, .int .i64 (xc + gc)] rfl rfl _ _ hgr (run_size _ _) rfl (run_one _ _) ?_)
          go_roundw
          case rel => exact ⟨j + 1, _, (by omega), (by go_num), HN.out, HT.out⟩
          case measure => simp [intOf]; omega
        have e1 : (xs + xc == gs) = false := by simpa using h1
        go_upto_region 9 with fail
        refine wp_region_held (S := Gx w ⟨gs, gc⟩ xb ⟨xs, xc⟩) (by kernel_rfl) ?_
        change wpAnyH _ _ _ _ _ _ _ _ (World.drew _)
        have HX := HX.out.drew
        generalize World.drew _ = w7 at *
        refine wpAnyH_take (i := 0) (v := .agg #[.int .i64 xs, .int .i64 xc]) rfl (by kernel_rfl) (by kernel_rfl) (by kernel_rfl) (fun _ _ _ h => h) (Or.inl ⟨by rfl, by intro w4 hw; have hc := hw.x0; have hd := hw.x1; go_simp⟩) HX ?_
        simp only [List.getElem_toArray, List.getElem_cons_succ, List.getElem_cons_zero, Act.put, List.setIfInBounds_toArray, List.set_cons_zero, List.set_cons_succ]
        refine wpAnyH_take (i := 2) (v := .pointer (some ⟨w.heap.size, 0, none⟩)) rfl (by kernel_rfl) (by kernel_rfl) (by kernel_rfl) (fun _ _ _ h => h) (Or.inl ⟨by rfl, by intro w _; go_simp⟩) HX ?_
        simp only [List.getElem_toArray, List.getElem_cons_succ, List.getElem_cons_zero, Act.put, List.setIfInBounds_toArray, List.set_cons_zero, List.set_cons_succ]
        refine wpAnyH_take (i := 3) (v := .int .i64 gs) rfl (by kernel_rfl) (by kernel_rfl) (by kernel_rfl) (fun _ _ _ h => h) (Or.inl ⟨by rfl, by intro w4 hw; have hc := hw.gv.r0; go_simp⟩) HX ?_
        simp only [List.getElem_toArray, List.getElem_cons_succ, List.getElem_cons_zero, Act.put, List.setIfInBounds_toArray, List.set_cons_zero, List.set_cons_succ]
        refine wpAnyH_ready (rs := [1]) (by kernel_rfl) (by simp) (AllReadyH.cons (by simp only [List.getElem?_toArray, List.getElem?_cons_succ, List.getElem?_cons_zero]; rfl) (fun K hK => ?_) AllReadyH.nil)
        refine step_plain rfl ?_
        go_simp
        refine (HEn.out _).mono ?_
        rintro e w8 ⟨rfl, b8⟩
        have HX := HX.next b8
        clear b8
        refine hK.out _ _ HX (fun _ => ?_)
        clear hK K
        try simp only [List.getElem_toArray, List.getElem_cons_succ, List.getElem_cons_zero, Act.put, List.setIfInBounds_toArray, List.set_cons_zero, List.set_cons_succ]
        refine wpAnyH_take (i := 4) (v := .bool false) rfl (by kernel_rfl) (by kernel_rfl) (by kernel_rfl) (fun _ _ _ h => h) (Or.inl ⟨by rfl, by intro w4 _; go_simp⟩) HX ?_
        simp only [List.getElem_toArray, List.getElem_cons_succ, List.getElem_cons_zero, Act.put, List.setIfInBounds_toArray, List.set_cons_zero, List.set_cons_succ]
        refine wpAnyH_take (i := 5) (v := .bool false) rfl (by kernel_rfl) (by kernel_rfl) (by kernel_rfl) (fun _ _ _ h => h) (Or.inl ⟨by rfl, by intro w _; go_simp⟩) HX ?_
        simp only [List.getElem_toArray, List.getElem_cons_succ, List.getElem_cons_zero, Act.put, List.setIfInBounds_toArray, List.set_cons_zero, List.set_cons_succ]
        refine wpAnyH_done (by kernel_rfl) ?_ _
        by_cases h2 : xs = gs + gc
        · have HN : Hid _ := HJ2.out h2
          have e2 : (xs == gs + gc) = true := by simpa using h2
          clear HJ1 HJ2 HJ3 h1 h2
          go_upto_region 11 with fail
          refine wp_region_held (S := Gx w ⟨gs, gc⟩ xb ⟨xs, xc⟩) (by kernel_rfl) ?_
          change wpAnyH _ _ _ _ _ _ _ _ (World.drew _)
          have HX := HX.drew
          generalize World.drew _ = w9 at *
          refine wpAnyH_take (i := 0) (v := .pointer (some ⟨xb, 0, none⟩)) rfl (by kernel_rfl) (by kernel_rfl) (by kernel_rfl) (fun _ _ _ h => h) (Or.inl ⟨by rfl, by intro w _; go_simp⟩) HX ?_
          simp only [List.getElem_toArray, List.getElem_cons_succ, List.getElem_cons_zero, Act.put, List.setIfInBounds_toArray, List.set_cons_zero, List.set_cons_succ]
          refine wpAnyH_take (i := 1) (v := .int .i64 xs) rfl (by kernel_rfl) (by kernel_rfl) (by kernel_rfl) (fun _ _ _ h => h) (Or.inl ⟨by rfl, by intro w4 hw; have hc := hw.x0; go_simp⟩) HX ?_
          simp only [List.getElem_toArray, List.getElem_cons_succ, List.getElem_cons_zero, Act.put, List.setIfInBounds_toArray, List.set_cons_zero, List.set_cons_succ]
          refine wpAnyH_take (i := 2) (v := .agg #[.int .i64 gs, .int .i64 gc]) rfl (by kernel_rfl) (by kernel_rfl) (by kernel_rfl) (fun _ _ _ h => h) (Or.inl ⟨by rfl, by intro w4 hw; have hc := hw.gv.r0; have hd := hw.gv.r1; go_simp⟩) HX ?_
          simp only [List.getElem_toArray, List.getElem_cons_succ, List.getElem_cons_zero, Act.put, List.setIfInBounds_toArray, List.set_cons_zero, List.set_cons_succ]
          refine wpAnyH_ready (rs := [3]) (by kernel_rfl) (by simp) (AllReadyH.cons (by simp only [List.getElem?_toArray, List.getElem?_cons_succ, List.getElem?_cons_zero]; rfl) (fun K hK => ?_) AllReadyH.nil)
          refine step_plain rfl ?_
          go_simp
          refine (HEr.out _).mono ?_
          rintro e wa ⟨rfl, ba⟩
          have HX := HX.next ba
          clear ba
          refine hK.out _ _ HX (fun _ => ?_)
          clear hK K
          try simp only [List.getElem_toArray, List.getElem_cons_succ, List.getElem_cons_zero, Act.put, List.setIfInBounds_toArray, List.set_cons_zero, List.set_cons_succ]
          refine wpAnyH_take (i := 4) (v := .bool true) rfl (by kernel_rfl) (by kernel_rfl) (by kernel_rfl) (fun _ _ _ h => h) (Or.inl ⟨by rfl, by intro w4 _; go_simp⟩) HX ?_
          simp only [List.getElem_toArray, List.getElem_cons_succ, List.getElem_cons_zero, Act.put, List.setIfInBounds_toArray, List.set_cons_zero, List.set_cons_succ]
          refine wpAnyH_take (i := 5) (v := .bool true) rfl (by kernel_rfl) (by kernel_rfl) (by kernel_rfl) (fun _ _ _ h => h) (Or.inl ⟨by rfl, by intro w _; go_simp⟩) HX ?_
          simp only [List.getElem_toArray, List.getElem_cons_succ, List.getElem_cons_zero, Act.put, List.setIfInBounds_toArray, List.set_cons_zero, List.set_cons_succ]
          refine wpAnyH_done (by kernel_rfl) ?_ _
          have d0 := HX.x0
          have d1 := HX.x1
          have f0 := HX.gv.r0
          have f1 := HX.gv.r1
          have hgr := HX.gv.cr
          have ffr : _ = false := frozen_of_row _ _ 1 _ _ hgr
          have HT : Hid _ := HX.gv.turnC (gc + xc)
          clear HX hw6 HEn HEr e1 e2
          go_wp2
          go_roundw
          case rel => exact ⟨j + 1, _, (by omega), (by go_num), HN.out, HT.out⟩
          case measure => simp [intOf]; omega
        · have hT : Hid (giveT l r = none) := HJ3.out h1 h2
          have e2 : (xs == gs + gc) = false := by simpa using h2
          clear HJ1 HJ2 HJ3 h1 h2
          go_upto_region 11 with fail
          refine wp_region_held (S := Gx w ⟨gs, gc⟩ xb ⟨xs, xc⟩) (by kernel_rfl) ?_
          change wpAnyH _ _ _ _ _ _ _ _ (World.drew _)
          have HX := HX.drew
          generalize World.drew _ = w9 at *
          refine wpAnyH_take (i := 0) (v := .pointer (some ⟨xb, 0, none⟩)) rfl (by kernel_rfl) (by kernel_rfl) (by kernel_rfl) (fun _ _ _ h => h) (Or.inl ⟨by rfl, by intro w _; go_simp⟩) HX ?_
          simp only [List.getElem_toArray, List.getElem_cons_succ, List.getElem_cons_zero, Act.put, List.setIfInBounds_toArray, List.set_cons_zero, List.set_cons_succ]
          refine wpAnyH_take (i := 1) (v := .int .i64 xs) rfl (by kernel_rfl) (by kernel_rfl) (by kernel_rfl) (fun _ _ _ h => h) (Or.inl ⟨by rfl, by intro w4 hw; have hc := hw.x0; go_simp⟩) HX ?_
          simp only [List.getElem_toArray, List.getElem_cons_succ, List.getElem_cons_zero, Act.put, List.setIfInBounds_toArray, List.set_cons_zero, List.set_cons_succ]
          refine wpAnyH_take (i := 2) (v := .agg #[.int .i64 gs, .int .i64 gc]) rfl (by kernel_rfl) (by kernel_rfl) (by kernel_rfl) (fun _ _ _ h => h) (Or.inl ⟨by rfl, by intro w4 hw; have hc := hw.gv.r0; have hd := hw.gv.r1; go_simp⟩) HX ?_
          simp only [List.getElem_toArray, List.getElem_cons_succ, List.getElem_cons_zero, Act.put, List.setIfInBounds_toArray, List.set_cons_zero, List.set_cons_succ]
          refine wpAnyH_ready (rs := [3]) (by kernel_rfl) (by simp) (AllReadyH.cons (by simp only [List.getElem?_toArray, List.getElem?_cons_succ, List.getElem?_cons_zero]; rfl) (fun K hK => ?_) AllReadyH.nil)
          refine step_plain rfl ?_
          go_simp
          refine (HEr.out _).mono ?_
          rintro e wa ⟨rfl, ba⟩
          have HX := HX.next ba
          clear ba
          refine hK.out _ _ HX (fun _ => ?_)
          clear hK K
          try simp only [List.getElem_toArray, List.getElem_cons_succ, List.getElem_cons_zero, Act.put, List.setIfInBounds_toArray, List.set_cons_zero, List.set_cons_succ]
          refine wpAnyH_take (i := 4) (v := .bool false) rfl (by kernel_rfl) (by kernel_rfl) (by kernel_rfl) (fun _ _ _ h => h) (Or.inl ⟨by rfl, by intro w4 _; go_simp⟩) HX ?_
          simp only [List.getElem_toArray, List.getElem_cons_succ, List.getElem_cons_zero, Act.put, List.setIfInBounds_toArray, List.set_cons_zero, List.set_cons_succ]
          refine wpAnyH_take (i := 5) (v := .bool false) rfl (by kernel_rfl) (by kernel_rfl) (by kernel_rfl) (fun _ _ _ h => h) (Or.inl ⟨by rfl, by intro w _; go_simp⟩) HX ?_
          simp only [List.getElem_toArray, List.getElem_cons_succ, List.getElem_cons_zero, Act.put, List.setIfInBounds_toArray, List.set_cons_zero, List.set_cons_succ]
          refine wpAnyH_done (by kernel_rfl) ?_ _
          have HB : Hid _ := HX.gv.below
          clear HX hw6 HEn HEr e1 e2
          go_wp2
          go_ret2
          rw [hT.out]
          exact ⟨rfl, HB.out⟩
      obtain rfl : j = M.length := by omega
      have hlt2 : ¬ ((M.length : Nat) : Int) < (c : Int) := by omega
      rw [List.take_of_length_le (Nat.le_refl _)] at hgr
      have hT : Hid (giveT l r = some (A ++ ([r'] ++ B))) := HSome.out r' hgr
      clear hgr HSome HSt
      obtain ⟨gs, gc⟩ := r'
      have HG : Hid _ := HG
      go_upto_region 14 with fail
      refine wp_region_held (S := Gv w ⟨gs, gc⟩) (by kernel_rfl) ?_
      change wpAnyH _ _ _ _ _ _ _ _ (World.drew _)
      have HY := HG.out.drew
      generalize World.drew _ = wA at *
      refine wpAnyH_take (i := 0) (v := .slice (some ⟨b, ofs, none⟩) l.length q) rfl (by kernel_rfl) (by kernel_rfl) (by kernel_rfl) (fun _ _ _ h => h) (Or.inl ⟨by rfl, by intro w _; go_simp⟩) HY ?_
      simp only [List.getElem_toArray, List.getElem_cons_succ, List.getElem_cons_zero, Act.put, List.setIfInBounds_toArray, List.set_cons_zero, List.set_cons_succ]
      refine wpAnyH_take (i := 1) (v := .int .i64 f) rfl (by kernel_rfl) (by kernel_rfl) (by kernel_rfl) (fun _ _ _ h => h) (Or.inl ⟨by rfl, by intro w _; go_simp⟩) HY ?_
      simp only [List.getElem_toArray, List.getElem_cons_succ, List.getElem_cons_zero, Act.put, List.setIfInBounds_toArray, List.set_cons_zero, List.set_cons_succ]
      refine wpAnyH_take (i := 2) (v := .slice (some ⟨b, ofs, none⟩) f q) rfl (by kernel_rfl) (by kernel_rfl) (by kernel_rfl) (fun _ _ _ h => h) (Or.inl ⟨by rfl, by intro w _; go_simp⟩) HY ?_
      simp only [List.getElem_toArray, List.getElem_cons_succ, List.getElem_cons_zero, Act.put, List.setIfInBounds_toArray, List.set_cons_zero, List.set_cons_succ]
      refine wpAnyH_take (i := 3) (v := .agg #[.int .i64 gs, .int .i64 gc]) rfl (by kernel_rfl) (by kernel_rfl) (by kernel_rfl) (fun _ _ _ h => h) (Or.inl ⟨by rfl, by intro w4 hw; have hc := hw.r0; have hd := hw.r1; go_simp⟩) HY ?_
      simp only [List.getElem_toArray, List.getElem_cons_succ, List.getElem_cons_zero, Act.put, List.setIfInBounds_toArray, List.set_cons_zero, List.set_cons_succ]
      refine wpAnyH_take (i := 5) (v := .slice (some ⟨b, ofs, none⟩) l.length q) rfl (by kernel_rfl) (by kernel_rfl) (by kernel_rfl) (fun _ _ _ h => h) (Or.inl ⟨by rfl, by intro w _; go_simp⟩) HY ?_
      simp only [List.getElem_toArray, List.getElem_cons_succ, List.getElem_cons_zero, Act.put, List.setIfInBounds_toArray, List.set_cons_zero, List.set_cons_succ]
      refine wpAnyH_take (i := 6) (v := .int .i64 ((f : Int) + (c : Int))) rfl (by kernel_rfl) (by kernel_rfl) (by kernel_rfl) (fun _ _ _ h => h) (Or.inl ⟨by rfl, by intro w _; go_simp⟩) HY ?_
      simp only [List.getElem_toArray, List.getElem_cons_succ, List.getElem_cons_zero, Act.put, List.setIfInBounds_toArray, List.set_cons_zero, List.set_cons_succ]
      refine wpAnyH_take (i := 7) (v := .slice (if q = f + c then some ⟨b, ofs, none⟩ else some ⟨b, ofs + (f + c) * 2, none⟩) (l.length - (f + c)) (q - (f + c))) rfl (by kernel_rfl) (by kernel_rfl) (by kernel_rfl) (fun _ _ _ h => h) (Or.inl ⟨by rfl, by intro w _; go_simp⟩) HY ?_
      simp only [List.getElem_toArray, List.getElem_cons_succ, List.getElem_cons_zero, Act.put, List.setIfInBounds_toArray, List.set_cons_zero, List.set_cons_succ]
      refine wpAnyH_ready (rs := [4]) (by kernel_rfl) (by simp) (AllReadyH.cons (by simp only [List.getElem?_toArray, List.getElem?_cons_succ, List.getElem?_cons_zero]; rfl) (fun K hK => ?_) AllReadyH.nil)
      refine step_plain rfl ?_
      go_simp
      have hmd := RunsAt.made wA gs gc
      have HY := HY.alloc (.cells #[.int .i64 gs, .int .i64 gc] 24)
      refine hK.out _ _ HY (fun _ => ?_)
      clear hK K
      try simp only [List.getElem_toArray, List.getElem_cons_succ, List.getElem_cons_zero, Act.put, List.setIfInBounds_toArray, List.set_cons_zero, List.set_cons_succ]
      generalize wA.alloc (.cells #[.int .i64 gs, .int .i64 gc] 24) = wB at *
      generalize wA.heap.size = rg at *
      refine wpAnyH_ready (rs := [8]) (by kernel_rfl) (by simp) (AllReadyH.cons (by simp only [List.getElem?_toArray, List.getElem?_cons_succ, List.getElem?_cons_zero]; rfl) (fun K hK => ?_) AllReadyH.nil)
      refine step_plain rfl ?_
      go_simp
      have hgB := heap_alloc_last wB (.cells #[.slice (some ⟨b, ofs, none⟩) f q, .slice (some ⟨rg, 0, none⟩) 1 1, .slice (if q = f + c then some ⟨b, ofs, none⟩ else some ⟨b, ofs + (f + c) * 2, none⟩) (l.length - (f + c)) (q - (f + c))] 22)
      have HY := HY.alloc (.cells #[.slice (some ⟨b, ofs, none⟩) f q, .slice (some ⟨rg, 0, none⟩) 1 1, .slice (if q = f + c then some ⟨b, ofs, none⟩ else some ⟨b, ofs + (f + c) * 2, none⟩) (l.length - (f + c)) (q - (f + c))] 22)
      have hmd := hmd.below ((Below.refl _ _).alloc (Nat.le_refl _) (.cells #[.slice (some ⟨b, ofs, none⟩) f q, .slice (some ⟨rg, 0, none⟩) 1 1, .slice (if q = f + c then some ⟨b, ofs, none⟩ else some ⟨b, ofs + (f + c) * 2, none⟩) (l.length - (f + c)) (q - (f + c))] 22))
      refine hK.out _ _ HY (fun _ => ?_)
      clear hK K
      try simp only [List.getElem_toArray, List.getElem_cons_succ, List.getElem_cons_zero, Act.put, List.setIfInBounds_toArray, List.set_cons_zero, List.set_cons_succ]
      generalize wB.alloc (.cells #[.slice (some ⟨b, ofs, none⟩) f q, .slice (some ⟨rg, 0, none⟩) 1 1, .slice (if q = f + c then some ⟨b, ofs, none⟩ else some ⟨b, ofs + (f + c) * 2, none⟩) (l.length - (f + c)) (q - (f + c))] 22) = wC at *
      generalize wB.heap.size = bb at *
      have hR1 := HV1.out wC HY.below
      have hR2 := HV3.out wC HY.below
      have hAll : allR ([((.slice (some ⟨b, ofs, none⟩) f q : Value), (A : List Rn)), ((.slice (some ⟨rg, 0, none⟩) 1 1 : Value), ([⟨gs, gc⟩] : List Rn)), ((.slice (if q = f + c then some ⟨b, ofs, none⟩ else some ⟨b, ofs + (f + c) * 2, none⟩) (l.length - (f + c)) (q - (f + c)) : Value), (B : List Rn))] : List (Value × List Rn)) = A ++ ([(⟨gs, gc⟩ : Rn)] ++ B) := by simp [allR]
      have hCc : Calls Try.prog 27 #[.slice (some ⟨bb, 0, none⟩) 3 3] wC fun e w' => ∃ a c, e = .returned (.slice a (A ++ ([(⟨gs, gc⟩ : Rn)] ++ B)).length c) ∧ w'.ownsRow wC.heap.size 24 2 (.slice a (A ++ ([(⟨gs, gc⟩ : Rn)] ++ B)).length c) (A ++ ([(⟨gs, gc⟩ : Rn)] ++ B)).length (rsv (A ++ ([(⟨gs, gc⟩ : Rn)] ++ B))) ∧ Below wC.heap.size wC w' := by
        have := concat_any (w := wC) (b := bb) (c := 3) (ts := [((.slice (some ⟨b, ofs, none⟩) f q : Value), (A : List Rn)), ((.slice (some ⟨rg, 0, none⟩) 1 1 : Value), ([⟨gs, gc⟩] : List Rn)), ((.slice (if q = f + c then some ⟨b, ofs, none⟩ else some ⟨b, ofs + (f + c) * 2, none⟩) (l.length - (f + c)) (q - (f + c)) : Value), (B : List Rn))]) (fun i v' l' hi => ?_) (by simp) (by rw [hAll]; have := hAB.out; simp only [List.length_append, List.length_cons, List.length_nil]; omega)
        · rw [hAll] at this; exact this
        · rw [cell_of_row _ _ _ _ _ _ hgB]
          match i, hi with
          | 0, hi => obtain ⟨rfl, rfl⟩ := Prod.mk.inj (Option.some.inj hi); exact ⟨rfl, hR1⟩
          | 1, hi => obtain ⟨rfl, rfl⟩ := Prod.mk.inj (Option.some.inj hi); exact ⟨rfl, hmd⟩
          | 2, hi => obtain ⟨rfl, rfl⟩ := Prod.mk.inj (Option.some.inj hi); exact ⟨rfl, hR2⟩
          | i + 3, hi => simp at hi
      clear hR1 hR2 hgB hmd hAll HG
      generalize hRes : (A ++ ([(⟨gs, gc⟩ : Rn)] ++ B) : List Rn) = R at *
      refine wpAnyH_ready (rs := [9]) (by kernel_rfl) (by simp) (AllReadyH.cons (by simp only [List.getElem?_toArray, List.getElem?_cons_succ, List.getElem?_cons_zero]; rfl) (fun K hK => ?_) AllReadyH.nil)
      refine step_plain rfl ?_
      go_simp
      refine hCc.mono ?_
      rintro e wD ⟨za, zc, rfl, ho, bD⟩
      have hwC : w.heap.size ≤ wC.heap.size := HY.below.size
      have HY := HY.next bD
      clear hCc bD
      refine hK.out _ _ HY (fun _ => ?_)
      clear hK K
      try simp only [List.getElem_toArray, List.getElem_cons_succ, List.getElem_cons_zero, Act.put, List.setIfInBounds_toArray, List.set_cons_zero, List.set_cons_succ]
      refine wpAnyH_take (i := 10) (v := .slice za R.length zc) rfl (by kernel_rfl) (by kernel_rfl) (by kernel_rfl) (fun _ _ _ h => h) (Or.inl ⟨by rfl, by intro w _; go_simp⟩) HY ?_
      simp only [List.getElem_toArray, List.getElem_cons_succ, List.getElem_cons_zero, Act.put, List.setIfInBounds_toArray, List.set_cons_zero, List.set_cons_succ]
      refine wpAnyH_take (i := 11) (v := .bool true) rfl (by kernel_rfl) (by kernel_rfl) (by kernel_rfl) (fun _ _ _ h => h) (Or.inl ⟨by rfl, by intro w _; go_simp⟩) HY ?_
      simp only [List.getElem_toArray, List.getElem_cons_succ, List.getElem_cons_zero, Act.put, List.setIfInBounds_toArray, List.set_cons_zero, List.set_cons_succ]
      refine wpAnyH_done (by kernel_rfl) ?_ _
      have HF : Hid (GiveSays w w.heap.size (some R) (.returned (.tuple #[.slice za R.length zc, .bool true])) wD) := ⟨za, zc, rfl, owns_lower ho hwC, HY.below⟩
      have hT2 : Hid (giveT l r = some R) := by show _ = _; exact hT.out
      clear HY ho hRes
      go_wp2
      all_goals go_ret2
      all_goals
        rw [hT2.out]
        exact HF.out
end Go.Proofs.Ytbnfhhjgalphgaa
