/- Contracts of a device's Fail, and of a list of numbers that is cloned. -/
import Derived.Test.YthlaackalmgfnaaDk
namespace Go.Proofs.Ythlaackalmgfnaa
open Go.RowKit

theorem info_int : ∃ i, Try.prog.info? 3 = some i ∧ i.zero = some (.int .i64 0) ∧ i.size = 1 ∧ i.bytes = 8 := by
  have h : (Try.prog.info? 3).map (fun i => (i.zero, i.size, i.bytes)) = some (some (.int .i64 0), 1, 8) := by kernel_rfl
  cases hq : Try.prog.info? 3 with
  | none => rw [hq] at h; cases h
  | some i =>
    rw [hq] at h
    simp at h
    exact ⟨i, rfl, h.1, h.2.1, h.2.2⟩
theorem ints_of_owns {w : World} {B : Nat} {v : Value} {k : List Int} (h : w.ownsRow B 3 1 v k.length (k.map (Value.int .i64))) : IntsAt w v k ∧ ∀ i, v.ownBlock = some i → B ≤ i ∧ i < w.heap.size := by
  refine ⟨?_, fun i hi => World.ownsRow.lt h i hi⟩
  rcases h.2 with ⟨h1, h2⟩ | ⟨g, cap, cur, h1, _, hg, _, _, _, htk⟩
  · refine ⟨none, 0, by rw [h1, h2], fun i n hi => ?_⟩
    have := (List.getElem?_eq_some_iff.1 hi).1
    omega
  · refine ⟨_, _, h1, fun i n hi => ⟨g, 0, rfl, ?_⟩⟩
    have hl := (List.getElem?_eq_some_iff.1 hi).1
    have e : (k.map (Value.int .i64))[i]? = some (.int .i64 n) := by rw [List.getElem?_map, hi]; rfl
    rw [cell_of_row _ _ _ _ _ _ hg, Nat.zero_add, ← Array.getElem?_toList]
    rw [← htk, List.getElem?_take] at e
    simpa [hl] using e
theorem nil_ints (a : Option Addr) (n c : Nat) (w : World) : (binOp .eql 31 (.slice a n c) (.slice none 0 0)).run Try.prog w = .ok (.bool a.isNone) w := by
  cases a <;> kernel_rfl
set_option maxRecDepth 100000 in
theorem clone_ints {w : World} {kq : Value} {k : List Int} (hk : IntsAt w kq k) (hl : k.length ≤ 1000000) :
    Calls Try.prog 59 #[kq] w fun e w' => ∃ v, e = .returned v ∧ IntsAt w' v k ∧ (∀ i, v.ownBlock = some i → w.heap.size ≤ i ∧ i < w'.heap.size) ∧ Below w.heap.size w w' := by
  obtain ⟨ka, kc, rfl, hk⟩ := hk
  cases ka with
  | none =>
    have hk0 : k = [] := by
      cases k with
      | nil => rfl
      | cons x k => obtain ⟨_, _, h, _⟩ := hk 0 x rfl; cases h
    subst hk0
    have hq := nil_ints none 0 kc
    simp only [Option.isNone_none] at hq
    go_enter Try.func59, Try.ntmps59
    go_wp2
    go_ret
    exact ⟨_, rfl, ⟨none, 0, rfl, fun i n hi => by simp at hi⟩, fun i hi => by simp [Value.ownBlock] at hi, Below.refl _ _⟩
  | some ad =>
    obtain ⟨ia, i1, i2, i3, i4⟩ := info_int
    have HIA : Hid (Try.prog.info? 3 = some ia ∧ ia.zero = some (.int .i64 0) ∧ ia.size = 1 ∧ ia.bytes = 8) := ⟨i1, i2, i3, i4⟩
    have HN : Hid (∀ j u, (k.map (Value.int .i64))[j]? = some u → (w.alloc (.cells #[] 3)).cell? (ad.add j) = some u) := fun j u hj => by
      rw [List.getElem?_map] at hj
      cases hkj : k[j]? with
      | none => rw [hkj] at hj; cases hj
      | some n =>
        rw [hkj] at hj
        obtain ⟨b, o, e, hc⟩ := hk j n hkj
        obtain rfl : ad = ⟨b, o, none⟩ := by simpa using e
        obtain rfl : Value.int .i64 n = u := by simpa using hj
        rw [Addr.add_mid, World.cell?_alloc_some _ _ _ (by rw [hc]; rfl)]
        exact hc
    have HO : Hid ((w.alloc (.cells #[] 3)).ownsRow w.heap.size 3 1 (.slice (some ⟨w.heap.size, 0, none⟩) 0 0) 0 []) := World.ownsRow_made w #[] 0 (Nat.le_refl _) (by simp [maxLen]) (by simp)
    have HL : Hid (k.length ≤ 1000000) := hl
    have HM : Hid ((k.map (Value.int .i64)).length = k.length * 1) := by show _ = _; simp
    have H1 : Hid (∀ u ∈ k.map (Value.int .i64), u.oneCell' = true) := fun u hu => by
      simp only [List.mem_map] at hu
      obtain ⟨x, _, rfl⟩ := hu
      rfl
    clear i1 i2 i3 i4 hk hl
    have hq := nil_ints (some ad) k.length kc
    simp only [Option.isNone_some] at hq
    go_enter Try.func59, Try.ntmps59
    go_wp2_with (refine wpList_append_own _ rfl _ _ 31 rfl w.heap.size 3 ia (.int .i64 0) 1 8 Try.underlying31 HIA.out.1 HIA.out.2.1 HIA.out.2.2.1 HIA.out.2.2.2 rfl (by omega) (.slice (some ⟨w.heap.size, 0, none⟩) 0 0) 0 [] rfl HO.out ad k.length kc (k.map (Value.int .i64)) rfl HM.out HN.out H1.out (by have := HL.out; simp only [maxLen]; omega) (by have := HL.out; omega) (by simp) ?_; intro v' w1 r1 r2 r3; have HR : Hid (w1.ownsRow w.heap.size 3 1 v' k.length (k.map (Value.int .i64)) ∧ Below w.heap.size w w1) := ⟨by simpa using r1, ((Below.refl w.heap.size w).alloc (Nat.le_refl _) _).grown r2 (by simp) (fun k hk => by simp [Value.ownBlock] at hk; omega)⟩; clear r1 r2 r3)
    go_ret
    exact ⟨_, rfl, (ints_of_owns HR.out.1).1, (ints_of_owns HR.out.1).2, HR.out.2⟩
theorem DevAt.setFail {w w1 : World} {p : Nat} {d : Dv} {O : Nat → Prop} {a b ca cb : Nat} {cv fv kv v : Value} (h : DevAt w p d O a b ca cb cv fv kv) (hb : Below w.heap.size w w1) {k : List Int} (n : Nat) (hn : n < 9223372036854775808) (hk : IntsAt w1 v k) (hv : ∀ i, v.ownBlock = some i → w.heap.size ≤ i ∧ i < w1.heap.size) (W : World) (hW : W = (w1.alloc (.cells #[.int .i64 (n : Int), v] 98)).setCell ⟨p, 5, none⟩ (.pointer (some ⟨w1.heap.size, 0, none⟩))) :
    DevAt W p { d with fail := some (n, k) } (grow O w W) a b ca cb cv (.pointer (some ⟨w1.heap.size, 0, none⟩)) v ∧ Turn O w W := by
  obtain ⟨n1, n2, n3, n4, n5, n6⟩ := nodup_mem h.nodup
  have hs := hb.size
  have hp := h.own p (by simp [blocks])
  have hsz : W.heap.size = w1.heap.size + 1 := by rw [hW, heap_set_size]; simp
  have old : ∀ k, k < w1.heap.size → k ≠ p → W.heap[k]? = w1.heap[k]? := fun k hk hkp => by
    rw [hW, Below.heap_setCell _ _ _ _ hkp, Below.heap_alloc _ _ _ hk]
  have olds : ∀ k, k < w.heap.size → k ≠ p → W.heap[k]? = w.heap[k]? := fun k hk hkp => by
    rw [old k (by omega) hkp, hb.block k hk]
  have cvl : ∀ k, cv.ownBlock = some k → k < w.heap.size := fun k hk => (h.own k (by simp [blocks, hk])).2
  have vne : ∀ k, v.ownBlock = some k → k ≠ p ∧ k ≠ a ∧ k ≠ b := fun k hk => by
    have h1 := hv k hk
    have h2 := (h.own a (by simp [blocks])).2
    have h3 := (h.own b (by simp [blocks])).2
    exact ⟨by omega, by omega, by omega⟩
  refine ⟨{ h with cells := ?_, sure := h.sure.same (olds a (h.own a (by simp [blocks])).2 n1.symm), told := h.told.same (olds b (h.own b (by simp [blocks])).2 n2.symm), acts := owns_same h.acts fun k hk => olds k (cvl k hk) (n4 k hk).1, fail := ?_, left := ?_, nodup := ?_, own := ?_ }, ?_⟩
  · have e : (w1.alloc (.cells #[.int .i64 (n : Int), v] 98)).heap[p]? = some _ := (Below.heap_alloc _ _ _ (by omega)).trans ((hb.block p hp.2).trans h.cells)
    rw [hW, heap_set_same e]; rfl
  · refine ⟨w1.heap.size, rfl, ?_, hk.same fun k hk => old k (hv k hk).2 (vne k hk).1⟩
    rw [hW, Below.heap_setCell _ _ _ _ (by show _ ≠ p; omega)]
    exact heap_alloc_last _ _
  · intro n' k' e
    simp at e
    omega
  · have h2 := (h.own a (by simp [blocks])).2
    have h3 := (h.own b (by simp [blocks])).2
    simp only [blocks, ptrB, List.nodup_cons, List.mem_cons, List.mem_append, Option.mem_toList, List.nodup_append, not_or]
    refine ⟨⟨n1, n2, fun e => (n4 p e).1 rfl, by simp; omega, fun e => (vne p e).1 rfl⟩, ⟨n3, fun e => (n4 a e).2.1 rfl, by simp; omega, fun e => (vne a e).2.1 rfl⟩, ⟨fun e => (n4 b e).2.2.1 rfl, by simp; omega, fun e => (vne b e).2.2 rfl⟩, ?_, ⟨by simp, ?_, ?_⟩, ?_⟩
    · cases cv.ownBlock <;> simp
    · cases v.ownBlock <;> simp
    · intro x hx y hy e
      simp at hx
      have := hv y hy
      omega
    · intro x hx y hy e
      have h4 := cvl x hx
      rcases hy with hy | hy
      · simp at hy; omega
      · have := hv y hy; omega
  · intro k hk
    simp only [blocks, ptrB, List.mem_cons, List.mem_append, Option.mem_toList] at hk
    have stay : k ∈ blocks p a b cv fv kv → grow O w W k ∧ k < W.heap.size := fun hm => ⟨.inl (h.own k hm).1, by have := (h.own k hm).2; omega⟩
    rcases hk with hk | hk | hk | hk | hk | hk
    · exact stay (by simp [blocks, hk])
    · exact stay (by simp [blocks, hk])
    · exact stay (by simp [blocks, hk])
    · exact stay (by simp [blocks, hk])
    · simp at hk
      exact ⟨.inr ⟨by omega, by omega⟩, by omega⟩
    · have := hv k hk
      exact ⟨.inr ⟨this.1, by omega⟩, by omega⟩
  · have ht : Turn O w (w1.alloc (.cells #[.int .i64 (n : Int), v] 98)) := (Turn.of_below hb).then_below ((Below.refl _ _).alloc (Nat.le_refl _) _)
    rw [hW]
    exact ht.setCell hp.1 _
/-- What a Fail tells, and makes. -/
def failF (d : Dv) (n : Int) (k : List Int) : Int × Dv := if d.up = false then (43, d) else if n < 0 then (2, d) else (0, { d with fail := some (n.toNat, k) })
set_option maxRecDepth 100000 in
theorem fail_dev {w : World} {p : Nat} {d : Dv} {O : Nat → Prop} (h : Dev w p d O) (n : Int) (hn : n < 9223372036854775808) {kq : Value} {k : List Int} (hk : IntsAt w kq k) (hl : k.length ≤ 1000000) :
    Calls Try.prog 34 #[.pointer (some ⟨p, 0, none⟩), .int .i64 n, kq] w fun e w' => e = .returned (.int .i64 (failF d n k).1) ∧ Dev w' p (failF d n k).2 (grow O w w') ∧ Turn O w w' := by
  have hr := refuses_dev h
  have HD : Hid (Dev w p d (grow O w w) ∧ Turn O w w) := ⟨h.mono (grow_refl O w), Turn.refl _ _⟩
  obtain ⟨R, hR⟩ : ∃ R, failF d n k = R := ⟨_, rfl⟩
  rw [hR]
  cases hu : d.up with
  | false =>
    rw [hu] at hr
    obtain rfl : R = (43, d) := by rw [← hR]; unfold failF; rw [if_pos hu]
    clear h hR hu hk hl
    go_enter Try.func34, Try.ntmps34
    go_wp2_with (go_at_call 51; refine hr.mono ?_; rintro e w' ⟨rfl, rfl⟩)
    go_ret
    exact ⟨rfl, HD.out⟩
  | true =>
    rw [hu] at hr
    by_cases h0 : n < 0
    · obtain rfl : R = (2, d) := by rw [← hR]; unfold failF; rw [if_neg (by rw [hu]; simp), if_pos h0]
      clear h hR hu hk hl
      go_enter Try.func34, Try.ntmps34
      go_wp2_with (go_at_call 51; refine hr.mono ?_; rintro e w' ⟨rfl, rfl⟩)
      go_ret
      exact ⟨rfl, HD.out⟩
    · obtain ⟨m, rfl⟩ : ∃ m : Nat, n = m := ⟨n.toNat, by omega⟩
      obtain rfl : R = (0, { d with fail := some (m, k) }) := by rw [← hR]; unfold failF; rw [if_neg (by rw [hu]; simp), if_neg h0, Int.toNat_natCast]
      have HC : Hid (Calls Try.prog 59 #[kq] w fun e w' => ∃ v, e = .returned v ∧ IntsAt w' v k ∧ (∀ i, v.ownBlock = some i → w.heap.size ≤ i ∧ i < w'.heap.size) ∧ Below w.heap.size w w') := clone_ints hk hl
      obtain ⟨a, b, ca, cb, cv, fv, kv, h⟩ := h
      have HS : Hid (∀ (w1 : World) (v : Value), Below w.heap.size w w1 → IntsAt w1 v k → (∀ i, v.ownBlock = some i → w.heap.size ≤ i ∧ i < w1.heap.size) → ∀ W, W = (w1.alloc (.cells #[.int .i64 (m : Int), v] 98)).setCell ⟨p, 5, none⟩ (.pointer (some ⟨w1.heap.size, 0, none⟩)) → Dev W p { d with fail := some (m, k) } (grow O w W) ∧ Turn O w W) := fun w1 v hb hk hv W hW => by
        have := h.setFail hb m (by omega) hk hv W hW
        exact ⟨Dev.at this.1, this.2⟩
      have HF : Hid (∀ (w1 : World) (ob : Obj), Below w.heap.size w w1 → (w1.alloc ob).cell? ⟨p, 5, none⟩ = some fv ∧ (w1.alloc ob).frozen? ⟨p, 5, none⟩ = false) := fun w1 ob hb => by
        have hp := (h.own p (by simp [blocks])).2
        have := hb.size
        have e : (w1.alloc ob).heap[p]? = some _ := (Below.heap_alloc _ _ _ (by omega)).trans ((hb.block p hp).trans h.cells)
        exact ⟨by rw [cell_of_row _ _ _ _ _ _ e]; rfl, frozen_of_row _ _ _ _ _ e⟩
      clear h hR hu hk hl HD hn
      go_enter Try.func34, Try.ntmps34
      go_wp2_with (go_at_call 51; refine hr.mono ?_; rintro e w' ⟨rfl, rfl⟩)
      refine HC.out.mono ?_
      rintro e w1 ⟨v, rfl, hv1, hv2, hb⟩
      have HR : Hid (∀ W, W = (w1.alloc (.cells #[.int .i64 (m : Int), v] 98)).setCell ⟨p, 5, none⟩ (.pointer (some ⟨w1.heap.size, 0, none⟩)) → Dev W p { d with fail := some (m, k) } (grow O w' W) ∧ Turn O w' W) := HS.out w1 v hb hv1 hv2
      obtain ⟨f1, f2⟩ := HF.out w1 (.cells #[.int .i64 (m : Int), v] 98) hb
      obtain ⟨va, vc, rfl, -⟩ := hv1
      clear hv2 hb HC HS HF
      go_wp2
      go_ret
      exact ⟨rfl, HR.out _ rfl⟩
end Go.Proofs.Ythlaackalmgfnaa
