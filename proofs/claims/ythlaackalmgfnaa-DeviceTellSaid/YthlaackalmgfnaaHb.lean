/- The document's device: Fail. -/
import Derived.Test.YthlaackalmgfnaaGf
/- The document's device: a crash, what is done or fails, an act. -/
namespace Go.Proofs.Ythlaackalmgfnaa
open Go.RowKit

/-- append to a row of one's own: what comes of it lies where it lay, or is new. -/
theorem append_where {P : Program} {w : World} (t ty e : TypeId) (i : TypeInfo) (z : Value) (size bytes : Nat) (ht : P.underlying t = some (.slice e)) (hi : P.info? e = some i) (hz : i.zero = some z)
    (hsize : i.size = size) (hby : i.bytes = bytes) (hzs : z.cells.size = size) (hsz : 0 < size) (v : Value) (n : Nat) (xs : List Value) (hown : w.ownsRow 0 e size v n xs)
    (a : Addr) (m c : Nat) (news : List Value) (hl : news.length = m * size) (hnews : ∀ j u, news[j]? = some u → w.cell? (a.add j) = some u) (h1 : ∀ u ∈ news, u.oneCell' = true)
    (h63 : n + m ≤ maxLen) (hbytes : (n + m) * bytes ≤ 140737488355328) :
    ∃ v' w', (Builtin.append_ #[t, t] ty #[v, .slice (some a) m c]).run P w = .ok v' w' ∧ w'.ownsRow 0 e size v' (n + m) (xs ++ news) ∧ w.grownBy w' v.ownBlock ∧ ∀ k, v'.ownBlock = some k → v.ownBlock = some k ∨ w.heap.size ≤ k := by
  obtain ⟨v', w', hr, h2, h3, -⟩ := run_append_own (P := P) w 0 t ty e i z size bytes ht hi hz hsize hby hzs hsz v n xs hown a m c news hl hnews h1 h63 hbytes (Nat.zero_le _)
  refine ⟨v', w', hr, h2, h3, fun k hk => ?_⟩
  rcases hown.2 with ⟨rfl, rfl⟩ | ⟨g, cap, cur, rfl, -, hg, hnc, hcm, hcs, htake⟩
  · have hx : xs = [] := List.eq_nil_of_length_eq_zero (by simpa using hown.1)
    subst hx
    obtain ⟨v2, w2, hr2, q2, -, -⟩ := run_append_own (P := P) w w.heap.size t ty e i z size bytes ht hi hz hsize hby hzs hsz (.slice none 0 0) 0 [] (World.ownsRow_nil _ _ _ _) a m c news hl hnews h1 h63 hbytes (Nat.le_refl _)
    rw [hr] at hr2
    obtain ⟨rfl, rfl⟩ : v' = v2 ∧ w' = w2 := by injection hr2 with e1 e2; exact ⟨e1, e2⟩
    exact .inr (World.ownsRow.lt q2 k hk).1
  · subst hsize
    by_cases hroom : n + m ≤ cap
    · have hr2 := run_append_room (P := P) w t ty e i ht hi g n cap cur hg a m c news hl hnews h1 hroom (by rw [hl, hcs, ← Nat.add_mul]; exact Nat.mul_le_mul_right _ hroom)
      rw [hr] at hr2
      have e1 : v' = .slice (some ⟨g, 0, none⟩) (n + m) cap := by injection hr2
      rw [e1] at hk
      exact .inl hk
    · have holds : ∀ j u, xs[j]? = some u → w.cell? ((⟨g, 0, none⟩ : Addr).add j) = some u := hown.cells (g := g) rfl
      have hr2 := run_append_grow (P := P) w t ty e i z ht hi hz ⟨g, 0, none⟩ n cap xs hown.1 holds a m c news hl hnews (by omega) (by simp only [maxLen] at h63; omega) (by rw [hby]; exact growslice_fits (by omega) hbytes)
      rw [hr] at hr2
      have e1 : v' = .slice (some ⟨w.heap.size, 0, none⟩) (n + m) (grownCap w (n + m) cap e) := by injection hr2
      rw [e1] at hk
      simp [Value.ownBlock] at hk
      exact .inr (by omega)
theorem step_append_where {P : Program} {ops : Array Oper} {o : Oper} {a : Act} {w : World} {K : Act → World → Prop} {Q : Exit → Act → World → Prop} {E : Prop} (hgd : o.guard = none) (s x : Operand) (t : TypeId)
    (ho : o.op = .call { callee := .builtin .append, args := #[s, x], argTypes := #[t, t] })
    (e : TypeId) (i : TypeInfo) (z : Value) (size bytes : Nat) (ht : P.underlying t = some (.slice e)) (hi : P.info? e = some i) (hz : i.zero = some z)
    (hsize : i.size = size) (hby : i.bytes = bytes) (hzs : z.cells.size = size) (hsz : 0 < size)
    (v : Value) (n : Nat) (xs : List Value) (hs : a.eval s = v) (hown : w.ownsRow 0 e size v n xs)
    (ad : Addr) (m c : Nat) (news : List Value) (hx : a.eval x = .slice (some ad) m c) (hl : news.length = m * size) (hnews : ∀ j u, news[j]? = some u → w.cell? (ad.add j) = some u) (h1 : ∀ u ∈ news, u.oneCell' = true)
    (h63 : n + m ≤ maxLen) (hbytes : (n + m) * bytes ≤ 140737488355328)
    (h : ∀ v' w', w'.ownsRow 0 e size v' (n + m) (xs ++ news) → w.grownBy w' v.ownBlock → (∀ k, v'.ownBlock = some k → v.ownBlock = some k ∨ w.heap.size ≤ k) → K (a.put o.dst v') w') :
    if Region.wanted o (yielded ops a.tmps) = true then Oper.wp P o a w K Q else E := by
  refine step_plain hgd ?_
  obtain ⟨v', w', hr, h2, h3, h4⟩ := append_where (P := P) (w := w) t o.type e i z size bytes ht hi hz hsize hby hzs hsz v n xs hown ad m c news hl hnews h1 h63 hbytes
  unfold Oper.wp execOp
  simp only [ho, resolve, invoke, builtin, Sem.run_bind, Sem.run_pure, Result.andThen_ok, List.map_toArray, List.map_cons, List.map_nil, hs, hx, hr]
  exact h v' w' h2 h3 h4
theorem rcrash_any {w : World} {q : Nat} {r : Rv} {O : Nat → Prop} (h : Ref w q r O) (hr : r.acts.length < 1000000) {kq : Value} {k : List Int} (hk : IntsAt w kq k) (hkb : k ≠ [] → ∀ i, kq.ownBlock = some i → i < w.heap.size → ¬ O i) (hkl : k.length ≤ 1000000) :
    Calls Try.prog 42 #[.pointer (some ⟨q, 0, none⟩), kq] w fun e w' => e = .returned (.int .i64 (rcrashE r k).1) ∧ Ref w' q (rcrashE r k).2 O ∧ Turn O w w' := by
  obtain ⟨a, b, ca, cb, cv, kv, h⟩ := h
  cases ho : r.off with
  | false =>
    have he : rcrashE r k = (0, rcrashD r k) := by unfold rcrashE; rw [ho]; rfl
    obtain ⟨ka, kc, e, hk2⟩ := id hk
    subst e
    rw [he]
    refine (rcrash_at h hr ho hk (fun hne i hi hl => ?_) hkl).mono fun e w' ⟨h1, h2, h3⟩ => ⟨h1, ⟨_, _, _, _, _, _, h2⟩, h3⟩
    have := hkb hne i hi hl
    exact ⟨fun e => this (by rw [e]; exact h.q_.2.1), fun e => this (by rw [e]; exact h.q_.2.2.1)⟩
  | true =>
    have he : rcrashE r k = (43, r) := by unfold rcrashE; rw [ho]; rfl
    rw [he]
    obtain ⟨-, -, -, c3, -⟩ := h.c
    rw [ho] at c3
    have HR : Hid (Ref w q r O) := ⟨_, _, _, _, _, _, h⟩
    clear h hk hkb he ho
    go_enter Try.func42, Try.ntmps42
    go_wp2
    go_ret
    exact ⟨rfl, HR.out, Turn.refl _ _⟩
section
variable {w w' : World} {q : Nat} {r : Rv} {O O' : Nat → Prop} {a b ca cb : Nat} {cv kv : Value}
theorem RefAt.setQ (h : RefAt w q r O a b ca cb cv kv) (off : Bool) (begun : Nat) (fails : Bool) (left : Int) (h1 : -9223372036854775808 < left) (h2 : left < 9223372036854775808) (hw : ∀ k, k ≠ q → w'.heap[k]? = w.heap[k]?) (hs : w'.heap.size = w.heap.size)
    (hc : w'.heap[q]? = some (.cells #[.slice (some ⟨a, 0, none⟩) r.st.length ca, .slice (some ⟨b, 0, none⟩) r.st.length cb, cv, .bool off, .int .i64 (begun : Int), .bool fails, .int .i64 left, kv] 35 (0, 0))) : RefAt w' q { r with off := off, begun := begun, fails := fails, left := left } O a b ca cb cv kv := by
  obtain ⟨n1, n2, n3, n4, n5⟩ := rnodup h.nodup
  exact ⟨hc, h.st.same (hw a n1.symm), h.da.same (hw b n2.symm), h.len, h.pos, h.small, owns_same h.acts fun k hk => hw k (n4 k hk).1, h.inr, h.keep.same fun k hk => hw k (n5 k hk).1, h1, h2, h.nodup, fun k hk => ⟨(h.own k hk).1, by rw [hs]; exact (h.own k hk).2⟩⟩
end
set_option maxRecDepth 100000 in
theorem rdone_any {w : World} {q : Nat} {r : Rv} {O : Nat → Prop} (h : Ref w q r O) (hr : r.acts.length < 1000000) (ho : r.off = false) (hkl : r.keep.length ≤ 1000000) (hf : r.fails = true → 0 ≤ r.left) :
    Calls Try.prog 64 #[.pointer (some ⟨q, 0, none⟩)] w fun e w' => e = .returned (.int .i64 (rdoneD r).1) ∧ Ref w' q (rdoneD r).2 O ∧ Turn O w w' := by
  obtain ⟨a, b, ca, cb, cv, kv, h⟩ := h
  obtain ⟨-, -, -, -, -, c5, c6, c7⟩ := h.c
  have hq := h.q_
  have HOq : Hid (O q) := hq.1
  cases hfl : r.fails with
  | false =>
    have he : rdoneD r = (0, r) := by unfold rdoneD; rw [if_pos hfl]
    rw [he]
    rw [hfl] at c5
    have HR : Hid (Ref w q r O) := ⟨_, _, _, _, _, _, h⟩
    clear h he hfl hf hq ho
    go_enter Try.func64, Try.ntmps64
    go_wp2
    go_ret
    exact ⟨rfl, HR.out, Turn.refl _ _⟩
  | true =>
    rw [hfl] at c5
    have h0 := hf hfl
    have hh := h.hi
    have f6 : w.frozen? ⟨q, 6, none⟩ = false := frozen_of_row _ _ _ _ _ h.cells
    have hne : ∀ k, k ≠ q → (w.setCell ⟨q, 6, none⟩ (.int .i64 (r.left - 1))).heap[k]? = w.heap[k]? := fun k hk => Below.heap_setCell _ _ _ _ hk
    have h1 : RefAt (w.setCell ⟨q, 6, none⟩ (.int .i64 (r.left - 1))) q { r with left := r.left - 1 } O a b ca cb cv kv := h.setQ r.off r.begun r.fails (r.left - 1) (by omega) (by omega) hne (heap_set_size _ _ _) (by rw [heap_set_same h.cells]; rfl)
    have d5 : (w.setCell ⟨q, 6, none⟩ (.int .i64 (r.left - 1))).cell? ⟨q, 6, none⟩ = some (.int .i64 (r.left - 1)) := h1.c.2.2.2.2.2.2.1
    have d7 : (w.setCell ⟨q, 6, none⟩ (.int .i64 (r.left - 1))).cell? ⟨q, 7, none⟩ = some kv := h1.c.2.2.2.2.2.2.2
    have HT : Hid (Turn O w (w.setCell ⟨q, 6, none⟩ (.int .i64 (r.left - 1)))) := (Turn.refl _ _).setCell hq.1 _
    have HR : Hid _ := h1
    have HKp : Hid _ := h1.keep
    by_cases hl : 0 ≤ r.left - 1
    · have he : rdoneD r = (0, { r with left := r.left - 1 }) := by unfold rdoneD; rw [if_neg (by rw [hfl]; decide), if_pos hl]
      rw [he]
      clear h he hfl hf hq h1 hne ho hkl
      generalize r.left = lf at *
      go_enter Try.func64, Try.ntmps64
      go_wp2
      go_ret
      exact ⟨rfl, ⟨_, _, _, _, _, _, HR.out⟩, HT.out⟩
    · have he : rdoneD r = (43, rcrashD { r with left := r.left - 1 } r.keep) := by unfold rdoneD; rw [if_neg (by rw [hfl]; decide), if_neg hl]
      rw [he]
      obtain ⟨ka, kc, hkv, hk2⟩ := id h1.keep
      subst hkv
      have HC : Hid (Calls Try.prog 42 #[.pointer (some ⟨q, 0, none⟩), .slice ka r.keep.length kc] (w.setCell ⟨q, 6, none⟩ (.int .i64 (r.left - 1))) fun e w' => e = .returned (.int .i64 0) ∧ RefAt w' q (rcrashD { r with left := r.left - 1 } r.keep) O a b ca cb (.slice none 0 0) (.slice ka r.keep.length kc) ∧ Turn O (w.setCell ⟨q, 6, none⟩ (.int .i64 (r.left - 1))) w') :=
        rcrash_at h1 hr ho h1.keep (fun _ i hi _ => ((rnodup h.nodup).2.2.2.2 i hi).2) hkl
      clear h he hfl hf hq h1 hne hk2 HR HKp hr ho hkl
      generalize r.left = lf at *
      go_enter Try.func64, Try.ntmps64
      go_wp2_with fail
      refine Calls.mono HC.out ?_
      rintro e w1 ⟨rfl, h2, h3⟩
      have H2 : Hid _ := h2
      have H3 : Hid _ := HT.out.trans h3 fun _ _ h => h
      clear h2 h3 HC HT d5 d7 c5 c6 c7 f6
      go_wp2
      go_ret
      exact ⟨rfl, ⟨_, _, _, _, _, _, H2.out⟩, H3.out⟩
theorem info_ract : ∃ i, Try.prog.info? 111 = some i ∧ i.zero = some (.agg #[.int .i64 0, .string ⟨#[]⟩, .bool false]) ∧ i.size = 3 ∧ i.bytes = 32 := by
  have h : (Try.prog.info? 111).map (fun i => (i.zero, i.size, i.bytes)) = some (some (.agg #[.int .i64 0, .string ⟨#[]⟩, .bool false]), 3, 32) := by kernel_rfl
  cases hq : Try.prog.info? 111 with
  | none => rw [hq] at h; cases h
  | some i =>
    rw [hq] at h
    simp at h
    exact ⟨i, rfl, h.1, h.2.1, h.2.2⟩
end Go.Proofs.Ythlaackalmgfnaa

/- The document's device: an act. -/
namespace Go.Proofs.Ythlaackalmgfnaa
open Go.RowKit

theorem owns_sl3 {w : World} {e : TypeId} {v : Value} {n : Nat} {xs : List Value} {s : Nat} (h : w.ownsRow 0 e s v n xs) : ∃ a c, v = .slice a n c := by
  rcases h.2 with ⟨q1, q2⟩ | ⟨g, cap, cur, q1, _⟩
  · exact ⟨none, 0, by rw [q1, q2]⟩
  · exact ⟨_, _, q1⟩
theorem RefAt.setActs {w W0 w1 : World} {q : Nat} {r : Rv} {O : Nat → Prop} {a b ca cb : Nat} {cv kv v' : Value} (h : RefAt w q r O a b ca cb cv kv) (hb : Below w.heap.size w W0) (L : List RA) (hL : ∀ x ∈ L, 0 ≤ x.bl ∧ x.bl < r.st.length ∧ (x.er = false → x.da.length = 128))
    (h1 : w1.ownsRow 0 111 3 v' L.length (rac L)) (h2 : W0.grownBy w1 cv.ownBlock) (h3 : ∀ k, v'.ownBlock = some k → cv.ownBlock = some k ∨ W0.heap.size ≤ k) :
    RefAt (w1.setCell ⟨q, 2, none⟩ v') q { r with acts := L } (grow O w w1) a b ca cb v' kv ∧ Turn O w (w1.setCell ⟨q, 2, none⟩ v') := by
  obtain ⟨n1, n2, n3, n4, n5⟩ := rnodup h.nodup
  obtain ⟨oq, oa, ob, lq, la, lb⟩ := h.q_
  have hs0 := hb.size
  have hs1 := h2.size
  have old : ∀ k, k < w.heap.size → some k ≠ cv.ownBlock → w1.heap[k]? = w.heap[k]? := fun k hk hn => by
    rw [h2.block k (by omega) hn, hb.block k hk]
  have olds : ∀ k, k < w.heap.size → some k ≠ cv.ownBlock → k ≠ q → (w1.setCell ⟨q, 2, none⟩ v').heap[k]? = w.heap[k]? := fun k hk hn hp => by
    rw [Below.heap_setCell _ _ _ _ hp, old k hk hn]
  have cvq : some q ≠ cv.ownBlock := fun e => (n4 q e.symm).1 rfl
  have cva : some a ≠ cv.ownBlock := fun e => (n4 a e.symm).2.1 rfl
  have cvb : some b ≠ cv.ownBlock := fun e => (n4 b e.symm).2.2.1 rfl
  have lt' : ∀ k, v'.ownBlock = some k → k < w1.heap.size := fun k hk => (World.ownsRow.lt h1 k hk).2
  have newne : ∀ k, v'.ownBlock = some k → k ≠ q ∧ k ≠ a ∧ k ≠ b ∧ kv.ownBlock ≠ some k := fun k hk => by
    rcases h3 k hk with h3 | h3
    · exact n4 k h3
    · refine ⟨by omega, by omega, by omega, fun e => ?_⟩
      have := (h.own k (by simp [rblocks, e])).2; omega
  refine ⟨⟨?_, h.st.same (olds a la cva n1.symm), h.da.same (olds b lb cvb n2.symm), h.len, h.pos, h.small, owns_same h1 fun k hk => Below.heap_setCell _ _ _ _ (newne k hk).1, hL, h.keep.same fun k hk => ?_, h.lo, h.hi, ?_, ?_⟩, ?_⟩
  · have : w1.heap[q]? = some _ := (old q lq cvq).trans h.cells
    rw [heap_set_same this]; rfl
  · exact olds k (h.own k (by simp [rblocks, hk])).2 (fun e => (n4 k e.symm).2.2.2 hk) (n5 k hk).1
  · have hn := h.nodup
    simp only [rblocks, List.nodup_cons, List.mem_cons, List.mem_append, Option.mem_toList, List.nodup_append, not_or] at hn ⊢
    obtain ⟨⟨g1, g2, g3, g4⟩, ⟨g5, g6, g7⟩, ⟨g8, g9⟩, g10, g11, g12⟩ := hn
    refine ⟨⟨g1, g2, fun e => (newne q e).1 rfl, g4⟩, ⟨g5, fun e => (newne a e).2.1 rfl, g7⟩, ⟨fun e => (newne b e).2.2.1 rfl, g9⟩, ?_, g11, ?_⟩
    · cases v'.ownBlock <;> simp
    · intro k hk j hj e
      subst e
      exact (newne k hk).2.2.2 hj
  · intro k hk
    rw [heap_set_size]
    have stay : k ∈ rblocks q a b cv kv → grow O w w1 k ∧ k < w1.heap.size := fun hm => ⟨.inl (h.own k hm).1, by have := (h.own k hm).2; omega⟩
    simp only [rblocks, List.mem_cons, List.mem_append, Option.mem_toList] at hk
    rcases hk with hk | hk | hk | hk | hk
    · exact stay (by simp [rblocks, hk])
    · exact stay (by simp [rblocks, hk])
    · exact stay (by simp [rblocks, hk])
    · rcases h3 k hk with h3 | h3
      · exact stay (by simp [rblocks, h3])
      · exact ⟨.inr ⟨by omega, lt' k hk⟩, lt' k hk⟩
    · exact stay (by simp [rblocks, hk])
  · have ht : Turn O w w1 := ⟨h2.os.trans hb.os, h2.tape.trans hb.tape, h2.output.trans hb.output, by omega, fun k hk hn => old k hk (fun e => hn (h.own k (by simp [rblocks, ← e])).1)⟩
    exact ht.setCell oq _
set_option linter.unusedSimpArgs false in
set_option maxRecDepth 100000 in
set_option maxHeartbeats 3200000 in
theorem ract_any {w : World} {q : Nat} {r : Rv} {O : Nat → Prop} (h : Ref w q r O) (bl : Int) (da : List UInt8) (er : Bool) (hx : 0 ≤ bl ∧ bl < r.st.length ∧ (er = false → da.length = 128)) (hr : r.acts.length < 100000) (ho : r.off = false) (hkl : r.keep.length ≤ 1000000) (hf : r.fails = true → 0 ≤ r.left) :
    Calls Try.prog 63 #[.pointer (some ⟨q, 0, none⟩), .agg #[.int .i64 bl, .string (S da), .bool er]] w fun e w' => e = .returned (.int .i64 (ractD r ⟨bl, da, er⟩).1) ∧ Ref w' q (ractD r ⟨bl, da, er⟩).2 (grow O w w') ∧ Turn O w w' := by
  obtain ⟨a, b, ca, cb, cv, kv, h⟩ := h
  obtain ⟨A, hA⟩ : ∃ A, S da = A := ⟨_, rfl⟩
  obtain ⟨WB, hWB⟩ : ∃ WB, w.alloc (.cells #[.int .i64 bl, .string A, .bool er] 111) = WB := ⟨_, rfl⟩
  obtain ⟨B, hB⟩ : ∃ B, w.heap.size = B := ⟨_, rfl⟩
  have hbel : Below w.heap.size w WB := by rw [← hWB]; exact (Below.refl _ _).alloc (Nat.le_refl _) _
  have hbel1 : Below w.heap.size w WB.drew := hbel.drew
  obtain ⟨W1, hW1⟩ : ∃ W1, WB.drew = W1 := ⟨_, rfl⟩
  have hbox : W1.heap[B]? = some (.cells #[.int .i64 bl, .string A, .bool er] 111 (0, 0)) := by rw [← hW1, ← hWB, ← hB]; exact heap_alloc_last _ _
  rw [hW1] at hbel1
  have HRg : Hid (W1.rangeAt B 0 #[Value.int .i64 bl, .string A, .bool er].toList) := range_row hbox
  have HIC : Hid ((Try.prog.info? 111).map (·.size) = some #[Value.int .i64 bl, .string A, .bool er].toList.length) := by show _ = some 3; kernel_rfl
  obtain ⟨ia, i1, i2, i3, i4⟩ := info_ract
  have HIA : Hid (Try.prog.info? 111 = some ia ∧ ia.zero = some (.agg #[.int .i64 0, .string ⟨#[]⟩, .bool false]) ∧ ia.size = 3 ∧ ia.bytes = 32) := ⟨i1, i2, i3, i4⟩
  obtain ⟨L, hL⟩ : ∃ L, r.acts = L := ⟨_, rfl⟩
  obtain ⟨n, hn⟩ : ∃ n, L.length = n := ⟨_, rfl⟩
  have c2 : WB.cell? ⟨q, 2, none⟩ = some cv := (h.below hbel).c.2.2.1
  have c2a : W1.cell? ⟨q, 2, none⟩ = some cv := (h.below hbel1).c.2.2.1
  have c2b : (W1.alloc (.cells #[.int .i64 bl, .string A, .bool er] 111)).cell? ⟨q, 2, none⟩ = some cv := (h.below (hbel1.alloc hbel1.size _)).c.2.2.1
  have HRg2 : Hid ((W1.alloc (.cells #[.int .i64 bl, .string A, .bool er] 111)).rangeAt B 0 #[Value.int .i64 bl, .string A, .bool er].toList) := range_row (by rw [Below.heap_alloc _ _ _ (row_lt hbox)]; exact hbox)
  have hab : Below w.heap.size w (W1.alloc (.cells #[.int .i64 bl, .string A, .bool er] 111)) := hbel1.alloc hbel1.size _
  have HOw : Hid ((W1.alloc (.cells #[.int .i64 bl, .string A, .bool er] 111)).ownsRow 0 111 3 cv n (rac L)) := by
    have := (h.below hab).acts
    rw [hL, hn] at this
    exact this
  have HNw : Hid (∀ j u, [Value.int .i64 bl, .string A, .bool er][j]? = some u → (W1.alloc (.cells #[.int .i64 bl, .string A, .bool er] 111)).cell? ((⟨W1.heap.size, 0, none⟩ : Addr).add j) = some u) := fun j u hj => by
    have := range_row (heap_alloc_last W1 (.cells #[.int .i64 bl, .string A, .bool er] 111)) j u hj
    rw [Addr.add_mid]
    exact this
  have HOne : Hid (∀ u ∈ [Value.int .i64 bl, .string A, .bool er], u.oneCell' = true) := fun u hu => by
    simp only [List.mem_cons, List.not_mem_nil, or_false] at hu
    rcases hu with rfl | rfl | rfl <;> rfl
  have HAdd : Hid (∀ (w1 : World) (v' : Value), w1.ownsRow 0 111 3 v' (n + 1) (rac L ++ [Value.int .i64 bl, .string A, .bool er]) → (W1.alloc (.cells #[.int .i64 bl, .string A, .bool er] 111)).grownBy w1 cv.ownBlock → (∀ k, v'.ownBlock = some k → cv.ownBlock = some k ∨ (W1.alloc (.cells #[.int .i64 bl, .string A, .bool er] 111)).heap.size ≤ k) →
      RefAt (w1.setCell ⟨q, 2, none⟩ v') q { r with acts := r.acts ++ [⟨bl, da, er⟩] } (grow O w w1) a b ca cb v' kv ∧ Turn O w (w1.setCell ⟨q, 2, none⟩ v')) := fun w1 v' g1 g2 g3 => by
    refine h.setActs hab (r.acts ++ [⟨bl, da, er⟩]) (fun x hx' => ?_) ?_ g2 g3
    · simp only [List.mem_append, List.mem_singleton] at hx'
      rcases hx' with hx' | rfl
      · exact h.inr x hx'
      · exact hx
    · rw [hL, rac_append]
      simp only [List.length_append, List.length_singleton, hn]
      have e : rac [⟨bl, da, er⟩] = [Value.int .i64 bl, .string A, .bool er] := by simp [rac, raC, hA]
      rw [e]
      exact g1
  have HCL : Hid (∀ w1 : World, (W1.alloc (.cells #[.int .i64 bl, .string A, .bool er] 111)).grownBy w1 cv.ownBlock → ∃ u, w1.cell? ⟨q, 2, none⟩ = some u) := fun w1 hg => by
    have hq := h.q_
    have hne : some q ≠ cv.ownBlock := fun e => ((rnodup h.nodup).2.2.2.1 q e.symm).1 rfl
    refine ⟨cv, ?_⟩
    rw [← c2b]
    exact World.cell?_of_block (hg.block q (by have := hab.size; omega) hne)
  have HFZ : Hid (∀ w1 : World, (W1.alloc (.cells #[.int .i64 bl, .string A, .bool er] 111)).grownBy w1 cv.ownBlock → w1.frozen? ⟨q, 2, none⟩ = false) := fun w1 hg => by
    have hq := h.q_
    have hne : some q ≠ cv.ownBlock := fun e => ((rnodup h.nodup).2.2.2.1 q e.symm).1 rfl
    have e : w1.heap[q]? = _ := (hg.block q (by have := hab.size; omega) hne).trans (h.below hab).cells
    exact frozen_of_row _ _ _ _ _ e
  have HDo : Hid (∀ (v' : Value) (w1 : World), RefAt (w1.setCell ⟨q, 2, none⟩ v') q { r with acts := r.acts ++ [⟨bl, da, er⟩] } (grow O w w1) a b ca cb v' kv → Calls Try.prog 64 #[.pointer (some ⟨q, 0, none⟩)] (w1.setCell ⟨q, 2, none⟩ v') fun e w' => e = .returned (.int .i64 (ractD r ⟨bl, da, er⟩).1) ∧ Ref w' q (ractD r ⟨bl, da, er⟩).2 (grow O w w1) ∧ Turn (grow O w w1) (w1.setCell ⟨q, 2, none⟩ v') w') := fun v' w1 hh =>
    rdone_any (r := { r with acts := r.acts ++ [⟨bl, da, er⟩] }) ⟨_, _, _, _, _, _, hh⟩ (by simp; omega) ho hkl hf
  have HGr : Hid (∀ w1 W2 w3 : World, W2.heap.size = w1.heap.size → Turn (grow O w w1) W2 w3 → ∀ k, grow O w w1 k → grow O w w3 k) := fun w1 W2 w3 t1 t2 k hk => by
    have := t2.size
    rcases hk with hk | hk
    · exact .inl hk
    · exact .inr ⟨hk.1, by omega⟩
  have HSub : Hid (∀ w1 : World, ∀ i, i < w.heap.size → grow O w w1 i → O i) := fun w1 i hi hg => by
    rcases hg with hg | hg
    · exact hg
    · omega
  have hn5 : n < 100000 := by rw [← hn, ← hL]; exact hr
  obtain ⟨R, hR⟩ : ∃ R, ractD r ⟨bl, da, er⟩ = R := ⟨_, rfl⟩
  rw [hR] at HDo ⊢
  rw [hA]
  have HW1 : Hid (WB.drew = W1) := hW1
  have HWB : Hid (w.alloc (.cells #[.int .i64 bl, .string A, .bool er] 111) = WB) := hWB
  have HB : Hid (w.heap.size = B) := hB
  clear h hbel hbel1 hab hbox i1 i2 i3 i4 hL hn hW1 hWB hB hA hx hr ho hkl hf hR
  go_enter Try.func63, Try.ntmps63
  go_wp2
  rw [HWB.out, HB.out]
  refine wp_region_held (S := fun _ => True) (by kernel_rfl) ?_
  change wpAnyH _ _ _ _ _ _ _ _ (World.drew _)
  rw [HW1.out]
  clear HWB HB HW1 c2
  refine wpAnyH_take (i := 0) (v := .pointer (some ⟨q, 0, none⟩)) rfl (by kernel_rfl) (by kernel_rfl) (by kernel_rfl) (fun _ _ _ h => h) (Or.inl ⟨by rfl, by intro w _; go_simp⟩) trivial ?_
  simp only [List.getElem_toArray, List.getElem_cons_succ, List.getElem_cons_zero, Act.put, List.setIfInBounds_toArray, List.set_cons_zero, List.set_cons_succ]
  refine wpAnyH_take (i := 1) (v := .pointer (some ⟨q, 0, none⟩)) rfl (by kernel_rfl) (by kernel_rfl) (by kernel_rfl) (fun _ _ _ h => h) (Or.inl ⟨by rfl, by intro w _; go_simp⟩) trivial ?_
  simp only [List.getElem_toArray, List.getElem_cons_succ, List.getElem_cons_zero, Act.put, List.setIfInBounds_toArray, List.set_cons_zero, List.set_cons_succ]
  refine wpAnyH_take (i := 2) (v := .pointer (some ⟨q, 0, none⟩)) rfl (by kernel_rfl) (by kernel_rfl) (by kernel_rfl) (fun _ _ _ h => h) (Or.inl ⟨by rfl, by intro w _; go_simp⟩) trivial ?_
  simp only [List.getElem_toArray, List.getElem_cons_succ, List.getElem_cons_zero, Act.put, List.setIfInBounds_toArray, List.set_cons_zero, List.set_cons_succ]
  refine wpAnyH_take (i := 3) (v := .pointer (some ⟨q, 2, none⟩)) rfl (by kernel_rfl) (by kernel_rfl) (by kernel_rfl) (fun _ _ _ h => h) (Or.inl ⟨by rfl, by intro w _; go_simp⟩) trivial ?_
  simp only [List.getElem_toArray, List.getElem_cons_succ, List.getElem_cons_zero, Act.put, List.setIfInBounds_toArray, List.set_cons_zero, List.set_cons_succ]
  refine wpAnyH_ready (rs := [4, 5]) (by kernel_rfl) (by simp) (AllReadyH.cons (by simp only [List.getElem?_toArray, List.getElem?_cons_succ, List.getElem?_cons_zero]; rfl) (fun K hK => ?_) (AllReadyH.cons (by simp only [List.getElem?_toArray, List.getElem?_cons_succ, List.getElem?_cons_zero]; rfl) (fun K hK => ?_) AllReadyH.nil))

  · refine step_plain rfl ?_
    go_simp
    refine hK.out _ _ trivial (fun _ => ?_)
    clear hK K
    try simp only [List.getElem_toArray, List.getElem_cons_succ, List.getElem_cons_zero, Act.put, List.setIfInBounds_toArray, List.set_cons_zero, List.set_cons_succ]
    refine wpAnyH_ready (rs := [5]) (by kernel_rfl) (by simp) (AllReadyH.cons (by simp only [List.getElem?_toArray, List.getElem?_cons_succ, List.getElem?_cons_zero]; rfl) (fun K hK => ?_) AllReadyH.nil)
    refine step_plain rfl (wp_load_mid 111 _ rfl B 0 rfl _ _ HRg.out Try.underlying111 rfl HIC.out ?_)
    refine hK.out _ _ trivial (fun _ => ?_)
    clear hK K
    try simp only [List.getElem_toArray, List.getElem_cons_succ, List.getElem_cons_zero, Act.put, List.setIfInBounds_toArray, List.set_cons_zero, List.set_cons_succ]
    refine wpAnyH_ready (rs := [6]) (by kernel_rfl) (by simp) (AllReadyH.cons (by simp only [List.getElem?_toArray, List.getElem?_cons_succ, List.getElem?_cons_zero]; rfl) (fun K hK => ?_) AllReadyH.nil)
    refine step_plain rfl ?_
    go_simp
    refine hK.out _ _ trivial (fun _ => ?_)
    clear hK K
    try simp only [List.getElem_toArray, List.getElem_cons_succ, List.getElem_cons_zero, Act.put, List.setIfInBounds_toArray, List.set_cons_zero, List.set_cons_succ]
    refine wpAnyH_ready (rs := [7]) (by kernel_rfl) (by simp) (AllReadyH.cons (by simp only [List.getElem?_toArray, List.getElem?_cons_succ, List.getElem?_cons_zero]; rfl) (fun K hK => ?_) AllReadyH.nil)
    refine step_append_where rfl _ _ 33 rfl 111 ia _ 3 32 Try.underlying33 HIA.out.1 HIA.out.2.1 HIA.out.2.2.1 HIA.out.2.2.2 rfl (by decide) cv n (rac L) rfl HOw.out ⟨W1.heap.size, 0, none⟩ 1 1 [Value.int .i64 bl, .string A, .bool er] rfl rfl HNw.out HOne.out (by simp only [maxLen]; omega) (by omega) ?_
    intro v' w1 r1 r2 r3
    obtain ⟨va, vc, rfl⟩ := owns_sl3 r1
    have HDT : Hid _ := HAdd.out w1 _ r1 r2 r3
    obtain ⟨uu, cu⟩ := HCL.out w1 r2
    have fu := HFZ.out w1 r2
    clear r1 r2 r3
    refine hK.out _ _ trivial (fun _ => ?_)
    clear hK K
    try simp only [List.getElem_toArray, List.getElem_cons_succ, List.getElem_cons_zero, Act.put, List.setIfInBounds_toArray, List.set_cons_zero, List.set_cons_succ]
    refine wpAnyH_take (i := 8) (v := .pointer (some ⟨q, 0, none⟩)) rfl (by kernel_rfl) (by kernel_rfl) (by kernel_rfl) (fun _ _ _ h => h) (Or.inl ⟨by rfl, by intro w _; go_simp⟩) trivial ?_
    simp only [List.getElem_toArray, List.getElem_cons_succ, List.getElem_cons_zero, Act.put, List.setIfInBounds_toArray, List.set_cons_zero, List.set_cons_succ]
    refine wpAnyH_take (i := 9) (v := .pointer (some ⟨q, 2, none⟩)) rfl (by kernel_rfl) (by kernel_rfl) (by kernel_rfl) (fun _ _ _ h => h) (Or.inl ⟨by rfl, by intro w _; go_simp⟩) trivial ?_
    simp only [List.getElem_toArray, List.getElem_cons_succ, List.getElem_cons_zero, Act.put, List.setIfInBounds_toArray, List.set_cons_zero, List.set_cons_succ]
    refine wpAnyH_ready (rs := [10]) (by kernel_rfl) (by simp) (AllReadyH.cons (by simp only [List.getElem?_toArray, List.getElem?_cons_succ, List.getElem?_cons_zero]; rfl) (fun K hK => ?_) AllReadyH.nil)
    refine step_plain rfl ?_
    go_simp
    refine hK.out _ _ trivial (fun _ => ?_)
    clear hK K
    try simp only [List.getElem_toArray, List.getElem_cons_succ, List.getElem_cons_zero, Act.put, List.setIfInBounds_toArray, List.set_cons_zero, List.set_cons_succ]
    refine wpAnyH_done (by kernel_rfl) ?_ _
    clear cu fu HOw HNw HRg HRg2 HAdd HCL HFZ c2a c2b
    have HT1 : Hid _ := HDT.out.2
    have HR1 : Hid _ := HDo.out _ w1 HDT.out.1
    clear HDT HDo
    have HSz : Hid ((w1.setCell ⟨q, 2, none⟩ (.slice va (n + 1) vc)).heap.size = w1.heap.size) := heap_set_size _ _ _
    generalize w1.setCell ⟨q, 2, none⟩ (.slice va (n + 1) vc) = W2 at *
    go_wp2_with fail
    refine Calls.mono HR1.out ?_
    rintro e w3 ⟨rfl, h1, h2⟩
    have H1 : Hid _ := h1
    have H2 : Hid _ := h2
    clear h1 h2 HR1
    go_wp2
    go_ret
    exact ⟨rfl, Ref.mono H1.out (HGr.out _ _ _ HSz.out H2.out), HT1.out.trans H2.out (HSub.out w1)⟩
  · refine step_plain rfl (wp_load_mid 111 _ rfl B 0 rfl _ _ HRg.out Try.underlying111 rfl HIC.out ?_)
    refine hK.out _ _ trivial (fun _ => ?_)
    clear hK K
    try simp only [List.getElem_toArray, List.getElem_cons_succ, List.getElem_cons_zero, Act.put, List.setIfInBounds_toArray, List.set_cons_zero, List.set_cons_succ]
    refine wpAnyH_ready (rs := [4, 6]) (by kernel_rfl) (by simp) (AllReadyH.cons (by simp only [List.getElem?_toArray, List.getElem?_cons_succ, List.getElem?_cons_zero]; rfl) (fun K hK => ?_) (AllReadyH.cons (by simp only [List.getElem?_toArray, List.getElem?_cons_succ, List.getElem?_cons_zero]; rfl) (fun K hK => ?_) AllReadyH.nil))

    · refine step_plain rfl ?_
      go_simp
      refine hK.out _ _ trivial (fun _ => ?_)
      clear hK K
      try simp only [List.getElem_toArray, List.getElem_cons_succ, List.getElem_cons_zero, Act.put, List.setIfInBounds_toArray, List.set_cons_zero, List.set_cons_succ]
      refine wpAnyH_ready (rs := [6]) (by kernel_rfl) (by simp) (AllReadyH.cons (by simp only [List.getElem?_toArray, List.getElem?_cons_succ, List.getElem?_cons_zero]; rfl) (fun K hK => ?_) AllReadyH.nil)
      refine step_plain rfl ?_
      go_simp
      refine hK.out _ _ trivial (fun _ => ?_)
      clear hK K
      try simp only [List.getElem_toArray, List.getElem_cons_succ, List.getElem_cons_zero, Act.put, List.setIfInBounds_toArray, List.set_cons_zero, List.set_cons_succ]
      refine wpAnyH_ready (rs := [7]) (by kernel_rfl) (by simp) (AllReadyH.cons (by simp only [List.getElem?_toArray, List.getElem?_cons_succ, List.getElem?_cons_zero]; rfl) (fun K hK => ?_) AllReadyH.nil)
      refine step_append_where rfl _ _ 33 rfl 111 ia _ 3 32 Try.underlying33 HIA.out.1 HIA.out.2.1 HIA.out.2.2.1 HIA.out.2.2.2 rfl (by decide) cv n (rac L) rfl HOw.out ⟨W1.heap.size, 0, none⟩ 1 1 [Value.int .i64 bl, .string A, .bool er] rfl rfl HNw.out HOne.out (by simp only [maxLen]; omega) (by omega) ?_
      intro v' w1 r1 r2 r3
      obtain ⟨va, vc, rfl⟩ := owns_sl3 r1
      have HDT : Hid _ := HAdd.out w1 _ r1 r2 r3
      obtain ⟨uu, cu⟩ := HCL.out w1 r2
      have fu := HFZ.out w1 r2
      clear r1 r2 r3
      refine hK.out _ _ trivial (fun _ => ?_)
      clear hK K
      try simp only [List.getElem_toArray, List.getElem_cons_succ, List.getElem_cons_zero, Act.put, List.setIfInBounds_toArray, List.set_cons_zero, List.set_cons_succ]
      refine wpAnyH_take (i := 8) (v := .pointer (some ⟨q, 0, none⟩)) rfl (by kernel_rfl) (by kernel_rfl) (by kernel_rfl) (fun _ _ _ h => h) (Or.inl ⟨by rfl, by intro w _; go_simp⟩) trivial ?_
      simp only [List.getElem_toArray, List.getElem_cons_succ, List.getElem_cons_zero, Act.put, List.setIfInBounds_toArray, List.set_cons_zero, List.set_cons_succ]
      refine wpAnyH_take (i := 9) (v := .pointer (some ⟨q, 2, none⟩)) rfl (by kernel_rfl) (by kernel_rfl) (by kernel_rfl) (fun _ _ _ h => h) (Or.inl ⟨by rfl, by intro w _; go_simp⟩) trivial ?_
      simp only [List.getElem_toArray, List.getElem_cons_succ, List.getElem_cons_zero, Act.put, List.setIfInBounds_toArray, List.set_cons_zero, List.set_cons_succ]
      refine wpAnyH_ready (rs := [10]) (by kernel_rfl) (by simp) (AllReadyH.cons (by simp only [List.getElem?_toArray, List.getElem?_cons_succ, List.getElem?_cons_zero]; rfl) (fun K hK => ?_) AllReadyH.nil)
      refine step_plain rfl ?_
      go_simp
      refine hK.out _ _ trivial (fun _ => ?_)
      clear hK K
      try simp only [List.getElem_toArray, List.getElem_cons_succ, List.getElem_cons_zero, Act.put, List.setIfInBounds_toArray, List.set_cons_zero, List.set_cons_succ]
      refine wpAnyH_done (by kernel_rfl) ?_ _
      clear cu fu HOw HNw HRg HRg2 HAdd HCL HFZ c2a c2b
      have HT1 : Hid _ := HDT.out.2
      have HR1 : Hid _ := HDo.out _ w1 HDT.out.1
      clear HDT HDo
      have HSz : Hid ((w1.setCell ⟨q, 2, none⟩ (.slice va (n + 1) vc)).heap.size = w1.heap.size) := heap_set_size _ _ _
      generalize w1.setCell ⟨q, 2, none⟩ (.slice va (n + 1) vc) = W2 at *
      go_wp2_with fail
      refine Calls.mono HR1.out ?_
      rintro e w3 ⟨rfl, h1, h2⟩
      have H1 : Hid _ := h1
      have H2 : Hid _ := h2
      clear h1 h2 HR1
      go_wp2
      go_ret
      exact ⟨rfl, Ref.mono H1.out (HGr.out _ _ _ HSz.out H2.out), HT1.out.trans H2.out (HSub.out w1)⟩
    · refine step_plain rfl ?_
      go_simp
      refine hK.out _ _ trivial (fun _ => ?_)
      clear hK K
      try simp only [List.getElem_toArray, List.getElem_cons_succ, List.getElem_cons_zero, Act.put, List.setIfInBounds_toArray, List.set_cons_zero, List.set_cons_succ]
      refine wpAnyH_ready (rs := [4]) (by kernel_rfl) (by simp) (AllReadyH.cons (by simp only [List.getElem?_toArray, List.getElem?_cons_succ, List.getElem?_cons_zero]; rfl) (fun K hK => ?_) AllReadyH.nil)
      refine step_plain rfl ?_
      go_simp
      refine hK.out _ _ trivial (fun _ => ?_)
      clear hK K
      try simp only [List.getElem_toArray, List.getElem_cons_succ, List.getElem_cons_zero, Act.put, List.setIfInBounds_toArray, List.set_cons_zero, List.set_cons_succ]
      refine wpAnyH_ready (rs := [7]) (by kernel_rfl) (by simp) (AllReadyH.cons (by simp only [List.getElem?_toArray, List.getElem?_cons_succ, List.getElem?_cons_zero]; rfl) (fun K hK => ?_) AllReadyH.nil)
      refine step_append_where rfl _ _ 33 rfl 111 ia _ 3 32 Try.underlying33 HIA.out.1 HIA.out.2.1 HIA.out.2.2.1 HIA.out.2.2.2 rfl (by decide) cv n (rac L) rfl HOw.out ⟨W1.heap.size, 0, none⟩ 1 1 [Value.int .i64 bl, .string A, .bool er] rfl rfl HNw.out HOne.out (by simp only [maxLen]; omega) (by omega) ?_
      intro v' w1 r1 r2 r3
      obtain ⟨va, vc, rfl⟩ := owns_sl3 r1
      have HDT : Hid _ := HAdd.out w1 _ r1 r2 r3
      obtain ⟨uu, cu⟩ := HCL.out w1 r2
      have fu := HFZ.out w1 r2
      clear r1 r2 r3
      refine hK.out _ _ trivial (fun _ => ?_)
      clear hK K
      try simp only [List.getElem_toArray, List.getElem_cons_succ, List.getElem_cons_zero, Act.put, List.setIfInBounds_toArray, List.set_cons_zero, List.set_cons_succ]
      refine wpAnyH_take (i := 8) (v := .pointer (some ⟨q, 0, none⟩)) rfl (by kernel_rfl) (by kernel_rfl) (by kernel_rfl) (fun _ _ _ h => h) (Or.inl ⟨by rfl, by intro w _; go_simp⟩) trivial ?_
      simp only [List.getElem_toArray, List.getElem_cons_succ, List.getElem_cons_zero, Act.put, List.setIfInBounds_toArray, List.set_cons_zero, List.set_cons_succ]
      refine wpAnyH_take (i := 9) (v := .pointer (some ⟨q, 2, none⟩)) rfl (by kernel_rfl) (by kernel_rfl) (by kernel_rfl) (fun _ _ _ h => h) (Or.inl ⟨by rfl, by intro w _; go_simp⟩) trivial ?_
      simp only [List.getElem_toArray, List.getElem_cons_succ, List.getElem_cons_zero, Act.put, List.setIfInBounds_toArray, List.set_cons_zero, List.set_cons_succ]
      refine wpAnyH_ready (rs := [10]) (by kernel_rfl) (by simp) (AllReadyH.cons (by simp only [List.getElem?_toArray, List.getElem?_cons_succ, List.getElem?_cons_zero]; rfl) (fun K hK => ?_) AllReadyH.nil)
      refine step_plain rfl ?_
      go_simp
      refine hK.out _ _ trivial (fun _ => ?_)
      clear hK K
      try simp only [List.getElem_toArray, List.getElem_cons_succ, List.getElem_cons_zero, Act.put, List.setIfInBounds_toArray, List.set_cons_zero, List.set_cons_succ]
      refine wpAnyH_done (by kernel_rfl) ?_ _
      clear cu fu HOw HNw HRg HRg2 HAdd HCL HFZ c2a c2b
      have HT1 : Hid _ := HDT.out.2
      have HR1 : Hid _ := HDo.out _ w1 HDT.out.1
      clear HDT HDo
      have HSz : Hid ((w1.setCell ⟨q, 2, none⟩ (.slice va (n + 1) vc)).heap.size = w1.heap.size) := heap_set_size _ _ _
      generalize w1.setCell ⟨q, 2, none⟩ (.slice va (n + 1) vc) = W2 at *
      go_wp2_with fail
      refine Calls.mono HR1.out ?_
      rintro e w3 ⟨rfl, h1, h2⟩
      have H1 : Hid _ := h1
      have H2 : Hid _ := h2
      clear h1 h2 HR1
      go_wp2
      go_ret
      exact ⟨rfl, Ref.mono H1.out (HGr.out _ _ _ HSz.out H2.out), HT1.out.trans H2.out (HSub.out w1)⟩
end Go.Proofs.Ythlaackalmgfnaa

/- The document's device: Write, Erase, Start, Fail. -/
namespace Go.Proofs.Ythlaackalmgfnaa
open Go.RowKit

theorem built_ract (i : Int) (A : ByteArray) : Try.prog.built 111 [(0, Value.int .i64 i), (1, .string A)] = some #[.int .i64 i, .string A, .bool false] := by kernel_rfl
theorem built_ract2 (i : Int) : Try.prog.built 111 [(0, Value.int .i64 i), (2, .bool true)] = some #[.int .i64 i, .string ⟨#[]⟩, .bool true] := by kernel_rfl
theorem ratD_in {r : Rv} {i : Int} (h : ¬ (ratD r i).1 < 0) : 0 ≤ i ∧ i < r.st.length := by
  refine Classical.byContradiction fun hn => h ?_
  unfold ratD
  rw [if_neg hn]
  exact (by decide : (-1 : Int) < 0)
theorem turn_grow {O : Nat → Prop} {w w1 w' : World} {r : Rv} {q : Nat} (hb : Below w.heap.size w w1) (h : Ref w' q r (grow O w1 w') ∧ Turn O w1 w') : Ref w' q r (grow O w w') ∧ Turn O w w' :=
  ⟨h.1.mono (grow_sub hb.size), (Turn.of_below hb).trans h.2 fun _ _ h => h⟩
theorem ref_same {O : Nat → Prop} {w w1 : World} {r : Rv} {q : Nat} (h : Ref w q r O) (hb : Below w.heap.size w w1) : Ref w1 q r (grow O w w1) ∧ Turn O w w1 :=
  ⟨(h.below hb).mono fun _ h => .inl h, Turn.of_below hb⟩
set_option maxRecDepth 100000 in
theorem rwrite_any {w : World} {q : Nat} {r : Rv} {O : Nat → Prop} (h : Ref w q r O) (i : Int) (s : List UInt8) (hr : r.acts.length < 100000) (hkl : r.keep.length ≤ 1000000) (hf : r.fails = true → 0 ≤ r.left) :
    Calls Try.prog 39 #[.pointer (some ⟨q, 0, none⟩), .int .i64 i, .string (S s)] w fun e w' => e = .returned (.int .i64 (rwriteD r i s).1) ∧ Ref w' q (rwriteD r i s).2 (grow O w w') ∧ Turn O w w' := by
  have HA : Hid _ := rat_any h i (by omega)
  have HR : Hid (∀ w1, Below w.heap.size w w1 → Ref w1 q r (grow O w w1) ∧ Turn O w w1) := fun w1 hb => ref_same h hb
  have HD : Hid (¬ (ratD r i).1 < 0 → s.length = 128 → r.off = false → ∀ w1, Below w.heap.size w w1 → Calls Try.prog 63 #[.pointer (some ⟨q, 0, none⟩), .agg #[.int .i64 i, .string (S s), .bool false]] w1 fun e w' => e = .returned (.int .i64 (ractD r ⟨i, s, false⟩).1) ∧ Ref w' q (ractD r ⟨i, s, false⟩).2 (grow O w w') ∧ Turn O w w') := fun g1 g2 g3 w1 hb =>
    (ract_any (h.below hb) i s false ⟨(ratD_in g1).1, (ratD_in g1).2, fun _ => g2⟩ hr g3 hkl hf).mono fun e w' hh => ⟨hh.1, turn_grow hb hh.2⟩
  obtain ⟨a, b, ca, cb, cv, kv, h⟩ := h
  have HC : Hid (∀ wr, Below w.heap.size w wr → wr.cell? ⟨q, 3, none⟩ = some (.bool r.off)) := fun wr hb => (h.below hb).c.2.2.2.1
  obtain ⟨R, hR⟩ : ∃ R, rwriteD r i s = R := ⟨_, rfl⟩
  rw [hR]
  unfold rwriteD at hR
  have hbu := built_ract i (S s)
  have hsz : (S s).size = s.length := S_size s
  clear h hr hkl hf
  generalize ratD r i = y at *
  obtain ⟨st, t⟩ := y
  dsimp only at HA hR HD
  go_enter Try.func39, Try.ntmps39
  go_wp2_with fail
  refine Calls.mono HA.out ?_
  rintro e w1 ⟨rfl, hb⟩
  have c3 := HC.out w1 hb
  have HB : Hid _ := hb
  clear HC HA hb
  cases ho : r.off with
  | true =>
    rw [ho] at c3 hR
    rw [if_pos rfl] at hR
    subst hR
    clear ho HD
    go_wp2
    go_ret
    exact ⟨rfl, HR.out _ HB.out⟩
  | false =>
    rw [ho] at c3 hR
    rw [if_neg (by decide)] at hR
    have HD1 : Hid _ := HD.out
    clear HD
    by_cases h1 : st < 0
    · rw [if_pos (.inl h1)] at hR
      subst hR
      clear ho HD1
      go_wp2
      go_ret
      exact ⟨rfl, HR.out _ HB.out⟩
    by_cases h128 : s.length = 128
    · rw [if_neg (by rintro (e | e); exact h1 e; exact e h128)] at hR
      have HD2 : Hid _ := HD1.out (by omega) h128 ho w1 HB.out
      rw [h128] at hsz
      clear HD1 ho h128
      by_cases h2 : st = 1
      · rw [if_pos h2] at hR
        subst hR
        subst h2
        clear HD2
        go_wp2
        go_ret
        exact ⟨rfl, HR.out _ HB.out⟩
      rw [if_neg h2] at hR
      by_cases h3 : st = 2
      · rw [if_pos h3] at hR
        subst hR
        subst h3
        clear HD2
        go_wp2
        go_ret
        exact ⟨rfl, HR.out _ HB.out⟩
      rw [if_neg h3] at hR
      subst hR
      clear HR HB
      generalize S s = A at *
      go_wp2_with fail
      refine Calls.mono HD2.out ?_
      rintro e w2 ⟨rfl, h5⟩
      have H5 : Hid _ := h5
      clear h5 HD2
      go_wp2
      go_ret
      exact ⟨rfl, H5.out⟩
    · rw [if_pos (.inr h128)] at hR
      subst hR
      have hs2 : (((S s).size : Int) != 128) = true := by
        have : ¬ ((S s).size : Int) = 128 := by rw [hsz]; omega
        simpa using this
      clear ho HD1 hsz h128
      generalize S s = A at *
      go_wp2
      go_ret
      exact ⟨rfl, HR.out _ HB.out⟩
set_option maxRecDepth 100000 in
theorem rerase_any {w : World} {q : Nat} {r : Rv} {O : Nat → Prop} (h : Ref w q r O) (i : Int) (hr : r.acts.length < 100000) (hkl : r.keep.length ≤ 1000000) (hf : r.fails = true → 0 ≤ r.left) :
    Calls Try.prog 40 #[.pointer (some ⟨q, 0, none⟩), .int .i64 i] w fun e w' => e = .returned (.int .i64 (reraseD r i).1) ∧ Ref w' q (reraseD r i).2 (grow O w w') ∧ Turn O w w' := by
  have HA : Hid _ := rat_any h i (by omega)
  have HR : Hid (∀ w1, Below w.heap.size w w1 → Ref w1 q r (grow O w w1) ∧ Turn O w w1) := fun w1 hb => ref_same h hb
  have HD : Hid (¬ (ratD r i).1 < 0 → r.off = false → ∀ w1, Below w.heap.size w w1 → Calls Try.prog 63 #[.pointer (some ⟨q, 0, none⟩), .agg #[.int .i64 i, .string ⟨#[]⟩, .bool true]] w1 fun e w' => e = .returned (.int .i64 (ractD r ⟨i, [], true⟩).1) ∧ Ref w' q (ractD r ⟨i, [], true⟩).2 (grow O w w') ∧ Turn O w w') := fun g1 g3 w1 hb =>
    (ract_any (h.below hb) i [] true ⟨(ratD_in g1).1, (ratD_in g1).2, fun e => by cases e⟩ hr g3 hkl hf).mono fun e w' hh => ⟨hh.1, turn_grow hb hh.2⟩
  obtain ⟨a, b, ca, cb, cv, kv, h⟩ := h
  have HC : Hid (∀ wr, Below w.heap.size w wr → wr.cell? ⟨q, 3, none⟩ = some (.bool r.off)) := fun wr hb => (h.below hb).c.2.2.2.1
  obtain ⟨R, hR⟩ : ∃ R, reraseD r i = R := ⟨_, rfl⟩
  rw [hR]
  unfold reraseD at hR
  have hbu := built_ract2 i
  clear h hr hkl hf
  generalize ratD r i = y at *
  obtain ⟨st, t⟩ := y
  dsimp only at HA hR HD
  go_enter Try.func40, Try.ntmps40
  go_wp2_with fail
  refine Calls.mono HA.out ?_
  rintro e w1 ⟨rfl, hb⟩
  have c3 := HC.out w1 hb
  have HB : Hid _ := hb
  clear HC HA hb
  cases ho : r.off with
  | true =>
    rw [ho] at c3 hR
    rw [if_pos rfl] at hR
    subst hR
    clear ho HD
    go_wp2
    go_ret
    exact ⟨rfl, HR.out _ HB.out⟩
  | false =>
    rw [ho] at c3 hR
    rw [if_neg (by decide)] at hR
    by_cases h1 : st < 0
    · rw [if_pos h1] at hR
      subst hR
      clear ho HD
      go_wp2
      go_ret
      exact ⟨rfl, HR.out _ HB.out⟩
    rw [if_neg h1] at hR
    have HD2 : Hid _ := HD.out (by omega) ho w1 HB.out
    clear HD ho
    by_cases h2 : st = 0
    · rw [if_pos h2] at hR
      subst hR
      subst h2
      clear HD2
      go_wp2
      go_ret
      exact ⟨rfl, HR.out _ HB.out⟩
    rw [if_neg h2] at hR
    by_cases h3 : st = 2
    · rw [if_pos h3] at hR
      subst hR
      subst h3
      clear HD2
      go_wp2
      go_ret
      exact ⟨rfl, HR.out _ HB.out⟩
    rw [if_neg h3] at hR
    subst hR
    clear HR HB
    go_wp2_with fail
    refine Calls.mono HD2.out ?_
    rintro e w2 ⟨rfl, h5⟩
    have H5 : Hid _ := h5
    clear h5 HD2
    go_wp2
    go_ret
    exact ⟨rfl, H5.out⟩
theorem rstart_any {w : World} {q : Nat} {r : Rv} {O : Nat → Prop} (h : Ref w q r O) (hb : r.begun < 1000000) :
    Calls Try.prog 43 #[.pointer (some ⟨q, 0, none⟩)] w fun e w' => e = .returned (.int .i64 (rstartD r).1) ∧ Ref w' q (rstartD r).2 O ∧ Turn O w w' := by
  obtain ⟨a, b, ca, cb, cv, kv, h⟩ := h
  obtain ⟨-, -, -, c3, c4, -⟩ := h.c
  cases ho : r.off with
  | false =>
    have he : rstartD r = (2, r) := by unfold rstartD; rw [if_pos ho]
    rw [he]
    rw [ho] at c3
    have HR : Hid (Ref w q r O) := ⟨_, _, _, _, _, _, h⟩
    clear h he ho
    go_enter Try.func43, Try.ntmps43
    go_wp2
    go_ret
    exact ⟨rfl, HR.out, Turn.refl _ _⟩
  | true =>
    have he : rstartD r = (0, { r with off := false, begun := r.begun + 1 }) := by unfold rstartD; rw [if_neg (by rw [ho]; decide)]
    rw [he]
    rw [ho] at c3
    have f3 : w.frozen? ⟨q, 3, none⟩ = false := frozen_of_row _ _ _ _ _ h.cells
    have hc1 := heap_set_same (o := 3) (v := .bool false) h.cells
    have f4 : (w.setCell ⟨q, 3, none⟩ (.bool false)).frozen? ⟨q, 4, none⟩ = false := frozen_of_row _ _ _ _ _ hc1
    have d4 : (w.setCell ⟨q, 3, none⟩ (.bool false)).cell? ⟨q, 4, none⟩ = some (.int .i64 (r.begun : Int)) := by rw [cell_of_row _ _ _ _ _ _ hc1]; rfl
    have HR : Hid (RefAt ((w.setCell ⟨q, 3, none⟩ (.bool false)).setCell ⟨q, 4, none⟩ (.int .i64 ((r.begun : Int) + 1))) q { r with off := false, begun := r.begun + 1 } O a b ca cb cv kv) :=
      h.setQ false (r.begun + 1) r.fails r.left h.lo h.hi (fun k hk => by rw [Below.heap_setCell _ _ _ _ hk, Below.heap_setCell _ _ _ _ hk]) (by rw [heap_set_size, heap_set_size]) (by rw [heap_set_same hc1]; rfl)
    have HT : Hid (Turn O w ((w.setCell ⟨q, 3, none⟩ (.bool false)).setCell ⟨q, 4, none⟩ (.int .i64 ((r.begun : Int) + 1)))) := ((Turn.refl _ _).setCell h.q_.1 _).setCell h.q_.1 _
    have hbb : (r.begun : Int) < 1000000 := by omega
    have hb0 : 0 ≤ (r.begun : Int) := by omega
    clear h he ho hc1 hb
    generalize (r.begun : Int) = bg at *
    go_enter Try.func43, Try.ntmps43
    go_wp2
    go_ret
    exact ⟨rfl, ⟨_, _, _, _, _, _, HR.out⟩, HT.out⟩
end Go.Proofs.Ythlaackalmgfnaa

namespace Go.Proofs.Ythlaackalmgfnaa
open Go.RowKit

theorem RefAt.setKeep {w w1 W : World} {q : Nat} {r : Rv} {O : Nat → Prop} {a b ca cb : Nat} {cv kv v : Value} (h : RefAt w q r O a b ca cb cv kv) (hb : Below w.heap.size w w1) {k : List Int} (n : Int) (h0 : 0 ≤ n) (hn : n < 9223372036854775808) (hk : IntsAt w1 v k) (hv : ∀ i, v.ownBlock = some i → w.heap.size ≤ i ∧ i < w1.heap.size)
    (hW : W = ((w1.setCell ⟨q, 5, none⟩ (.bool true)).setCell ⟨q, 6, none⟩ (.int .i64 n)).setCell ⟨q, 7, none⟩ v) : RefAt W q { r with fails := true, left := n, keep := k } (grow O w W) a b ca cb cv v ∧ Turn O w W := by
  obtain ⟨n1, n2, n3, n4, n5⟩ := rnodup h.nodup
  obtain ⟨oq, oa, ob, lq, la, lb⟩ := h.q_
  have hs := hb.size
  have hsz : W.heap.size = w1.heap.size := by rw [hW, heap_set_size, heap_set_size, heap_set_size]
  have old : ∀ k, k ≠ q → W.heap[k]? = w1.heap[k]? := fun k hkp => by
    rw [hW, Below.heap_setCell _ _ _ _ hkp, Below.heap_setCell _ _ _ _ hkp, Below.heap_setCell _ _ _ _ hkp]
  have olds : ∀ k, k < w.heap.size → k ≠ q → W.heap[k]? = w.heap[k]? := fun k hk hkp => by rw [old k hkp, hb.block k hk]
  have cvl : ∀ k, cv.ownBlock = some k → k < w.heap.size := fun k hk => (h.own k (by simp [rblocks, hk])).2
  have vne : ∀ k, v.ownBlock = some k → k ≠ q ∧ k ≠ a ∧ k ≠ b := fun k hk => by
    have := hv k hk
    exact ⟨by omega, by omega, by omega⟩
  refine ⟨⟨?_, h.st.same (olds a la n1.symm), h.da.same (olds b lb n2.symm), h.len, h.pos, h.small, owns_same h.acts fun k hk => olds k (cvl k hk) (n4 k hk).1, h.inr, hk.same fun k hk => old k (vne k hk).1, by show -9223372036854775808 < n; omega, hn, ?_, ?_⟩, ?_⟩
  · have e : w1.heap[q]? = some _ := (hb.block q lq).trans h.cells
    rw [hW, heap_set_same (heap_set_same (heap_set_same e))]; rfl
  · simp only [rblocks, List.nodup_cons, List.mem_cons, List.mem_append, Option.mem_toList, List.nodup_append, not_or]
    refine ⟨⟨n1, n2, fun e => (n4 q e).1 rfl, fun e => (vne q e).1 rfl⟩, ⟨n3, fun e => (n4 a e).2.1 rfl, fun e => (vne a e).2.1 rfl⟩, ⟨fun e => (n4 b e).2.2.1 rfl, fun e => (vne b e).2.2 rfl⟩, ?_, ?_, ?_⟩
    · cases cv.ownBlock <;> simp
    · cases v.ownBlock <;> simp
    · intro x hx y hy e
      have h4 := cvl x hx
      have := hv y hy
      omega
  · intro k hk
    rw [hsz]
    have stay : k ∈ rblocks q a b cv kv → grow O w W k ∧ k < w1.heap.size := fun hm => ⟨.inl (h.own k hm).1, by have := (h.own k hm).2; omega⟩
    simp only [rblocks, List.mem_cons, List.mem_append, Option.mem_toList] at hk
    rcases hk with hk | hk | hk | hk | hk
    · exact stay (by simp [rblocks, hk])
    · exact stay (by simp [rblocks, hk])
    · exact stay (by simp [rblocks, hk])
    · exact stay (by simp [rblocks, hk])
    · have := hv k hk
      exact ⟨.inr ⟨this.1, by omega⟩, this.2⟩
  · rw [hW]
    exact (((Turn.of_below hb).setCell oq _).setCell oq _).setCell oq _
theorem append_nothing {P : Program} {w : World} (t ty e : TypeId) (i : TypeInfo) (ht : P.underlying t = some (.slice e)) (hi : P.info? e = some i) (a : Addr) (n c c' : Nat) (hn : n ≤ c) :
    (Builtin.append_ #[t, t] ty #[.slice (some a) n c, .slice none 0 c']).run P w = .ok (.slice (some a) n c) w := by
  simp [Builtin.append_, run_underlying ht, sizeOf, typeInfo, hi, Builtin.lenOf, Builtin.firstCells, loadCells, hn, storeCells]
theorem owns_slice0 {w : World} {e : TypeId} {v : Value} {n B : Nat} {xs : List Value} {s : Nat} (h : w.ownsRow B e s v n xs) : ∃ a c, v = .slice a n c := by
  rcases h.2 with ⟨q1, q2⟩ | ⟨g, cap, cur, q1, _⟩
  · exact ⟨none, 0, by rw [q1, q2]⟩
  · exact ⟨_, _, q1⟩
theorem fail_cells {w1 : World} {q : Nat} {C : Array Value} {t : TypeId} {x5 x6 x7 : Value} (n : Int) (h : w1.heap[q]? = some (.cells C t (0, 0))) (h5 : C[5]? = some x5) (h6 : C[6]? = some x6) (h7 : C[7]? = some x7) :
    w1.cell? ⟨q, 5, none⟩ = some x5 ∧ w1.frozen? ⟨q, 5, none⟩ = false ∧ (w1.setCell ⟨q, 5, none⟩ (.bool true)).cell? ⟨q, 6, none⟩ = some x6 ∧ (w1.setCell ⟨q, 5, none⟩ (.bool true)).frozen? ⟨q, 6, none⟩ = false ∧ ((w1.setCell ⟨q, 5, none⟩ (.bool true)).setCell ⟨q, 6, none⟩ (.int .i64 n)).cell? ⟨q, 7, none⟩ = some x7 ∧ ((w1.setCell ⟨q, 5, none⟩ (.bool true)).setCell ⟨q, 6, none⟩ (.int .i64 n)).frozen? ⟨q, 7, none⟩ = false := by
  have e5 := heap_set_same (o := 5) (v := .bool true) h
  have e6 := heap_set_same (o := 6) (v := .int .i64 n) e5
  refine ⟨by rw [cell_of_row _ _ _ _ _ _ h]; exact h5, frozen_of_row _ _ _ _ _ h, by rw [cell_of_row _ _ _ _ _ _ e5, Array.getElem?_setIfInBounds_ne (by decide)]; exact h6, frozen_of_row _ _ _ _ _ e5, by rw [cell_of_row _ _ _ _ _ _ e6, Array.getElem?_setIfInBounds_ne (by decide), Array.getElem?_setIfInBounds_ne (by decide)]; exact h7, frozen_of_row _ _ _ _ _ e6⟩
set_option maxRecDepth 100000 in
set_option maxHeartbeats 1600000 in
theorem rfail_any {w : World} {q : Nat} {r : Rv} {O : Nat → Prop} (h : Ref w q r O) (n : Int) (hn : n < 9223372036854775808) {kq : Value} {k : List Int} (hk : IntsAt w kq k) (hkl : k.length ≤ 1000000) :
    Calls Try.prog 44 #[.pointer (some ⟨q, 0, none⟩), .int .i64 n, kq] w fun e w' => e = .returned (.int .i64 (rfailD r n k).1) ∧ Ref w' q (rfailD r n k).2 (grow O w w') ∧ Turn O w w' := by
  have HR : Hid (Ref w q r (grow O w w) ∧ Turn O w w) := ref_same h (Below.refl _ _)
  obtain ⟨a, b, ca, cb, cv, kv, h⟩ := h
  obtain ⟨-, -, -, c3, -, c5, c6, c7⟩ := h.c
  cases ho : r.off with
  | true =>
    have he : rfailD r n k = (43, r) := by unfold rfailD; rw [ho]; rfl
    rw [he]
    rw [ho] at c3
    clear h he ho hk
    go_enter Try.func44, Try.ntmps44
    go_wp2
    go_ret
    exact ⟨rfl, HR.out⟩
  | false =>
    rw [ho] at c3
    by_cases h0 : n < 0
    · have he : rfailD r n k = (2, r) := by unfold rfailD; rw [ho, if_neg (by decide), if_pos h0]
      rw [he]
      clear h he ho hk
      go_enter Try.func44, Try.ntmps44
      go_wp2
      go_ret
      exact ⟨rfl, HR.out⟩
    · have he : rfailD r n k = (0, { r with fails := true, left := n, keep := k }) := by unfold rfailD; rw [ho, if_neg (by decide), if_neg h0]
      rw [he]
      obtain ⟨ka, kc, rfl, hk2⟩ := id hk
      have h0' : 0 ≤ n := by omega
      have HSt : Hid (∀ (w1 : World) (v : Value), Below w.heap.size w w1 → IntsAt w1 v k → (∀ i, v.ownBlock = some i → w.heap.size ≤ i ∧ i < w1.heap.size) → RefAt (((w1.setCell ⟨q, 5, none⟩ (.bool true)).setCell ⟨q, 6, none⟩ (.int .i64 n)).setCell ⟨q, 7, none⟩ v) q { r with fails := true, left := n, keep := k } (grow O w (((w1.setCell ⟨q, 5, none⟩ (.bool true)).setCell ⟨q, 6, none⟩ (.int .i64 n)).setCell ⟨q, 7, none⟩ v)) a b ca cb cv v ∧ Turn O w (((w1.setCell ⟨q, 5, none⟩ (.bool true)).setCell ⟨q, 6, none⟩ (.int .i64 n)).setCell ⟨q, 7, none⟩ v)) := fun w1 v hb g1 g2 => h.setKeep hb n h0' hn g1 g2 rfl
      have HCl : Hid (∀ w1, Below w.heap.size w w1 → w1.heap[q]? = some (.cells #[.slice (some ⟨a, 0, none⟩) r.st.length ca, .slice (some ⟨b, 0, none⟩) r.st.length cb, cv, .bool r.off, .int .i64 (r.begun : Int), .bool r.fails, .int .i64 r.left, kv] 35 (0, 0))) := fun w1 hb => (h.below hb).cells
      have HB0 : Hid (Below w.heap.size w (w.alloc (.cells #[] 3))) := (Below.refl _ _).alloc (Nat.le_refl _) _
      obtain ⟨ia, i1, i2, i3, i4⟩ := info_int
      have HIA : Hid (Try.prog.info? 3 = some ia ∧ ia.zero = some (.int .i64 0) ∧ ia.size = 1 ∧ ia.bytes = 8) := ⟨i1, i2, i3, i4⟩
      have HO : Hid ((w.alloc (.cells #[] 3)).ownsRow w.heap.size 3 1 (.slice (some ⟨w.heap.size, 0, none⟩) 0 0) 0 []) := World.ownsRow_made w #[] 0 (Nat.le_refl _) (by simp [maxLen]) (by simp)
      cases ka with
      | none =>
        have hk0 : k = [] := by
          cases k with
          | nil => rfl
          | cons x k => obtain ⟨_, _, h, _⟩ := hk2 0 x rfl; cases h
        subst hk0
        have hap := fun ty => append_nothing (P := Try.prog) (w := w.alloc (.cells #[] 3)) 31 ty 3 ia Try.underlying31 i1 ⟨w.heap.size, 0, none⟩ 0 0 kc (Nat.le_refl _)
        obtain ⟨q5, g5, q6, g6, q7, g7⟩ := fail_cells n (HCl.out _ HB0.out) rfl rfl rfl
        have HRR : Hid _ := HSt.out _ (.slice (some ⟨w.heap.size, 0, none⟩) 0 0) HB0.out ⟨_, _, rfl, fun i n hi => by simp at hi⟩ (fun i hi => by simp [Value.ownBlock] at hi; simp; omega)
        clear h HSt HCl HB0 hk hk2 he i1 i2 i3 i4 ho HIA HO HR hn hkl c5 c6 c7
        go_enter Try.func44, Try.ntmps44
        go_wp2
        go_ret
        exact ⟨rfl, ⟨_, _, _, _, _, _, HRR.out.1⟩, HRR.out.2⟩
      | some ad =>
        have HN : Hid (∀ j u, (k.map (Value.int .i64))[j]? = some u → (w.alloc (.cells #[] 3)).cell? (ad.add j) = some u) := fun j u hj => by
          rw [List.getElem?_map] at hj
          cases hkj : k[j]? with
          | none => rw [hkj] at hj; cases hj
          | some n =>
            rw [hkj] at hj
            obtain ⟨b, o, e, hc⟩ := hk2 j n hkj
            obtain rfl : ad = ⟨b, o, none⟩ := by simpa using e
            obtain rfl : Value.int .i64 n = u := by simpa using hj
            rw [Addr.add_mid, World.cell?_alloc_some _ _ _ (by rw [hc]; rfl)]
            exact hc
        have HM : Hid ((k.map (Value.int .i64)).length = k.length * 1) := by show _ = _; simp
        have H1 : Hid (∀ u ∈ k.map (Value.int .i64), u.oneCell' = true) := fun u hu => by
          simp only [List.mem_map] at hu
          obtain ⟨x, _, rfl⟩ := hu
          rfl
        have HFc : Hid (∀ w1, Below w.heap.size w w1 → w1.cell? ⟨q, 5, none⟩ = some (.bool r.fails) ∧ w1.frozen? ⟨q, 5, none⟩ = false ∧ (w1.setCell ⟨q, 5, none⟩ (.bool true)).cell? ⟨q, 6, none⟩ = some (.int .i64 r.left) ∧ (w1.setCell ⟨q, 5, none⟩ (.bool true)).frozen? ⟨q, 6, none⟩ = false ∧ ((w1.setCell ⟨q, 5, none⟩ (.bool true)).setCell ⟨q, 6, none⟩ (.int .i64 n)).cell? ⟨q, 7, none⟩ = some kv ∧ ((w1.setCell ⟨q, 5, none⟩ (.bool true)).setCell ⟨q, 6, none⟩ (.int .i64 n)).frozen? ⟨q, 7, none⟩ = false) := fun w1 hb => fail_cells n (HCl.out w1 hb) rfl rfl rfl
        have HL : Hid (k.length ≤ 1000000) := hkl
        clear h HCl hk hk2 he i1 i2 i3 i4 ho HR hn hkl c5 c6 c7
        go_enter Try.func44, Try.ntmps44
        go_wp2_with (refine wpList_append_own _ rfl _ _ 31 rfl w.heap.size 3 ia (.int .i64 0) 1 8 Try.underlying31 HIA.out.1 HIA.out.2.1 HIA.out.2.2.1 HIA.out.2.2.2 rfl (by omega) (.slice (some ⟨w.heap.size, 0, none⟩) 0 0) 0 [] rfl HO.out ad k.length kc (k.map (Value.int .i64)) rfl HM.out HN.out H1.out (by have := HL.out; simp only [maxLen]; omega) (by have := HL.out; omega) (by simp) ?_; intro v' w1 r1 r2 r3; have HRo : Hid (w1.ownsRow w.heap.size 3 1 v' k.length (k.map (Value.int .i64)) ∧ Below w.heap.size w w1) := ⟨by simpa using r1, ((Below.refl w.heap.size w).alloc (Nat.le_refl _) _).grown r2 (by simp) (fun k hk => by simp [Value.ownBlock] at hk; omega)⟩; have hsl := owns_slice0 HRo.out.1; obtain ⟨va, vc, hv'⟩ := hsl; subst hv'; obtain ⟨q5, g5, q6, g6, q7, g7⟩ := HFc.out w1 HRo.out.2; clear r1 r2 r3)
        have HRR : Hid _ := HSt.out w1 _ HRo.out.2 (ints_of_owns HRo.out.1).1 (ints_of_owns HRo.out.1).2
        go_ret
        exact ⟨rfl, ⟨_, _, _, _, _, _, HRR.out.1⟩, HRR.out.2⟩
end Go.Proofs.Ythlaackalmgfnaa
