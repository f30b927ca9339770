/- slices.DeleteFunc over acts, with Tamper's closure. -/
import Derived.Test.YthlaackalmgfnabDs
namespace Go.Proofs.Ythlaackalmgfnab
open Go.RowKit

theorem setCells_same {b : Nat} {t : TypeId} {fr : Nat × Nat} : ∀ (vs : List Value) (o : Nat) (w : World) (cs : Array Value), w.heap[b]? = some (.cells cs t fr) → ∃ cs' : Array Value, (w.setCells b o vs).heap[b]? = some (.cells cs' t fr) ∧ cs'.size = cs.size ∧ cs'.toList.take o = cs.toList.take o
  | [], _, _, cs, h => ⟨cs, h, rfl, rfl⟩
  | v :: r, o, w, cs, h => by
    obtain ⟨cs', h1, h2, h3⟩ := setCells_same r (o + 1) (w.setCell ⟨b, o, none⟩ v) (cs.setIfInBounds o v) (heap_set_same h)
    refine ⟨cs', h1, by rw [h2]; simp, ?_⟩
    have := congrArg (List.take o) h3
    rw [List.take_take, List.take_take, Nat.min_eq_left (by omega), Array.toList_setIfInBounds, List.take_set_of_le (Nat.le_refl _)] at this
    exact this
theorem setCells_other {b k : Nat} (hk : k ≠ b) : ∀ (vs : List Value) (o : Nat) (w : World), (w.setCells b o vs).heap[k]? = w.heap[k]?
  | [], _, _ => rfl
  | v :: r, o, w => by
    show ((w.setCell ⟨b, o, none⟩ v).setCells b (o + 1) r).heap[k]? = _
    rw [setCells_other hk r, Below.heap_setCell _ _ _ _ hk]
theorem Turn.setCells {O : Nat → Prop} {u : World} {b : Nat} (hb : O b) : ∀ (vs : List Value) (o : Nat) (w : World), Turn O u w → Turn O u (w.setCells b o vs)
  | [], _, _, h => h
  | v :: r, o, _, h => Turn.setCells hb r (o + 1) _ (h.setCell hb v)
/-- What is left of acts. -/
def delA (L : List Ac) (i : Int) : List Ac := L.filter fun y => !isAt i y
theorem delA_none {L : List Ac} {i : Int} (h : idxA L i = -1) : delA L i = L := by
  unfold idxA at h
  split at h
  · rename_i hn
    rw [List.findIdx?_eq_none_iff] at hn
    unfold delA
    exact List.filter_eq_self.2 fun y hy => by rw [hn y hy]; rfl
  · omega
/-- In the midst of it. -/
structure InDel (w : World) (g cap : Nat) (L : List Ac) (i : Int) (k j : Nat) (wr : World) : Prop where
  turn : Turn (fun b => b = g) w wr
  row : ∃ cur : Array Value, wr.heap[g]? = some (.cells cur 79 (0, 0)) ∧ cur.size = cap ∧ cur.toList.take k = (delA (L.take j) i).map acV ∧ ∀ m y, j ≤ m → L[m]? = some y → cur[m]? = some (acV y)
  len : k = (delA (L.take j) i).length
  lt : k < j
  le : j ≤ L.length
theorem zero_act : ∀ w : World, (zeroValue 79).run Try.prog w = .ok .nilIface w := fun _ => by kernel_rfl
theorem delA_succ {L : List Ac} {i : Int} {j : Nat} {y : Ac} (hy : L[j]? = some y) : delA (L.take (j + 1)) i = if isAt i y then delA (L.take j) i else delA (L.take j) i ++ [y] := by
  unfold delA
  rw [List.take_add_one, hy]
  simp only [Option.toList_some, List.filter_append, List.filter_cons, List.filter_nil]
  cases isAt i y <;> simp
set_option maxRecDepth 100000 in
set_option maxHeartbeats 1600000 in
theorem delete_any {w : World} {x : Option Addr} {c B : Nat} {i : Int} {L : List Ac} (h : w.ownsRow 0 79 1 (.slice x L.length c) L.length (L.map acV)) (hb : w.cell? ⟨B, 0, none⟩ = some (.int .i64 i)) (hl : L.length ≤ 1000000) (hne : ∀ g, x = some g → g.block ≠ B) :
    Calls Try.prog 41 #[.slice x L.length c, fnV B] w fun e w' => e = .returned (.slice x (delA L i).length c) ∧ w'.ownsRow 0 79 1 (.slice x (delA L i).length c) (delA L i).length ((delA L i).map acV) ∧ Turn (fun b => ∃ g, x = some g ∧ b = g.block) w w' := by
  have HIx : Hid (Calls Try.prog 50 #[.slice x L.length c, fnV B] w fun e w' => e = .returned (.int .i64 (idxA L i)) ∧ Below w.heap.size w w') := index_any h hb (by omega)
  by_cases hi : idxA L i = -1
  · have hd := delA_none hi
    rw [hi] at HIx
    rw [hd]
    have HO : Hid (w.ownsRow 0 79 1 (.slice x L.length c) L.length (L.map acV)) := h
    clear h hb hne hi hd
    generalize fnV B = FV at *
    go_enter Try.func41, Try.ntmps41
    go_wp2_with fail
    refine Calls.mono HIx.out ?_
    rintro e w2 ⟨rfl, b2⟩
    have HR : Hid (w2.ownsRow 0 79 1 (.slice x L.length c) L.length (L.map acV) ∧ Turn (fun b => ∃ g, x = some g ∧ b = g.block) w w2) := ⟨owns_same HO.out fun k hk => b2.block k (World.ownsRow.lt HO.out k hk).2, Turn.of_below b2⟩
    clear b2 HIx HO
    go_wp2
    go_ret
    exact ⟨rfl, HR.out⟩
  · obtain ⟨k0, hk0, hf0⟩ : ∃ k0 : Nat, idxA L i = (k0 : Int) ∧ L.findIdx? (isAt i) = some k0 := by
      unfold idxA at hi ⊢
      cases hq : L.findIdx? (isAt i) with
      | none => rw [hq] at hi; exact absurd rfl hi
      | some k => exact ⟨k, rfl, rfl⟩
    rw [List.findIdx?_eq_some_iff_getElem] at hf0
    obtain ⟨hkl, hk1, hk2⟩ := hf0
    have hd0 : delA (L.take k0) i = L.take k0 := by
      unfold delA
      refine List.filter_eq_self.2 fun y hy => ?_
      obtain ⟨m, hm, rfl⟩ := List.mem_take_iff_getElem.1 hy
      have := hk2 m (by omega)
      simpa using this
    have hd1 : delA (L.take (k0 + 1)) i = L.take k0 := by
      rw [delA_succ (List.getElem?_eq_getElem hkl), if_pos hk1, hd0]
    obtain ⟨hlen, hrow⟩ := h
    rcases hrow with ⟨h1, h2⟩ | ⟨g, cap, cur, h1, _, hg, hcap, hmx, hcs, htk⟩
    · omega
    obtain ⟨rfl, rfl⟩ : x = some ⟨g, 0, none⟩ ∧ c = cap := by simp at h1; exact h1
    have hgB : g ≠ B := hne _ rfl
    have HST : Hid (InDel w g c L i k0 (k0 + 1) w) := by
      refine ⟨Turn.refl _ _, ⟨cur, hg, by omega, ?_, fun m y hm hy => ?_⟩, by rw [hd1]; simp; omega, by omega, by omega⟩
      · rw [hd1]
        have := congrArg (List.take k0) htk
        rw [List.take_take, Nat.min_eq_left (by omega), ← List.map_take] at this
        exact this
      · have hml := (List.getElem?_eq_some_iff.1 hy).1
        have e : (L.map acV)[m]? = some (acV y) := by rw [List.getElem?_map, hy]; rfl
        rw [← htk, List.getElem?_take] at e
        rw [← Array.getElem?_toList]
        simpa [hml] using e
    have HBx : Hid (∀ wr, Turn (fun b => b = g) w wr → wr.cell? ⟨B, 0, none⟩ = some (.int .i64 i)) := fun wr ht => by
      rw [World.cell?_of_block (ht.block B (World.block_lt_of_cell? w _ hb) (fun e => hgB e.symm))]; exact hb
    have HC : Hid (L.length ≤ c ∧ c ≤ maxLen) := ⟨hcap, hmx⟩
    rw [hk0] at HIx
    have heg := eg1
    clear hlen hcs htk h1 hcap hmx hd0 hd1 hk1 hk2 hi hk0 hb hne hg
    unfold fnV at *
    go_enter Try.func41, Try.ntmps41
    go_wp2_with fail
    refine Calls.mono HIx.out ?_
    rintro e w2 ⟨rfl, b2⟩
    have HS2 : Hid (InDel w g c L i k0 (k0 + 1) w2) := by
      have := HST.out
      obtain ⟨cur, q1, q2⟩ := this.row
      exact ⟨this.turn.then_below b2, ⟨cur, by rw [b2.block g (Array.getElem?_eq_some_iff.1 q1).1]; exact q1, q2⟩, this.len, this.lt, this.le⟩
    have hkm : ((k0 : Int) == -1) = false := by
      simp only [beq_eq_false_iff_ne, ne_eq]
      omega
    clear b2 HIx HST
    go_wp2
    go_loopw [5, 6] (fun kv jv wr => ∃ k j : Nat, kv = .int .i64 k ∧ jv = .int .i64 j ∧ InDel w g c L i k j wr) (fun _ jv _ => L.length - (intOf jv).toNat)
    case atStart => exact ⟨k0, k0 + 1, rfl, by go_num, HS2.out⟩
    case round =>
      obtain ⟨k, j, rfl, rfl, hI⟩ := hrel
      clear HS2
      have hkj := hI.lt
      have hjl := hI.le
      obtain ⟨hLc, hcm⟩ := HC.out
      by_cases hlt : j < L.length
      · obtain ⟨y, hy⟩ : ∃ y, L[j]? = some y := ⟨_, List.getElem?_eq_getElem hlt⟩
        obtain ⟨cur, hg, hcs, htk, hrest⟩ := hI.row
        have cj : wr.cell? ⟨g, j, none⟩ = some (acV y) := by rw [cell_of_row _ _ _ _ _ _ hg]; exact hrest j y (Nat.le_refl _) hy
        have hlt2 : (j : Int) < (L.length : Int) := by omega
        have hgl : g < wr.heap.size := (Array.getElem?_eq_some_iff.1 hg).1
        have HT : Hid (Calls Try.prog 42 #[acV y, .pointer (some ⟨B, 0, none⟩)] wr fun e w' => e = .returned (.bool (isAt i y)) ∧ Below wr.heap.size wr w') := t1_any y i B wr (HBx.out wr hI.turn)
        have hds := delA_succ (i := i) hy
        have HN : Hid (∀ w3, Below wr.heap.size wr w3 → (isAt i y = true → InDel w g c L i k (j + 1) w3) ∧ (isAt i y = false → InDel w g c L i (k + 1) (j + 1) (w3.setCell ⟨g, k, none⟩ (acV y)) ∧ w3.frozen? ⟨g, k, none⟩ = false ∧ ∃ v, w3.cell? ⟨g, k, none⟩ = some v)) := fun w3 b3 => by
          have hg3 : w3.heap[g]? = some (.cells cur 79 (0, 0)) := by rw [b3.block g hgl]; exact hg
          refine ⟨fun ht => ?_, fun hf => ⟨?_, frozen_of_row _ _ _ _ _ hg3, ?_⟩⟩
          · rw [if_pos ht] at hds
            exact ⟨hI.turn.then_below b3, ⟨cur, hg3, hcs, by rw [hds]; exact htk, fun m z hm hz => hrest m z (by omega) hz⟩, by rw [hds]; exact hI.len, by omega, by omega⟩
          · rw [if_neg (by rw [hf]; simp)] at hds
            refine ⟨(hI.turn.then_below b3).setCell rfl _, ⟨cur.setIfInBounds k (acV y), heap_set_same hg3, by simp [hcs], ?_, fun m z hm hz => ?_⟩, by rw [hds]; simp [← hI.len], by omega, by omega⟩
            · rw [hds, List.map_append, ← htk, Array.toList_setIfInBounds, List.take_add_one, List.take_set_of_le (Nat.le_refl _), List.getElem?_set_self (by simp; omega)]
              rfl
            · rw [Array.getElem?_setIfInBounds_ne (by omega)]
              exact hrest m z (by omega) hz
          · rw [cell_of_row _ _ _ _ _ _ hg3]
            exact ⟨_, Array.getElem?_eq_getElem (by omega)⟩
        clear hI hg hcs htk hrest hds hgl hy
        generalize isAt i y = r at *
        obtain ⟨T, V, F, hV, -⟩ := act_place y
        rw [hV] at HT HN cj
        clear hV
        go_wp2_with fail
        refine Calls.mono HT.out ?_
        rintro e w3 ⟨rfl, b3⟩
        obtain ⟨n1, n2⟩ := HN.out w3 b3
        clear b3 HT cj HN
        cases r with
        | true =>
          have HN1 : Hid _ := n1 rfl
          clear n1 n2
          go_wp2
          go_roundw
          case rel => exact ⟨k, j + 1, rfl, by go_num, HN1.out⟩
          case measure => simp [intOf]; omega
        | false =>
          obtain ⟨m1, fk, vk, ck⟩ := n2 rfl
          have HN1 : Hid _ := m1
          have hk2 : (k : Int) < (L.length : Int) := by omega
          clear n1 n2 m1
          go_wp2
          go_roundw
          case rel => exact ⟨k + 1, j + 1, by go_num, by go_num, HN1.out⟩
          case measure => simp [intOf]; omega
      · obtain rfl : j = L.length := by omega
        obtain ⟨cur, hg, hcs, htk, hrest⟩ := hI.row
        have hlen := hI.len
        rw [List.take_of_length_le (Nat.le_refl _)] at htk hlen
        have hlt2 : ¬ ((L.length : Nat) : Int) < (L.length : Int) := by omega
        have hcl : ∀ ty, (Builtin.clear_ #[58] ty #[.slice (some ⟨g, k, none⟩) (L.length - k) (c - k)]).run Try.prog wr = .ok (.tuple #[]) (wr.setCells g k (List.replicate (L.length - k) .nilIface)) := fun ty => Lib.run_clear_slice wr 58 79 ty .nilIface Try.underlying58 zero_act rfl rfl g k (L.length - k) (c - k) (by omega) (fun m hm => by
          rw [cell_of_row _ _ _ _ _ _ hg, Array.getElem?_eq_getElem (by omega)]; rfl) (fun m hm => frozen_of_row _ _ _ _ _ hg)
        have HR : Hid ((wr.setCells g k (List.replicate (L.length - k) .nilIface)).ownsRow 0 79 1 (.slice (some ⟨g, 0, none⟩) (delA L i).length c) (delA L i).length ((delA L i).map acV) ∧ Turn (fun b => ∃ a : Addr, some ⟨g, 0, none⟩ = some a ∧ b = a.block) w (wr.setCells g k (List.replicate (L.length - k) .nilIface))) := by
          obtain ⟨cs', r1, r2, r3⟩ := setCells_same (List.replicate (L.length - k) .nilIface) k wr cur hg
          have ht2 : Turn (fun b => ∃ a : Addr, some ⟨g, 0, none⟩ = some a ∧ b = a.block) w wr := hI.turn.trans (Turn.refl (fun b => b = g) wr) (fun _ _ h => h) |>.trans (Turn.refl _ _) (fun _ _ h => h) |> fun h => ⟨h.os, h.tape, h.output, h.size, fun q hq hn => h.block q hq (fun e => hn ⟨_, rfl, e⟩)⟩
          refine ⟨⟨by simp, .inr ⟨g, c, cs', rfl, Nat.zero_le _, r1, by omega, hcm, by omega, ?_⟩⟩, Turn.setCells ⟨_, rfl, rfl⟩ _ _ _ ht2⟩
          rw [Nat.mul_one, ← hlen, r3, htk]
        have HR2 : Hid (Turn (fun b => b = g) w (wr.setCells g k (List.replicate (L.length - k) .nilIface))) := Turn.setCells (O := fun b => b = g) rfl _ _ _ hI.turn
        have hk2 : (k : Int) ≤ (L.length : Int) := by omega
        have hk3 : (k : Int) ≤ (c : Int) := by omega
        have HLn : Hid (k = (delA L i).length) := hlen
        clear hI hg hcs htk hrest hlt HC hlen
        go_wp2
        go_ret
        exact ⟨by rw [← HLn.out]; rfl, HR.out.1, HR2.out⟩
end Go.Proofs.Ythlaackalmgfnab
