/- Tampered with: plainly. -/
import Derived.Test.YthlaackalmgfnaaDg
import Derived.Test.YthlaackalmgfnaaDn
import Derived.Lib.SliceRun
import Derived.Test.YthlaackalmgfnaaDj
import Derived.Test.YthlaackalmgfnaaDf
import Derived.Test.YthlaackalmgfnaaEo
/- What Tamper's closure says of an act. -/
namespace Go.Proofs.Ythlaackalmgfnaa
open Go.RowKit

set_option maxRecDepth 100000 in
set_option linter.unusedSimpArgs false in
theorem t1_any (y : Ac) (i : Int) (B : Nat) (W : World) (hc : W.cell? ⟨B, 0, none⟩ = some (.int .i64 i)) : Calls Try.prog 62 #[acV y, .pointer (some ⟨B, 0, none⟩)] W fun e w' => e = .returned (.bool (decide ((y.at_ : Int) = i))) ∧ Below W.heap.size W w' := by
  obtain ⟨T, V, F, hV, hM, hCF, hP⟩ := act_place y
  rw [hV]
  have HP : Hid (∀ w : World, Calls Try.prog F #[V] w fun e w' => e = .returned (.int .i64 (y.at_ : Int)) ∧ Below w.heap.size w w') := hP
  obtain ⟨n, hn⟩ : ∃ n, ((y.at_ : Nat) : Int) = n := ⟨_, rfl⟩
  rw [hn] at HP
  rw [hn]
  have hd : (n == i) = decide (n = i) := rfl
  obtain ⟨r, hr⟩ : ∃ r, decide (n = i) = r := ⟨_, rfl⟩
  rw [hr] at hd
  rw [hr]
  have HB0 : Hid (Below W.heap.size W W.drew) := (Below.refl _ _).drew
  have HL : Hid (B < W.heap.size) := World.block_lt_of_cell? W _ hc
  have HS : W.drew.cell? ⟨B, 0, none⟩ = some (.int .i64 i) := hc
  clear hP hV hn hr hc
  go_enter Try.func62, Try.ntmps62
  go_wp2_with fail
  refine wp_region_held (S := fun w' => w'.cell? ⟨B, 0, none⟩ = some (.int .i64 i)) (by kernel_rfl) ?_
  change wpAnyH _ _ _ _ _ _ _ _ (World.drew _)
  have HSz : Hid (W.heap.size ≤ W.drew.heap.size) := Nat.le_refl _
  generalize W.drew = W1 at *
  refine wpAnyH_take (i := 0) (v := .iface T V) rfl (by kernel_rfl) (by kernel_rfl) (by kernel_rfl) (fun _ _ _ h => h) (Or.inl ⟨by first | rfl | kernel_rfl, by intro w _; go_simp⟩) HS ?_
  simp only [List.getElem_toArray, List.getElem_cons_succ, List.getElem_cons_zero, Act.put, List.setIfInBounds_toArray, List.set_cons_zero, List.set_cons_succ]
  refine wpAnyH_take (i := 2) (v := .int .i64 i) rfl (by kernel_rfl) (by kernel_rfl) (by kernel_rfl) (fun _ _ _ h => h) (Or.inl ⟨by rfl, by intro w hw; have hw : w.cell? ⟨B, 0, none⟩ = some (.int .i64 i) := hw; go_simp⟩) HS ?_
  simp only [List.getElem_toArray, List.getElem_cons_succ, List.getElem_cons_zero, Act.put, List.setIfInBounds_toArray, List.set_cons_zero, List.set_cons_succ]
  refine wpAnyH_ready (rs := [1]) (by kernel_rfl) (by simp) (AllReadyH.cons (by simp only [List.getElem?_toArray, List.getElem?_cons_succ, List.getElem?_cons_zero]; rfl) (fun K hK => ?_) AllReadyH.nil)
  refine step_plain rfl ?_
  go_simp
  refine (HP.out _).mono ?_
  rintro e w2 ⟨rfl, b2⟩
  have HS2 : w2.cell? ⟨B, 0, none⟩ = some (.int .i64 i) := by rw [World.cell?_of_block (b2.block B (Nat.lt_of_lt_of_le HL.out HSz.out))]; exact HS
  refine hK.out _ _ HS2 (fun _ => ?_)
  clear hK K
  try simp only [List.getElem_toArray, List.getElem_cons_succ, List.getElem_cons_zero, Act.put, List.setIfInBounds_toArray, List.set_cons_zero, List.set_cons_succ]
  refine wpAnyH_take (i := 3) (v := .bool r) rfl (by kernel_rfl) (by kernel_rfl) (by kernel_rfl) (fun _ _ _ h => h) (Or.inl ⟨by first | rfl | kernel_rfl, by intro w _; go_simp⟩) HS2 ?_
  simp only [List.getElem_toArray, List.getElem_cons_succ, List.getElem_cons_zero, Act.put, List.setIfInBounds_toArray, List.set_cons_zero, List.set_cons_succ]
  refine wpAnyH_take (i := 4) (v := .bool r) rfl (by kernel_rfl) (by kernel_rfl) (by kernel_rfl) (fun _ _ _ h => h) (Or.inl ⟨by first | rfl | kernel_rfl, by intro w _; go_simp⟩) HS2 ?_
  simp only [List.getElem_toArray, List.getElem_cons_succ, List.getElem_cons_zero, Act.put, List.setIfInBounds_toArray, List.set_cons_zero, List.set_cons_succ]
  refine wpAnyH_done (by kernel_rfl) ?_ _
  have HB2 : Hid (Below W.heap.size W w2) := HB0.out.trans (b2.mono HSz.out)
  clear b2 HS HS2 HP hM hCF
  go_wp2
  go_ret
  exact ⟨rfl, HB2.out⟩
end Go.Proofs.Ythlaackalmgfnaa

/- slices.IndexFunc over acts, with Tamper's closure. -/
namespace Go.Proofs.Ythlaackalmgfnaa
open Go.RowKit

def fnV (B : Nat) : Value := .func (.func 62) #[] #[.pointer (some ⟨B, 0, none⟩)]
def isAt (i : Int) (y : Ac) : Bool := decide ((y.at_ : Int) = i)
/-- Where the first act on a block stands. -/
def idxA (L : List Ac) (i : Int) : Int := match L.findIdx? (isAt i) with | none => -1 | some k => (k : Int)
theorem eg1 : ∀ (args : Array Value) (w : World), (callFunc 62 args).run Try.prog w = .ok (.enter 62 args) w := fun args w => by
  simp [callFunc, Try.func62]
  rfl
theorem acts_cell {w : World} {x : Option Addr} {c : Nat} {L : List Ac} (h : w.ownsRow 0 100 1 (.slice x L.length c) L.length (L.map acV)) (m : Nat) (y : Ac) (hy : L[m]? = some y) : ∃ g, x = some ⟨g, 0, none⟩ ∧ g < w.heap.size ∧ w.cell? ⟨g, m, none⟩ = some (acV y) := by
  have hm := (List.getElem?_eq_some_iff.1 hy).1
  rcases h.2 with ⟨h1, h2⟩ | ⟨g, cap, cur, h1, _, h2, _, _, _, h6⟩
  · omega
  · have ex : x = some ⟨g, 0, none⟩ := by simp at h1; exact h1.1
    refine ⟨g, ex, (Array.getElem?_eq_some_iff.1 h2).1, ?_⟩
    have e : (L.map acV)[m]? = some (acV y) := by rw [List.getElem?_map, hy]; rfl
    rw [cell_of_row _ _ _ _ _ _ h2, ← Array.getElem?_toList]
    rw [← h6, List.getElem?_take] at e
    simpa [hm] using e
set_option maxRecDepth 100000 in
theorem index_any {w : World} {x : Option Addr} {c B : Nat} {i : Int} {L : List Ac} (h : w.ownsRow 0 100 1 (.slice x L.length c) L.length (L.map acV)) (hb : w.cell? ⟨B, 0, none⟩ = some (.int .i64 i)) (hl : L.length ≤ 9223372036854775807) :
    Calls Try.prog 69 #[.slice x L.length c, fnV B] w fun e w' => e = .returned (.int .i64 (idxA L i)) ∧ Below w.heap.size w w' := by
  have HL : Hid (∀ m y, L[m]? = some y → ∃ g, x = some ⟨g, 0, none⟩ ∧ ∀ wr, Below w.heap.size w wr → wr.cell? ⟨g, m, none⟩ = some (acV y)) := fun m y hy => by
    obtain ⟨g, h1, h2, h3⟩ := acts_cell h m y hy
    exact ⟨g, h1, fun wr hB => by rw [World.cell?_of_block (hB.block g h2)]; exact h3⟩
  have HB : Hid (∀ wr, Below w.heap.size w wr → wr.cell? ⟨B, 0, none⟩ = some (.int .i64 i)) := fun wr hB => by
    rw [World.cell?_of_block (hB.block B (World.block_lt_of_cell? w _ hb))]; exact hb
  have heg := eg1
  clear h hb
  unfold fnV
  go_enter Try.func69, Try.ntmps69
  go_wp2
  go_loopw [8] (fun kv wr => ∃ m : Nat, m ≤ L.length ∧ kv = .int .i64 m ∧ (∀ y ∈ L.take m, isAt i y = false) ∧ Below w.heap.size w wr) (fun kv _ => L.length - (intOf kv).toNat)
  case atStart => exact ⟨0, by omega, rfl, fun y hy => by simp at hy, Below.refl _ _⟩
  case round =>
    obtain ⟨m, hm, rfl, hno, hBw⟩ := hrel
    by_cases hlt : m < L.length
    · obtain ⟨y, hy⟩ : ∃ y, L[m]? = some y := ⟨_, List.getElem?_eq_getElem hlt⟩
      obtain ⟨g, rfl, hg⟩ := HL.out m y hy
      have cg := hg wr hBw
      have hlt2 : (m : Int) < (L.length : Int) := by omega
      have HT : Hid (Calls Try.prog 62 #[acV y, .pointer (some ⟨B, 0, none⟩)] wr fun e w' => e = .returned (.bool (isAt i y)) ∧ Below wr.heap.size wr w') := t1_any y i B wr (HB.out wr hBw)
      have HR : Hid (isAt i y = true → (m : Int) = idxA L i) := fun ht => by
        unfold idxA
        have : L.findIdx? (isAt i) = some m := by
          rw [List.findIdx?_eq_some_iff_getElem]
          refine ⟨hlt, ?_, fun j hj => ?_⟩
          · have : L[m] = y := by rw [List.getElem?_eq_getElem hlt] at hy; simpa using hy
            rw [this]; exact ht
          · have := hno (L[j]) (by rw [List.mem_take_iff_getElem]; exact ⟨j, by omega, rfl⟩)
            rw [this]; simp
        rw [this]
      have HN : Hid (isAt i y = false → ∀ z ∈ L.take (m + 1), isAt i z = false) := fun hf z hz => by
        rw [List.take_add_one, hy] at hz
        rcases List.mem_append.1 hz with hz | hz
        · exact hno z hz
        · simp at hz; rw [hz]; exact hf
      have HBw : Hid _ := hBw
      clear hno hBw hy hg
      generalize isAt i y = r at *
      generalize acV y = V at *
      go_wp2_with fail
      refine Calls.mono HT.out ?_
      rintro e w2 ⟨rfl, b2⟩
      have HB2 : Hid (Below w.heap.size w w2) := HBw.out.trans (b2.mono HBw.out.size)
      clear b2 HT cg
      cases r with
      | true =>
        have hr := HR.out rfl
        go_wp2
        go_ret
        exact ⟨rfl, HB2.out⟩
      | false =>
        have HN2 : Hid _ := HN.out rfl
        go_wp2
        go_roundw
        case rel => exact ⟨m + 1, by omega, by go_num, HN2.out, HB2.out⟩
        case measure => simp [intOf]; omega
    · have hlt2 : ¬ (m : Int) < (L.length : Int) := by omega
      have hr : idxA L i = -1 := by
        unfold idxA
        have : L.findIdx? (isAt i) = none := by
          rw [List.findIdx?_eq_none_iff]
          intro y hy
          exact hno y (by rw [List.take_of_length_le (by omega)]; exact hy)
        rw [this]
      have HBw : Hid _ := hBw
      clear hno hBw
      go_wp2
      go_ret
      exact ⟨rfl, HBw.out⟩
end Go.Proofs.Ythlaackalmgfnaa

/- slices.DeleteFunc over acts, with Tamper's closure. -/
namespace Go.Proofs.Ythlaackalmgfnaa
open Go.RowKit

theorem setCells_same {b : Nat} {t : TypeId} {fr : Nat × Nat} : ∀ (vs : List Value) (o : Nat) (w : World) (cs : Array Value), w.heap[b]? = some (.cells cs t fr) → ∃ cs' : Array Value, (w.setCells b o vs).heap[b]? = some (.cells cs' t fr) ∧ cs'.size = cs.size ∧ cs'.toList.take o = cs.toList.take o
  | [], _, _, cs, h => ⟨cs, h, rfl, rfl⟩
  | v :: r, o, w, cs, h => by
    obtain ⟨cs', h1, h2, h3⟩ := setCells_same r (o + 1) (w.setCell ⟨b, o, none⟩ v) (cs.setIfInBounds o v) (heap_set_same h)
    refine ⟨cs', h1, by rw [h2]; simp, ?_⟩
    have := congrArg (List.take o) h3
    rw [List.take_take, List.take_take, Nat.min_eq_left (by omega), Array.toList_setIfInBounds, List.take_set_of_le (Nat.le_refl _)] at this
    exact this
theorem setCells_other {b k : Nat} (hk : k ≠ b) : ∀ (vs : List Value) (o : Nat) (w : World), (w.setCells b o vs).heap[k]? = w.heap[k]?
  | [], _, _ => rfl
  | v :: r, o, w => by
    show ((w.setCell ⟨b, o, none⟩ v).setCells b (o + 1) r).heap[k]? = _
    rw [setCells_other hk r, Below.heap_setCell _ _ _ _ hk]
theorem Turn.setCells {O : Nat → Prop} {u : World} {b : Nat} (hb : O b) : ∀ (vs : List Value) (o : Nat) (w : World), Turn O u w → Turn O u (w.setCells b o vs)
  | [], _, _, h => h
  | v :: r, o, _, h => Turn.setCells hb r (o + 1) _ (h.setCell hb v)
/-- What is left of acts. -/
def delA (L : List Ac) (i : Int) : List Ac := L.filter fun y => !isAt i y
theorem delA_none {L : List Ac} {i : Int} (h : idxA L i = -1) : delA L i = L := by
  unfold idxA at h
  split at h
  · rename_i hn
    rw [List.findIdx?_eq_none_iff] at hn
    unfold delA
    exact List.filter_eq_self.2 fun y hy => by rw [hn y hy]; rfl
  · omega
/-- In the midst of it. -/
structure InDel (w : World) (g cap : Nat) (L : List Ac) (i : Int) (k j : Nat) (wr : World) : Prop where
  turn : Turn (fun b => b = g) w wr
  row : ∃ cur : Array Value, wr.heap[g]? = some (.cells cur 100 (0, 0)) ∧ cur.size = cap ∧ cur.toList.take k = (delA (L.take j) i).map acV ∧ ∀ m y, j ≤ m → L[m]? = some y → cur[m]? = some (acV y)
  len : k = (delA (L.take j) i).length
  lt : k < j
  le : j ≤ L.length
theorem zero_act : ∀ w : World, (zeroValue 100).run Try.prog w = .ok .nilIface w := fun _ => by kernel_rfl
theorem delA_succ {L : List Ac} {i : Int} {j : Nat} {y : Ac} (hy : L[j]? = some y) : delA (L.take (j + 1)) i = if isAt i y then delA (L.take j) i else delA (L.take j) i ++ [y] := by
  unfold delA
  rw [List.take_add_one, hy]
  simp only [Option.toList_some, List.filter_append, List.filter_cons, List.filter_nil]
  cases isAt i y <;> simp
set_option maxRecDepth 100000 in
set_option maxHeartbeats 1600000 in
theorem delete_any {w : World} {x : Option Addr} {c B : Nat} {i : Int} {L : List Ac} (h : w.ownsRow 0 100 1 (.slice x L.length c) L.length (L.map acV)) (hb : w.cell? ⟨B, 0, none⟩ = some (.int .i64 i)) (hl : L.length ≤ 1000000) (hne : ∀ g, x = some g → g.block ≠ B) :
    Calls Try.prog 61 #[.slice x L.length c, fnV B] w fun e w' => e = .returned (.slice x (delA L i).length c) ∧ w'.ownsRow 0 100 1 (.slice x (delA L i).length c) (delA L i).length ((delA L i).map acV) ∧ Turn (fun b => ∃ g, x = some g ∧ b = g.block) w w' := by
  have HIx : Hid (Calls Try.prog 69 #[.slice x L.length c, fnV B] w fun e w' => e = .returned (.int .i64 (idxA L i)) ∧ Below w.heap.size w w') := index_any h hb (by omega)
  by_cases hi : idxA L i = -1
  · have hd := delA_none hi
    rw [hi] at HIx
    rw [hd]
    have HO : Hid (w.ownsRow 0 100 1 (.slice x L.length c) L.length (L.map acV)) := h
    clear h hb hne hi hd
    generalize fnV B = FV at *
    go_enter Try.func61, Try.ntmps61
    go_wp2_with fail
    refine Calls.mono HIx.out ?_
    rintro e w2 ⟨rfl, b2⟩
    have HR : Hid (w2.ownsRow 0 100 1 (.slice x L.length c) L.length (L.map acV) ∧ Turn (fun b => ∃ g, x = some g ∧ b = g.block) w w2) := ⟨owns_same HO.out fun k hk => b2.block k (World.ownsRow.lt HO.out k hk).2, Turn.of_below b2⟩
    clear b2 HIx HO
    go_wp2
    go_ret
    exact ⟨rfl, HR.out⟩
  · obtain ⟨k0, hk0, hf0⟩ : ∃ k0 : Nat, idxA L i = (k0 : Int) ∧ L.findIdx? (isAt i) = some k0 := by
      unfold idxA at hi ⊢
      cases hq : L.findIdx? (isAt i) with
      | none => rw [hq] at hi; exact absurd rfl hi
      | some k => exact ⟨k, rfl, rfl⟩
    rw [List.findIdx?_eq_some_iff_getElem] at hf0
    obtain ⟨hkl, hk1, hk2⟩ := hf0
    have hd0 : delA (L.take k0) i = L.take k0 := by
      unfold delA
      refine List.filter_eq_self.2 fun y hy => ?_
      obtain ⟨m, hm, rfl⟩ := List.mem_take_iff_getElem.1 hy
      have := hk2 m (by omega)
      simpa using this
    have hd1 : delA (L.take (k0 + 1)) i = L.take k0 := by
      rw [delA_succ (List.getElem?_eq_getElem hkl), if_pos hk1, hd0]
    obtain ⟨hlen, hrow⟩ := h
    rcases hrow with ⟨h1, h2⟩ | ⟨g, cap, cur, h1, _, hg, hcap, hmx, hcs, htk⟩
    · omega
    obtain ⟨rfl, rfl⟩ : x = some ⟨g, 0, none⟩ ∧ c = cap := by simp at h1; exact h1
    have hgB : g ≠ B := hne _ rfl
    have HST : Hid (InDel w g c L i k0 (k0 + 1) w) := by
      refine ⟨Turn.refl _ _, ⟨cur, hg, by omega, ?_, fun m y hm hy => ?_⟩, by rw [hd1]; simp; omega, by omega, by omega⟩
      · rw [hd1]
        have := congrArg (List.take k0) htk
        rw [List.take_take, Nat.min_eq_left (by omega), ← List.map_take] at this
        exact this
      · have hml := (List.getElem?_eq_some_iff.1 hy).1
        have e : (L.map acV)[m]? = some (acV y) := by rw [List.getElem?_map, hy]; rfl
        rw [← htk, List.getElem?_take] at e
        rw [← Array.getElem?_toList]
        simpa [hml] using e
    have HBx : Hid (∀ wr, Turn (fun b => b = g) w wr → wr.cell? ⟨B, 0, none⟩ = some (.int .i64 i)) := fun wr ht => by
      rw [World.cell?_of_block (ht.block B (World.block_lt_of_cell? w _ hb) (fun e => hgB e.symm))]; exact hb
    have HC : Hid (L.length ≤ c ∧ c ≤ maxLen) := ⟨hcap, hmx⟩
    rw [hk0] at HIx
    have heg := eg1
    clear hlen hcs htk h1 hcap hmx hd0 hd1 hk1 hk2 hi hk0 hb hne hg
    unfold fnV at *
    go_enter Try.func61, Try.ntmps61
    go_wp2_with fail
    refine Calls.mono HIx.out ?_
    rintro e w2 ⟨rfl, b2⟩
    have HS2 : Hid (InDel w g c L i k0 (k0 + 1) w2) := by
      have := HST.out
      obtain ⟨cur, q1, q2⟩ := this.row
      exact ⟨this.turn.then_below b2, ⟨cur, by rw [b2.block g (Array.getElem?_eq_some_iff.1 q1).1]; exact q1, q2⟩, this.len, this.lt, this.le⟩
    have hkm : ((k0 : Int) == -1) = false := by
      simp only [beq_eq_false_iff_ne, ne_eq]
      omega
    clear b2 HIx HST
    go_wp2
    go_loopw [5, 6] (fun kv jv wr => ∃ k j : Nat, kv = .int .i64 k ∧ jv = .int .i64 j ∧ InDel w g c L i k j wr) (fun _ jv _ => L.length - (intOf jv).toNat)
    case atStart => exact ⟨k0, k0 + 1, rfl, by go_num, HS2.out⟩
    case round =>
      obtain ⟨k, j, rfl, rfl, hI⟩ := hrel
      clear HS2
      have hkj := hI.lt
      have hjl := hI.le
      obtain ⟨hLc, hcm⟩ := HC.out
      by_cases hlt : j < L.length
      · obtain ⟨y, hy⟩ : ∃ y, L[j]? = some y := ⟨_, List.getElem?_eq_getElem hlt⟩
        obtain ⟨cur, hg, hcs, htk, hrest⟩ := hI.row
        have cj : wr.cell? ⟨g, j, none⟩ = some (acV y) := by rw [cell_of_row _ _ _ _ _ _ hg]; exact hrest j y (Nat.le_refl _) hy
        have hlt2 : (j : Int) < (L.length : Int) := by omega
        have hgl : g < wr.heap.size := (Array.getElem?_eq_some_iff.1 hg).1
        have HT : Hid (Calls Try.prog 62 #[acV y, .pointer (some ⟨B, 0, none⟩)] wr fun e w' => e = .returned (.bool (isAt i y)) ∧ Below wr.heap.size wr w') := t1_any y i B wr (HBx.out wr hI.turn)
        have hds := delA_succ (i := i) hy
        have HN : Hid (∀ w3, Below wr.heap.size wr w3 → (isAt i y = true → InDel w g c L i k (j + 1) w3) ∧ (isAt i y = false → InDel w g c L i (k + 1) (j + 1) (w3.setCell ⟨g, k, none⟩ (acV y)) ∧ w3.frozen? ⟨g, k, none⟩ = false ∧ ∃ v, w3.cell? ⟨g, k, none⟩ = some v)) := fun w3 b3 => by
          have hg3 : w3.heap[g]? = some (.cells cur 100 (0, 0)) := by rw [b3.block g hgl]; exact hg
          refine ⟨fun ht => ?_, fun hf => ⟨?_, frozen_of_row _ _ _ _ _ hg3, ?_⟩⟩
          · rw [if_pos ht] at hds
            exact ⟨hI.turn.then_below b3, ⟨cur, hg3, hcs, by rw [hds]; exact htk, fun m z hm hz => hrest m z (by omega) hz⟩, by rw [hds]; exact hI.len, by omega, by omega⟩
          · rw [if_neg (by rw [hf]; simp)] at hds
            refine ⟨(hI.turn.then_below b3).setCell rfl _, ⟨cur.setIfInBounds k (acV y), heap_set_same hg3, by simp [hcs], ?_, fun m z hm hz => ?_⟩, by rw [hds]; simp [← hI.len], by omega, by omega⟩
            · rw [hds, List.map_append, ← htk, Array.toList_setIfInBounds, List.take_add_one, List.take_set_of_le (Nat.le_refl _), List.getElem?_set_self (by simp; omega)]
              rfl
            · rw [Array.getElem?_setIfInBounds_ne (by omega)]
              exact hrest m z (by omega) hz
          · rw [cell_of_row _ _ _ _ _ _ hg3]
            exact ⟨_, Array.getElem?_eq_getElem (by omega)⟩
        clear hI hg hcs htk hrest hds hgl hy
        generalize isAt i y = r at *
        obtain ⟨T, V, F, hV, -⟩ := act_place y
        rw [hV] at HT HN cj
        clear hV
        go_wp2_with fail
        refine Calls.mono HT.out ?_
        rintro e w3 ⟨rfl, b3⟩
        obtain ⟨n1, n2⟩ := HN.out w3 b3
        clear b3 HT cj HN
        cases r with
        | true =>
          have HN1 : Hid _ := n1 rfl
          clear n1 n2
          go_wp2
          go_roundw
          case rel => exact ⟨k, j + 1, rfl, by go_num, HN1.out⟩
          case measure => simp [intOf]; omega
        | false =>
          obtain ⟨m1, fk, vk, ck⟩ := n2 rfl
          have HN1 : Hid _ := m1
          have hk2 : (k : Int) < (L.length : Int) := by omega
          clear n1 n2 m1
          go_wp2
          go_roundw
          case rel => exact ⟨k + 1, j + 1, by go_num, by go_num, HN1.out⟩
          case measure => simp [intOf]; omega
      · obtain rfl : j = L.length := by omega
        obtain ⟨cur, hg, hcs, htk, hrest⟩ := hI.row
        have hlen := hI.len
        rw [List.take_of_length_le (Nat.le_refl _)] at htk hlen
        have hlt2 : ¬ ((L.length : Nat) : Int) < (L.length : Int) := by omega
        have hcl : ∀ ty, (Builtin.clear_ #[54] ty #[.slice (some ⟨g, k, none⟩) (L.length - k) (c - k)]).run Try.prog wr = .ok (.tuple #[]) (wr.setCells g k (List.replicate (L.length - k) .nilIface)) := fun ty => Lib.run_clear_slice wr 54 100 ty .nilIface Try.underlying54 zero_act rfl rfl g k (L.length - k) (c - k) (by omega) (fun m hm => by
          rw [cell_of_row _ _ _ _ _ _ hg, Array.getElem?_eq_getElem (by omega)]; rfl) (fun m hm => frozen_of_row _ _ _ _ _ hg)
        have HR : Hid ((wr.setCells g k (List.replicate (L.length - k) .nilIface)).ownsRow 0 100 1 (.slice (some ⟨g, 0, none⟩) (delA L i).length c) (delA L i).length ((delA L i).map acV) ∧ Turn (fun b => ∃ a : Addr, some ⟨g, 0, none⟩ = some a ∧ b = a.block) w (wr.setCells g k (List.replicate (L.length - k) .nilIface))) := by
          obtain ⟨cs', r1, r2, r3⟩ := setCells_same (List.replicate (L.length - k) .nilIface) k wr cur hg
          have ht2 : Turn (fun b => ∃ a : Addr, some ⟨g, 0, none⟩ = some a ∧ b = a.block) w wr := hI.turn.trans (Turn.refl (fun b => b = g) wr) (fun _ _ h => h) |>.trans (Turn.refl _ _) (fun _ _ h => h) |> fun h => ⟨h.os, h.tape, h.output, h.size, fun q hq hn => h.block q hq (fun e => hn ⟨_, rfl, e⟩)⟩
          refine ⟨⟨by simp, .inr ⟨g, c, cs', rfl, Nat.zero_le _, r1, by omega, hcm, by omega, ?_⟩⟩, Turn.setCells ⟨_, rfl, rfl⟩ _ _ _ ht2⟩
          rw [Nat.mul_one, ← hlen, r3, htk]
        have HR2 : Hid (Turn (fun b => b = g) w (wr.setCells g k (List.replicate (L.length - k) .nilIface))) := Turn.setCells (O := fun b => b = g) rfl _ _ _ hI.turn
        have hk2 : (k : Int) ≤ (L.length : Int) := by omega
        have hk3 : (k : Int) ≤ (c : Int) := by omega
        have HLn : Hid (k = (delA L i).length) := hlen
        clear hI hg hcs htk hrest hlt HC hlen
        go_wp2
        go_ret
        exact ⟨by rw [← HLn.out]; rfl, HR.out.1, HR2.out⟩
end Go.Proofs.Ythlaackalmgfnaa

/- blockOf: a block of a state with a text, if there is such a one. -/
namespace Go.Proofs.Ythlaackalmgfnaa
open Go.RowKit

def blkOf (st : Int) (s : List UInt8) : Option Blk := if st = 1 ∧ s.length = 128 then some ⟨1, ofT s⟩ else if (st = 0 ∨ st = 2) ∧ s = [] then some ⟨st.toNat, fun _ => 0⟩ else none
theorem results_cellt {P : Program} {fn : Func} {p u : Tmp} {ty : TypeId} (h : fn.results = #[.cell p ty, .tmp u]) (tmps : Array Value) (W : World) (g : Nat) (t : TypeId) (cs : Array Value) (fr : Nat × Nat) (d : TypeDesc)
    (hp : tmps.getD p undef = .pointer (some ⟨g, 0, none⟩)) (hg : W.heap[g]? = some (.cells cs t fr)) (hu : P.underlying ty = some d) (ha : (match d with | .struct _ | .array _ _ => true | _ => false) = true) (hi : (P.info? ty).map (·.size) = some cs.size) :
    (results fn tmps).run P W = .ok (.tuple #[.agg cs, tmps.getD u undef]) W := by
  have hl := run_loadVar_row (P := P) W g t ty cs fr _ hg hu ha hi
  have hp' : tmps[p]?.getD undef = .pointer (some ⟨g, 0, none⟩) := by simpa using hp
  simp only [results, h]
  simp [Result.andThen, hp', asAddr, hl]
theorem built_st (st : Int) : Try.prog.built 89 [(0, Value.int .i64 st)] = some (Value.int .i64 st :: (hv (txt fun _ => 0)).toList).toArray := by kernel_rfl
theorem built_no : Try.prog.built 89 [] = some (bc blank).toArray := by kernel_rfl
set_option maxRecDepth 100000 in
theorem blockOf_any (st : Int) (s : List UInt8) (w : World) : Calls Try.prog 60 #[.int .i64 st, .string (S s)] w fun e w' => e = .returned (.tuple #[.agg (bc ((blkOf st s).getD blank)).toArray, .bool (blkOf st s).isSome]) ∧ Below w.heap.size w w' := by
  have hz := (zero_of_info zero_bk).1
  have z1 : (bc blank).toArray.size = 129 := bcA_size _
  have hne : ¬ (bc blank).toArray = #[] := fun h => by rw [h] at z1; cases z1
  have hgz : ∀ Z : Array Value, (w.alloc (.cells Z 89)).heap[w.heap.size]? = some (.cells Z 89 (0, 0)) := fun Z => heap_alloc_last _ _
  have HB0 : Hid (∀ Z : Array Value, Below w.heap.size w (w.alloc (.cells Z 89))) := fun Z => (Below.refl _ _).alloc (Nat.le_refl _) _
  by_cases hA : st = 1 ∧ s.length = 128
  · obtain ⟨rfl, hl⟩ := hA
    have e : blkOf 1 s = some ⟨1, ofT s⟩ := by unfold blkOf; rw [if_pos ⟨rfl, hl⟩]
    rw [e]
    simp only [Option.getD_some, Option.isSome_some]
    have HW : Hid (∀ w : World, Calls Try.prog 54 #[.string (S s)] w fun e w' => e = .returned (.agg (bc ⟨1, ofT s⟩).toArray) ∧ Below w.heap.size w w') := written_any s hl
    have s2 : (bc ⟨1, ofT s⟩).toArray.size = 129 := bcA_size _
    have o2 : (bc ⟨1, ofT s⟩).toArray.all (·.oneCell') = true := bcA_one _
    have hsz : ((S s).size : Int) = 128 := by rw [S_size]; omega
    have HZ : Hid (∀ Z : Array Value, (w.alloc (.cells Z 89)).heap[w.heap.size]? = some (.cells Z 89 (0, 0))) := hgz
    have HS : Hid ((bc blank).toArray.size = 129) := z1
    clear e hgz hl
    generalize (bc blank).toArray = Z at *
    generalize (bc ⟨1, ofT s⟩).toArray = X at *
    generalize S s = A at *
    go_enter Try.func60, Try.ntmps60
    go_wp2_with fail
    refine Calls.mono (HW.out _) ?_
    rintro e w2 ⟨rfl, b2⟩
    have G2 : Hid (w2.heap[w.heap.size]? = some (.cells Z 89 (0, 0))) := by show _ = _; rw [b2.block _ (by simp)]; exact HZ.out Z
    have HB2 : Hid (Below w.heap.size w w2) := (HB0.out Z).trans (b2.mono (by simp))
    clear b2 HW
    go_wp2_with (refine wpList_store_row rfl 89 _ _ rfl w.heap.size X rfl rfl _ Z G2.out (by rw [info_bk, s2]) (by rw [HS.out, s2]) o2 ?_)
    refine bodyPost_ret (v := .tuple #[.agg X, .bool true]) (results_cellt Try.results60 _ _ w.heap.size _ X (0, 0) _ rfl (heap_setRow_same G2.out) Try.underlying89 rfl (by rw [info_bk, s2])) rfl ⟨rfl, below_setRow HB2.out (Nat.le_refl _) _⟩
  by_cases hB : (st = 0 ∨ st = 2) ∧ s = []
  · obtain ⟨hst, rfl⟩ := hB
    have hA2 : S ([] : List UInt8) = ⟨#[]⟩ := rfl
    rw [hA2]
    rcases hst with rfl | rfl
    · have e : blkOf 0 [] = some ⟨0, fun _ => 0⟩ := rfl
      rw [e]
      simp only [Option.getD_some, Option.isSome_some]
      have HBu : Hid (∀ w : World, (Instr.build 89 #[(0, .int .i64 0)]).run Try.prog w = .ok (.agg (bc ⟨0, fun _ => 0⟩).toArray) w) := fun w => run_build w _ _ _ (built_st 0)
      have y1 : (bc ⟨0, fun _ => 0⟩).toArray.size = 129 := bcA_size _
      have y2 : (bc ⟨0, fun _ => 0⟩).toArray.all (·.oneCell') = true := bcA_one _
      have HZ : Hid (∀ Z : Array Value, (w.alloc (.cells Z 89)).heap[w.heap.size]? = some (.cells Z 89 (0, 0))) := hgz
      have HS : Hid ((bc blank).toArray.size = 129) := z1
      clear e hgz hA
      generalize (bc blank).toArray = Z at *
      generalize (bc ⟨0, fun _ => 0⟩).toArray = Y at *
      go_enter Try.func60, Try.ntmps60
      go_wp2_with (first | (refine wpList_build rfl 89 #[(0, .tmp 27)] rfl #[(0, .int .i64 0)] (by kernel_rfl) _ (HBu.out _) ?_) | (refine store_last rfl 89 _ _ rfl 129 _ _ Y rfl rfl info_bk HS.out y1 y2 ?_))
      refine bodyPost_ret (v := .tuple #[.agg Y, .bool true]) (results_cellt Try.results60 _ _ w.heap.size _ Y (0, 0) _ rfl (HZ.out Y) Try.underlying89 rfl (by rw [info_bk, y1])) rfl ⟨rfl, HB0.out Y⟩
    · have e : blkOf 2 [] = some ⟨2, fun _ => 0⟩ := rfl
      rw [e]
      simp only [Option.getD_some, Option.isSome_some]
      have HBu : Hid (∀ w : World, (Instr.build 89 #[(0, .int .i64 2)]).run Try.prog w = .ok (.agg (bc ⟨2, fun _ => 0⟩).toArray) w) := fun w => run_build w _ _ _ (built_st 2)
      have y1 : (bc ⟨2, fun _ => 0⟩).toArray.size = 129 := bcA_size _
      have y2 : (bc ⟨2, fun _ => 0⟩).toArray.all (·.oneCell') = true := bcA_one _
      have HZ : Hid (∀ Z : Array Value, (w.alloc (.cells Z 89)).heap[w.heap.size]? = some (.cells Z 89 (0, 0))) := hgz
      have HS : Hid ((bc blank).toArray.size = 129) := z1
      clear e hgz hA
      generalize (bc blank).toArray = Z at *
      generalize (bc ⟨2, fun _ => 0⟩).toArray = Y at *
      go_enter Try.func60, Try.ntmps60
      go_wp2_with (first | (refine wpList_build rfl 89 #[(0, .tmp 27)] rfl #[(0, .int .i64 2)] (by kernel_rfl) _ (HBu.out _) ?_) | (refine store_last rfl 89 _ _ rfl 129 _ _ Y rfl rfl info_bk HS.out y1 y2 ?_))
      refine bodyPost_ret (v := .tuple #[.agg Y, .bool true]) (results_cellt Try.results60 _ _ w.heap.size _ Y (0, 0) _ rfl (HZ.out Y) Try.underlying89 rfl (by rw [info_bk, y1])) rfl ⟨rfl, HB0.out Y⟩
  have e : blkOf st s = none := by unfold blkOf; rw [if_neg hA, if_neg hB]
  rw [e]
  simp only [Option.getD_none, Option.isSome_none]
  have HBu : Hid (∀ w : World, (Instr.build 89 #[]).run Try.prog w = .ok (.agg (bc blank).toArray) w) := fun w => run_build w _ _ _ built_no
  have y1 : (bc blank).toArray.size = 129 := bcA_size _
  have y2 : (bc blank).toArray.all (·.oneCell') = true := bcA_one _
  have HZ : Hid (∀ Z : Array Value, (w.alloc (.cells Z 89)).heap[w.heap.size]? = some (.cells Z 89 (0, 0))) := hgz
  have HS : Hid ((bc blank).toArray.size = 129) := z1
  have hemp : s ≠ [] → (S s).toList.isEmpty = false := fun h => by rw [toList_S]; cases s with | nil => exact absurd rfl h | cons a l => rfl
  have hsz : s.length ≠ 128 → (((S s).size : Int) == 128) = false := fun h => by
    have : ¬ ((S s).size : Int) = 128 := by rw [S_size]; omega
    simpa using this
  clear e hgz
  generalize hY : (bc blank).toArray = Y at *
  clear hY
  by_cases h1 : st = 1
  · subst h1
    have hs := hsz fun h => hA ⟨rfl, h⟩
    clear hA hB hemp hsz
    generalize S s = A at *
    go_enter Try.func60, Try.ntmps60
    go_wp2_with (first | (refine wpList_build rfl 89 #[] rfl #[] (by kernel_rfl) _ (HBu.out _) ?_) | (refine store_last rfl 89 _ _ rfl 129 _ _ Y rfl rfl info_bk HS.out y1 y2 ?_))
    refine bodyPost_ret (v := .tuple #[.agg Y, .bool false]) (results_cellt Try.results60 _ _ w.heap.size _ Y (0, 0) _ rfl (HZ.out Y) Try.underlying89 rfl (by rw [info_bk, y1])) rfl ⟨rfl, HB0.out Y⟩
  by_cases h0 : st = 0
  · subst h0
    have hs := hemp fun h => hB ⟨.inl rfl, h⟩
    clear hA hB hemp hsz
    generalize S s = A at *
    go_enter Try.func60, Try.ntmps60
    go_wp2_with (first | (refine wpList_build rfl 89 #[] rfl #[] (by kernel_rfl) _ (HBu.out _) ?_) | (refine store_last rfl 89 _ _ rfl 129 _ _ Y rfl rfl info_bk HS.out y1 y2 ?_))
    refine bodyPost_ret (v := .tuple #[.agg Y, .bool false]) (results_cellt Try.results60 _ _ w.heap.size _ Y (0, 0) _ rfl (HZ.out Y) Try.underlying89 rfl (by rw [info_bk, y1])) rfl ⟨rfl, HB0.out Y⟩
  by_cases h2 : st = 2
  · subst h2
    have hs := hemp fun h => hB ⟨.inr rfl, h⟩
    clear hA hB hemp hsz
    generalize S s = A at *
    go_enter Try.func60, Try.ntmps60
    go_wp2_with (first | (refine wpList_build rfl 89 #[] rfl #[] (by kernel_rfl) _ (HBu.out _) ?_) | (refine store_last rfl 89 _ _ rfl 129 _ _ Y rfl rfl info_bk HS.out y1 y2 ?_))
    refine bodyPost_ret (v := .tuple #[.agg Y, .bool false]) (results_cellt Try.results60 _ _ w.heap.size _ Y (0, 0) _ rfl (HZ.out Y) Try.underlying89 rfl (by rw [info_bk, y1])) rfl ⟨rfl, HB0.out Y⟩
  have g1 : (st == 1) = false := by simpa using h1
  have g0 : (st == 0) = false := by simpa using h0
  have g2 : (st == 2) = false := by simpa using h2
  clear hA hB hemp hsz h0 h1 h2
  generalize S s = A at *
  go_enter Try.func60, Try.ntmps60
  go_wp2_with (first | (refine wpList_build rfl 89 #[] rfl #[] (by kernel_rfl) _ (HBu.out _) ?_) | (refine store_last rfl 89 _ _ rfl 129 _ _ Y rfl rfl info_bk HS.out y1 y2 ?_))
  refine bodyPost_ret (v := .tuple #[.agg Y, .bool false]) (results_cellt Try.results60 _ _ w.heap.size _ Y (0, 0) _ rfl (HZ.out Y) Try.underlying89 rfl (by rw [info_bk, y1])) rfl ⟨rfl, HB0.out Y⟩
end Go.Proofs.Ythlaackalmgfnaa

/- Tamper on a device. -/
namespace Go.Proofs.Ythlaackalmgfnaa
open Go.RowKit

/-- What a Tamper tells, and makes. -/
def tamperD (d : Dv) (i st : Int) (s : List UInt8) : Int × Dv :=
  if ¬ (0 ≤ i ∧ i < d.sure.length) then (2, d)
  else match blkOf st s with
    | none => (2, d)
    | some b => (0, { d with sure := d.sure.set i.toNat b, told := d.told.set i.toNat b, acts := delA d.acts i })
theorem delA_sub (L : List Ac) (i : Int) : ∀ x ∈ delA L i, x ∈ L := fun _ hx => (List.mem_filter.1 hx).1
theorem DevAt.delActs {w w6 : World} {p : Nat} {d : Dv} {O : Nat → Prop} {a b ca cb c : Nat} {x : Option Addr} {fv kv : Value} {i : Int} (h : DevAt w p d O a b ca cb (.slice x d.acts.length c) fv kv)
    (h1 : w6.ownsRow 0 100 1 (.slice x (delA d.acts i).length c) (delA d.acts i).length ((delA d.acts i).map acV)) (h2 : Turn (fun k => ∃ g, x = some g ∧ k = g.block) w w6) :
    DevAt (w6.setCell ⟨p, 2, none⟩ (.slice x (delA d.acts i).length c)) p { d with acts := delA d.acts i } O a b ca cb (.slice x (delA d.acts i).length c) fv kv ∧ Turn O w (w6.setCell ⟨p, 2, none⟩ (.slice x (delA d.acts i).length c)) := by
  obtain ⟨n1, n2, n3, n4, n5, n6⟩ := nodup_mem h.nodup
  have hO : ∀ k, (∃ g, x = some g ∧ k = g.block) → (Value.slice x d.acts.length c).ownBlock = some k := fun k ⟨g, e, hk⟩ => by rw [e, hk]; rfl
  have hpl := (h.own p (by simp [blocks])).2
  have keep : ∀ k, k < w.heap.size → k ≠ p → (Value.slice x d.acts.length c).ownBlock ≠ some k → (w6.setCell ⟨p, 2, none⟩ (.slice x (delA d.acts i).length c)).heap[k]? = w.heap[k]? := fun k hk hp hn => by
    rw [Below.heap_setCell _ _ _ _ hp, h2.block k hk (fun e => hn (hO k e))]
  have hcp : w6.heap[p]? = w.heap[p]? := h2.block p hpl (fun e => (n4 p (hO p e)).1 rfl)
  have hsz : (w6.setCell ⟨p, 2, none⟩ (.slice x (delA d.acts i).length c)).heap.size = w6.heap.size := heap_set_size _ _ _
  have hbl : blocks p a b (.slice x (delA d.acts i).length c) fv kv = blocks p a b (.slice x d.acts.length c) fv kv := by
    unfold blocks
    congr 3
    cases x <;> rfl
  refine ⟨⟨?_, ?_, ?_, h.len, h.pos, h.small, ?_, fun y hy => h.inr y (delA_sub _ _ y hy), ?_, h.left, by rw [hbl]; exact h.nodup, fun k hk => ?_⟩, ?_⟩
  · rw [heap_set_same (by rw [hcp]; exact h.cells)]; rfl
  · exact h.sure.same (keep a (h.own a (by simp [blocks])).2 n1.symm (fun e => (n4 a e).2.1 rfl))
  · exact h.told.same (keep b (h.own b (by simp [blocks])).2 n2.symm (fun e => (n4 b e).2.2.1 rfl))
  · refine owns_same h1 fun k hk => ?_
    have hk2 : (Value.slice x d.acts.length c).ownBlock = some k := by cases x with | none => cases hk | some g => exact hk
    exact Below.heap_setCell _ _ _ _ (n4 k hk2).1
  · refine h.fail.same fun k hk => ?_
    rcases hk with hk | hk
    · exact keep k (h.own k (by simp [blocks, hk])).2 (n5 k hk).1 (fun e => (n4 k e).2.2.2.1 hk)
    · exact keep k (h.own k (by simp [blocks, hk])).2 (n6 k hk).1 (fun e => (n4 k e).2.2.2.2 hk)
  · rw [hbl] at hk
    exact ⟨(h.own k hk).1, by rw [hsz]; exact Nat.lt_of_lt_of_le (h.own k hk).2 h2.size⟩
  · have hOp : O p := (h.own p (by simp [blocks])).1
    refine Turn.setCell ⟨h2.os, h2.tape, h2.output, h2.size, fun k hk hn => h2.block k hk (fun e => hn ?_)⟩ hOp _
    exact (h.own k (by simp [blocks, hO k e])).1
set_option maxRecDepth 100000 in
set_option linter.unusedSimpArgs false in
set_option maxHeartbeats 1600000 in
theorem tamper_dev {w : World} {p : Nat} {d : Dv} {O : Nat → Prop} (h : Dev w p d O) (i st : Int) (s : List UInt8) (hs : d.acts.length < 1000000) :
    Calls Try.prog 37 #[.pointer (some ⟨p, 0, none⟩), .int .i64 i, .int .i64 st, .string (S s)] w fun e w' => e = .returned (.int .i64 (tamperD d i st s).1) ∧ Dev w' p (tamperD d i st s).2 O ∧ Turn O w w' := by
  obtain ⟨W0, hW0⟩ : ∃ W0, w.alloc (.cells #[.int .i64 i] 3) = W0 := ⟨_, rfl⟩
  have hB0 : Below w.heap.size w W0 := by rw [← hW0]; exact (Below.refl _ _).alloc (Nat.le_refl _) _
  have hG0 : W0.heap[w.heap.size]? = some (.cells #[.int .i64 i] 3 (0, 0)) := by rw [← hW0]; exact heap_alloc_last _ _
  have c0 : W0.cell? ⟨w.heap.size, 0, none⟩ = some (.int .i64 i) := by rw [cell_of_row _ _ _ _ _ _ hG0]; rfl
  have hD0 := h.below hB0
  have hn := isNone_dev hD0
  have hh := has_dev hD0 i
  have HW0 : Hid _ := hW0
  have HB0 : Hid (Below w.heap.size w W0) := hB0
  have HHi : Hid (∀ k, O k → True) := fun _ _ => trivial
  by_cases hi : 0 ≤ i ∧ i < d.sure.length
  · rw [decide_eq_true hi] at hh
    have HBo : Hid (Calls Try.prog 60 #[.int .i64 st, .string (S s)] W0 fun e w' => e = .returned (.tuple #[.agg (bc ((blkOf st s).getD blank)).toArray, .bool (blkOf st s).isSome]) ∧ Below W0.heap.size W0 w') := blockOf_any st s W0
    have hz := (zero_of_info zero_bk).1
    cases hb : blkOf st s with
    | none =>
      rw [hb] at HBo
      simp only [Option.getD_none, Option.isSome_none] at HBo
      have e : tamperD d i st s = (2, d) := by unfold tamperD; rw [if_neg (fun h => h hi), hb]
      rw [e]
      have HX1 : Hid ((bc blank).toArray.size = 129) := bcA_size _
      have HX2 : Hid ((bc blank).toArray.all (·.oneCell') = true) := bcA_one _
      have hne : ¬ (bc blank).toArray = #[] := fun h => by have := HX1.out; rw [h] at this; cases this
      have HD : Hid (Dev w p d O) := h
      clear h hD0 hb hB0 hG0 hW0 e
      generalize (bc blank).toArray = X at *
      generalize S s = A at *
      go_enter Try.func37, Try.ntmps37
      go_wp2_with fail
      rw [HW0.out]
      refine Calls.mono hn ?_
      rintro e w1 ⟨rfl, rfl⟩
      go_wp2_with fail
      refine Calls.mono hh ?_
      rintro e w1 ⟨rfl, rfl⟩
      go_wp2_with fail
      refine Calls.mono HBo.out ?_
      rintro e w2 ⟨rfl, b2⟩
      have HB2 : Hid (Below w.heap.size w w2) := HB0.out.trans (b2.mono HB0.out.size)
      clear b2 HBo hn hh
      go_wp2_with (refine store_last rfl 89 _ _ rfl 129 _ _ X rfl rfl info_bk HX1.out HX1.out HX2.out ?_)
      go_ret
      have HB3 := HB2.out.alloc HB2.out.size (.cells X 89)
      exact ⟨rfl, HD.out.below HB3, Turn.of_below HB3⟩
    | some bk =>
      rw [hb] at HBo
      simp only [Option.getD_some, Option.isSome_some] at HBo
      have e : tamperD d i st s = (0, { d with sure := d.sure.set i.toNat bk, told := d.told.set i.toNat bk, acts := delA d.acts i }) := by unfold tamperD; rw [if_neg (fun h => h hi), hb]
      rw [e]
      obtain ⟨j, rfl⟩ : ∃ j : Nat, i = j := ⟨i.toNat, by omega⟩
      rw [Int.toNat_natCast]
      have hjl : j < d.sure.length := by omega
      have HX1 : Hid ((bc bk).toArray.size = 129) := bcA_size _
      have HX2 : Hid ((bc bk).toArray.all (·.oneCell') = true) := bcA_one _
      have HXi : Hid ((Try.prog.info? 89).map (·.size) = some (bc bk).toArray.size) := by show _ = _; rw [info_bk, HX1.out]
      have HZ1 : Hid ((bc blank).toArray.size = 129) := bcA_size _
      have hne : ¬ (bc blank).toArray = #[] := fun h => by have := HZ1.out; rw [h] at this; cases this
      obtain ⟨a, b, ca, cb, cv, fv, kv, hA⟩ := h
      obtain ⟨x, c, rfl⟩ := owns_slice hA.acts
      have hOa : O a := (hA.own a (by simp [blocks])).1
      have hOb : O b := (hA.own b (by simp [blocks])).1
      obtain ⟨n1, n2, n3, n4, n5, n6⟩ := nodup_mem hA.nodup
      have hal := (hA.own a (by simp [blocks])).2
      have hbl := (hA.own b (by simp [blocks])).2
      have hxl : ∀ g, x = some g → g.block < w.heap.size := fun g e => (hA.own g.block (by simp [blocks, e, Value.ownBlock])).2
      obtain ⟨n, hnn⟩ : ∃ n, d.sure.length = n := ⟨_, rfl⟩
      have HNN : Hid (d.sure.length = n) := hnn
      have hin2 : (j : Int) < (n : Int) := by rw [← hnn]; omega
      have HA : Hid (DevAt w p d O a b ca cb (.slice x d.acts.length c) fv kv) := hA
      obtain ⟨X, hX⟩ : ∃ X, (bc bk).toArray = X := ⟨_, rfl⟩
      rw [hX] at HBo HX1 HX2 HXi
      have HXX : Hid ((bc bk).toArray = X) := hX
      have HIB : Hid ((Try.prog.info? 89).map (·.size) = some X.size) := HXi.out
      have HXr : Hid (∀ (W : World) (G : Nat), W.heap[G]? = some (.cells X 89 (0, 0)) → W.rangeAt G 0 X.toList) := fun W G hg => range_row hg
      have HIC : Hid ((Try.prog.info? 89).map (·.size) = some X.toList.length) := by show _ = _; rw [HXi.out, Array.length_toList]
      have hfr := Try.func37
      clear hD0 hb hB0 hG0 hW0 e hX hnn hi hfr
      generalize (bc blank).toArray = Z at *
      generalize S s = A at *
      obtain ⟨B, hB⟩ : ∃ B, w.heap.size = B := ⟨_, rfl⟩
      rw [hB] at c0
      have HB : Hid (w.heap.size = B) := hB
      go_enter Try.func37, Try.ntmps37
      go_wp2_with fail
      rw [HW0.out]
      try rw [hB]
      refine Calls.mono hn ?_
      rintro e w1 ⟨rfl, rfl⟩
      go_wp2_with fail
      refine Calls.mono hh ?_
      rintro e w1 ⟨rfl, rfl⟩
      go_wp2_with fail
      refine Calls.mono HBo.out ?_
      rintro e w2 ⟨rfl, b2⟩
      have HB2 : Hid (Below w.heap.size w w2) := HB0.out.trans (b2.mono HB0.out.size)
      have c2 : w2.cell? ⟨B, 0, none⟩ = some (.int .i64 (j : Int)) := by rw [World.cell?_of_block (b2.block B (World.block_lt_of_cell? w1 _ c0))]; exact c0
      have hBl2 : B < w2.heap.size := World.block_lt_of_cell? w2 _ c2
      have HB3 : Hid (Below w.heap.size w (w2.alloc (.cells X 89)).drew) := (HB2.out.alloc HB2.out.size _).drew
      have HS : (w2.alloc (.cells X 89)).drew.cell? ⟨p, 0, none⟩ = some (.slice (some ⟨a, 0, none⟩) n ca) ∧ (w2.alloc (.cells X 89)).drew.cell? ⟨p, 1, none⟩ = some (.slice (some ⟨b, 0, none⟩) n cb) ∧ (w2.alloc (.cells X 89)).drew.cell? ⟨B, 0, none⟩ = some (.int .i64 (j : Int)) ∧ (w2.alloc (.cells X 89)).drew.heap[w2.heap.size]? = some (.cells X 89 (0, 0)) := by
        obtain ⟨q0, q1, -⟩ := (HA.out.below HB3.out).c
        rw [HNN.out] at q0 q1
        refine ⟨q0, q1, ?_, heap_alloc_last _ _⟩
        show (w2.alloc (.cells X 89)).cell? ⟨B, 0, none⟩ = _
        rw [World.cell?_of_block (Below.heap_alloc _ _ _ hBl2)]; exact c2
      clear b2 HBo hn hh c0
      go_wp2_with (refine store_last rfl 89 _ _ rfl 129 _ _ X rfl rfl info_bk HZ1.out HX1.out HX2.out ?_)
      have hGl : w2.heap.size < (w2.alloc (.cells X 89)).drew.heap.size := by show _ < (w2.alloc _).heap.size; simp
      have hGw : w.heap.size ≤ w2.heap.size := HB2.out.size
      generalize w2.heap.size = G at *
      refine wp_region_held (S := fun w' => w'.cell? ⟨p, 0, none⟩ = some (.slice (some ⟨a, 0, none⟩) n ca) ∧ w'.cell? ⟨p, 1, none⟩ = some (.slice (some ⟨b, 0, none⟩) n cb) ∧ w'.cell? ⟨B, 0, none⟩ = some (.int .i64 (j : Int)) ∧ w'.heap[G]? = some (.cells X 89 (0, 0))) (by kernel_rfl) ?_
      change wpAnyH _ _ _ _ _ _ _ _ (World.drew _)
      generalize (w2.alloc (.cells X 89)).drew = W4 at *
      refine wpAnyH_take (i := 0) (v := .pointer (some ⟨p, 0, none⟩)) rfl (by kernel_rfl) (by kernel_rfl) (by kernel_rfl) (fun _ _ _ h => h) (Or.inl ⟨by first | rfl | kernel_rfl, by intro w _; go_simp⟩) HS ?_
      simp only [List.getElem_toArray, List.getElem_cons_succ, List.getElem_cons_zero, Act.put, List.setIfInBounds_toArray, List.set_cons_zero, List.set_cons_succ]
      refine wpAnyH_take (i := 1) (v := .pointer (some ⟨p, 0, none⟩)) rfl (by kernel_rfl) (by kernel_rfl) (by kernel_rfl) (fun _ _ _ h => h) (Or.inl ⟨by first | rfl | kernel_rfl, by intro w _; go_simp⟩) HS ?_
      simp only [List.getElem_toArray, List.getElem_cons_succ, List.getElem_cons_zero, Act.put, List.setIfInBounds_toArray, List.set_cons_zero, List.set_cons_succ]
      refine wpAnyH_take (i := 2) (v := .pointer (some ⟨p, 0, none⟩)) rfl (by kernel_rfl) (by kernel_rfl) (by kernel_rfl) (fun _ _ _ h => h) (Or.inl ⟨by first | rfl | kernel_rfl, by intro w _; go_simp⟩) HS ?_
      simp only [List.getElem_toArray, List.getElem_cons_succ, List.getElem_cons_zero, Act.put, List.setIfInBounds_toArray, List.set_cons_zero, List.set_cons_succ]
      refine wpAnyH_take (i := 3) (v := .slice (some ⟨a, 0, none⟩) n ca) rfl (by kernel_rfl) (by kernel_rfl) (by kernel_rfl) (fun _ _ _ h => h) (Or.inl ⟨by rfl, by intro w hw; have hw : w.cell? ⟨p, 0, none⟩ = some (.slice (some ⟨a, 0, none⟩) n ca) ∧ w.cell? ⟨p, 1, none⟩ = some (.slice (some ⟨b, 0, none⟩) n cb) ∧ w.cell? ⟨B, 0, none⟩ = some (.int .i64 (j : Int)) ∧ w.heap[G]? = some (.cells X 89 (0, 0)) := hw; obtain ⟨hw1, hw2, hw3, hw4⟩ := hw; go_simp⟩) HS ?_
      simp only [List.getElem_toArray, List.getElem_cons_succ, List.getElem_cons_zero, Act.put, List.setIfInBounds_toArray, List.set_cons_zero, List.set_cons_succ]
      refine wpAnyH_take (i := 4) (v := .int .i64 (j : Int)) rfl (by kernel_rfl) (by kernel_rfl) (by kernel_rfl) (fun _ _ _ h => h) (Or.inl ⟨by rfl, by intro w hw; have hw : w.cell? ⟨p, 0, none⟩ = some (.slice (some ⟨a, 0, none⟩) n ca) ∧ w.cell? ⟨p, 1, none⟩ = some (.slice (some ⟨b, 0, none⟩) n cb) ∧ w.cell? ⟨B, 0, none⟩ = some (.int .i64 (j : Int)) ∧ w.heap[G]? = some (.cells X 89 (0, 0)) := hw; obtain ⟨hw1, hw2, hw3, hw4⟩ := hw; go_simp⟩) HS ?_
      simp only [List.getElem_toArray, List.getElem_cons_succ, List.getElem_cons_zero, Act.put, List.setIfInBounds_toArray, List.set_cons_zero, List.set_cons_succ]
      refine wpAnyH_take (i := 5) (v := .pointer (some ⟨p, 0, none⟩)) rfl (by kernel_rfl) (by kernel_rfl) (by kernel_rfl) (fun _ _ _ h => h) (Or.inl ⟨by first | rfl | kernel_rfl, by intro w _; go_simp⟩) HS ?_
      simp only [List.getElem_toArray, List.getElem_cons_succ, List.getElem_cons_zero, Act.put, List.setIfInBounds_toArray, List.set_cons_zero, List.set_cons_succ]
      refine wpAnyH_take (i := 6) (v := .pointer (some ⟨p, 0, none⟩)) rfl (by kernel_rfl) (by kernel_rfl) (by kernel_rfl) (fun _ _ _ h => h) (Or.inl ⟨by first | rfl | kernel_rfl, by intro w _; go_simp⟩) HS ?_
      simp only [List.getElem_toArray, List.getElem_cons_succ, List.getElem_cons_zero, Act.put, List.setIfInBounds_toArray, List.set_cons_zero, List.set_cons_succ]
      refine wpAnyH_take (i := 7) (v := .pointer (some ⟨p, 1, none⟩)) rfl (by kernel_rfl) (by kernel_rfl) (by kernel_rfl) (fun _ _ _ h => h) (Or.inl ⟨by first | rfl | kernel_rfl, by intro w _; go_simp⟩) HS ?_
      simp only [List.getElem_toArray, List.getElem_cons_succ, List.getElem_cons_zero, Act.put, List.setIfInBounds_toArray, List.set_cons_zero, List.set_cons_succ]
      refine wpAnyH_take (i := 8) (v := .slice (some ⟨b, 0, none⟩) n cb) rfl (by kernel_rfl) (by kernel_rfl) (by kernel_rfl) (fun _ _ _ h => h) (Or.inl ⟨by rfl, by intro w hw; have hw : w.cell? ⟨p, 0, none⟩ = some (.slice (some ⟨a, 0, none⟩) n ca) ∧ w.cell? ⟨p, 1, none⟩ = some (.slice (some ⟨b, 0, none⟩) n cb) ∧ w.cell? ⟨B, 0, none⟩ = some (.int .i64 (j : Int)) ∧ w.heap[G]? = some (.cells X 89 (0, 0)) := hw; obtain ⟨hw1, hw2, hw3, hw4⟩ := hw; go_simp⟩) HS ?_
      simp only [List.getElem_toArray, List.getElem_cons_succ, List.getElem_cons_zero, Act.put, List.setIfInBounds_toArray, List.set_cons_zero, List.set_cons_succ]
      refine wpAnyH_take (i := 9) (v := .int .i64 (j : Int)) rfl (by kernel_rfl) (by kernel_rfl) (by kernel_rfl) (fun _ _ _ h => h) (Or.inl ⟨by rfl, by intro w hw; have hw : w.cell? ⟨p, 0, none⟩ = some (.slice (some ⟨a, 0, none⟩) n ca) ∧ w.cell? ⟨p, 1, none⟩ = some (.slice (some ⟨b, 0, none⟩) n cb) ∧ w.cell? ⟨B, 0, none⟩ = some (.int .i64 (j : Int)) ∧ w.heap[G]? = some (.cells X 89 (0, 0)) := hw; obtain ⟨hw1, hw2, hw3, hw4⟩ := hw; go_simp⟩) HS ?_
      simp only [List.getElem_toArray, List.getElem_cons_succ, List.getElem_cons_zero, Act.put, List.setIfInBounds_toArray, List.set_cons_zero, List.set_cons_succ]
      refine wpAnyH_take (i := 10) (v := .agg X) rfl (by kernel_rfl) (by kernel_rfl) (by kernel_rfl) (fun _ _ _ h => h) (yieldsIf_load_mid (by rfl) 89 _ rfl G 0 rfl X.toList _ (fun w h => HXr.out w G h.2.2.2) Try.underlying89 rfl HIC.out) HS ?_
      simp only [List.getElem_toArray, List.getElem_cons_succ, List.getElem_cons_zero, Act.put, List.setIfInBounds_toArray, List.set_cons_zero, List.set_cons_succ]
      refine wpAnyH_take (i := 11) (v := .agg X) rfl (by kernel_rfl) (by kernel_rfl) (by kernel_rfl) (fun _ _ _ h => h) (yieldsIf_load_mid (by rfl) 89 _ rfl G 0 rfl X.toList _ (fun w h => HXr.out w G h.2.2.2) Try.underlying89 rfl HIC.out) HS ?_
      simp only [List.getElem_toArray, List.getElem_cons_succ, List.getElem_cons_zero, Act.put, List.setIfInBounds_toArray, List.set_cons_zero, List.set_cons_succ]
      refine wpAnyH_take (i := 12) (v := .pointer (some ⟨a, j * 129, none⟩)) rfl (by kernel_rfl) (by kernel_rfl) (by kernel_rfl) (fun _ _ _ h => h) (Or.inl ⟨by first | rfl | kernel_rfl, by intro w _; go_simp⟩) HS ?_
      simp only [List.getElem_toArray, List.getElem_cons_succ, List.getElem_cons_zero, Act.put, List.setIfInBounds_toArray, List.set_cons_zero, List.set_cons_succ]
      have D4 : Hid _ := HA.out.below HB3.out
      obtain ⟨cur, new, g1, g2, g3, D5⟩ := D4.out.putSure j hjl bk
      rw [HXX.out] at g2 g3
      have hjl5 : j < (d.sure.set j bk).length := by simpa using hjl
      obtain ⟨cur2, new2, k1, k2, k3, D6⟩ := D5.putTold j hjl5 bk
      rw [HXX.out] at k2 k3
      have HT5 : Hid (Turn O w (W4.setRow a new)) := (Turn.of_below HB3.out).setRow hOa new
      have HT6 : Hid (Turn O w ((W4.setRow a new).setRow b new2)) := HT5.out.setRow hOb new2
      have hBb : B ≠ a ∧ B ≠ b := by have := HB.out; omega
      have hGb : G ≠ a ∧ G ≠ b := by omega
      have HS5 : (W4.setRow a new).cell? ⟨p, 0, none⟩ = some (.slice (some ⟨a, 0, none⟩) n ca) ∧ (W4.setRow a new).cell? ⟨p, 1, none⟩ = some (.slice (some ⟨b, 0, none⟩) n cb) ∧ (W4.setRow a new).cell? ⟨B, 0, none⟩ = some (.int .i64 (j : Int)) ∧ (W4.setRow a new).heap[G]? = some (.cells X 89 (0, 0)) := by
        obtain ⟨q0, q1, -⟩ := D5.c
        simp only [List.length_set] at q0 q1
        rw [HNN.out] at q0 q1
        exact ⟨q0, q1, by rw [World.cell?_of_block (w := W4) (heap_setRow_ne hBb.1)]; exact HS.2.2.1, by rw [heap_setRow_ne hGb.1]; exact HS.2.2.2⟩
      have HS6 : ((W4.setRow a new).setRow b new2).cell? ⟨p, 0, none⟩ = some (.slice (some ⟨a, 0, none⟩) n ca) ∧ ((W4.setRow a new).setRow b new2).cell? ⟨p, 1, none⟩ = some (.slice (some ⟨b, 0, none⟩) n cb) ∧ ((W4.setRow a new).setRow b new2).cell? ⟨B, 0, none⟩ = some (.int .i64 (j : Int)) ∧ ((W4.setRow a new).setRow b new2).heap[G]? = some (.cells X 89 (0, 0)) := by
        obtain ⟨q0, q1, -⟩ := D6.c
        simp only [List.length_set] at q0 q1
        rw [HNN.out] at q0 q1
        exact ⟨q0, q1, by rw [World.cell?_of_block (w := W4.setRow a new) (heap_setRow_ne hBb.2)]; exact HS5.2.2.1, by rw [heap_setRow_ne hGb.2]; exact HS5.2.2.2⟩
      have HD6 : Hid _ := D6
      have G1 : Hid _ := g1
      have G2 : Hid _ := g2
      have G3 : Hid _ := g3
      have J1 : Hid _ := k1
      have J2 : Hid _ := k2
      have J3 : Hid _ := k3
      clear g1 g2 g3 k1 k2 k3 D5 D6 D4
      refine wpAnyH_ready (rs := [13]) (by kernel_rfl) (by simp) (AllReadyH.cons (by simp only [List.getElem?_toArray, List.getElem?_cons_succ, List.getElem?_cons_zero]; rfl) (fun K hK => ?_) AllReadyH.nil)
      refine step_plain rfl (wp_store_midR 89 _ _ rfl a (j * 129) X cur new 89 rfl rfl G1.out G2.out HXi.out HX2.out G3.out ?_)
      refine hK.out _ _ HS5 (fun _ => ?_)
      clear hK K
      try simp only [List.getElem_toArray, List.getElem_cons_succ, List.getElem_cons_zero, Act.put, List.setIfInBounds_toArray, List.set_cons_zero, List.set_cons_succ]
      refine wpAnyH_take (i := 14) (v := .pointer (some ⟨b, j * 129, none⟩)) rfl (by kernel_rfl) (by kernel_rfl) (by kernel_rfl) (fun _ _ _ h => h) (Or.inl ⟨by first | rfl | kernel_rfl, by intro w _; go_simp⟩) HS5 ?_
      simp only [List.getElem_toArray, List.getElem_cons_succ, List.getElem_cons_zero, Act.put, List.setIfInBounds_toArray, List.set_cons_zero, List.set_cons_succ]
      refine wpAnyH_ready (rs := [15]) (by kernel_rfl) (by simp) (AllReadyH.cons (by simp only [List.getElem?_toArray, List.getElem?_cons_succ, List.getElem?_cons_zero]; rfl) (fun K hK => ?_) AllReadyH.nil)
      refine step_plain rfl (wp_store_midR 89 _ _ rfl b (j * 129) X cur2 new2 89 rfl rfl J1.out J2.out HXi.out HX2.out J3.out ?_)
      refine hK.out _ _ HS6 (fun _ => ?_)
      clear hK K
      try simp only [List.getElem_toArray, List.getElem_cons_succ, List.getElem_cons_zero, Act.put, List.setIfInBounds_toArray, List.set_cons_zero, List.set_cons_succ]
      refine wpAnyH_done (by kernel_rfl) ?_ _
      obtain ⟨-, -, cB, -⟩ := HS6
      obtain ⟨-, -, c2', -⟩ := HD6.out.c
      generalize ((W4.setRow a new).setRow b new2) = W6 at *
      have HDe : Hid (Calls Try.prog 61 #[.slice x d.acts.length c, .func (.func 62) #[] #[.pointer (some ⟨B, 0, none⟩)]] W6 fun e w' => e = .returned (.slice x (delA d.acts (j : Int)).length c) ∧ w'.ownsRow 0 100 1 (.slice x (delA d.acts (j : Int)).length c) (delA d.acts (j : Int)).length ((delA d.acts (j : Int)).map acV) ∧ Turn (fun b => ∃ g, x = some g ∧ b = g.block) W6 w') := delete_any HD6.out.acts cB (by omega) (fun g e => by have := hxl g e; have := HB.out; omega)
      clear HS HS5 G1 G2 G3 J1 J2 J3 cB c2 HA hA
      go_wp2_with fail
      refine Calls.mono HDe.out ?_
      rintro e w7 ⟨rfl, o7, t7⟩
      obtain ⟨D8, T8⟩ := HD6.out.delActs o7 t7
      have HR : Hid (Dev (w7.setCell ⟨p, 2, none⟩ (.slice x (delA d.acts (j : Int)).length c)) p { d with sure := d.sure.set j bk, told := d.told.set j bk, acts := delA d.acts (j : Int) } O ∧ Turn O w (w7.setCell ⟨p, 2, none⟩ (.slice x (delA d.acts (j : Int)).length c))) := ⟨⟨_, _, _, _, _, _, _, D8⟩, HT6.out.trans T8 fun _ _ h => h⟩
      have hpn : ∀ k, (∃ g, x = some g ∧ k = g.block) → k ≠ p := fun k ⟨g, e, hk⟩ => by rw [hk]; exact (n4 g.block (by rw [e]; rfl)).1
      have cp7 : w7.cell? ⟨p, 2, none⟩ = some (.slice x d.acts.length c) := by
        rw [World.cell?_of_block (t7.block p (HD6.out.own p (by simp [blocks])).2 (fun e => hpn p e rfl))]; exact c2'
      have fp7 : w7.frozen? ⟨p, 2, none⟩ = false := by
        have e : w7.heap[p]? = W6.heap[p]? := t7.block p (HD6.out.own p (by simp [blocks])).2 (fun e => hpn p e rfl)
        rw [HD6.out.cells] at e
        exact frozen_of_row _ _ _ _ _ e
      clear o7 t7 D8 T8 HDe HD6 c2'
      go_wp2
      go_ret
      exact ⟨rfl, HR.out⟩
  · rw [decide_eq_false hi] at hh
    have e : tamperD d i st s = (2, d) := by unfold tamperD; rw [if_pos hi]
    rw [e]
    have HD : Hid (Dev w p d O) := h
    clear h hD0 hB0 hG0 hW0 e hi
    generalize S s = A at *
    go_enter Try.func37, Try.ntmps37
    go_wp2_with fail
    rw [HW0.out]
    refine Calls.mono hn ?_
    rintro e w1 ⟨rfl, rfl⟩
    go_wp2_with fail
    refine Calls.mono hh ?_
    rintro e w1 ⟨rfl, rfl⟩
    clear hn hh
    go_wp2
    go_ret
    exact ⟨rfl, HD.out.below HB0.out, Turn.of_below HB0.out⟩
end Go.Proofs.Ythlaackalmgfnaa

/- With, tampering too; Tamper on a device beside others. -/
namespace Go.Proofs.Ythlaackalmgfnaa
open Go.RowKit

/-- What a thing asked tells, and makes. -/
def withT (d : Dv) (x : DoX) : Int × Dv := if x.q % 13 = 12 then tamperD d x.i x.n (dataT x.n x.s) else withD d x
theorem delA_len (L : List Ac) (i : Int) : (delA L i).length ≤ L.length := List.length_filter_le _ _
theorem tamperD_few (d : Dv) (i st : Int) (s : List UInt8) : (tamperD d i st s).2.acts.length ≤ d.acts.length ∧ (tamperD d i st s).2.starts = d.starts := by
  unfold tamperD
  split
  · exact ⟨Nat.le_refl _, rfl⟩
  · split
    · exact ⟨Nat.le_refl _, rfl⟩
    · exact ⟨delA_len _ _, rfl⟩
theorem withT_few (d : Dv) (x : DoX) : (withT d x).2.acts.length ≤ d.acts.length + 1 ∧ (withT d x).2.starts ≤ d.starts + 1 := by
  unfold withT
  split
  · obtain ⟨h1, h2⟩ := tamperD_few d x.i x.n (dataT x.n x.s)
    exact ⟨by omega, by omega⟩
  · exact withD_few d x
theorem dev_withT {wr : World} {p : Nat} {d : Dv} {O : Nat → Prop} (h : Dev wr p d O) (x : DoX) (hx : x.ok wr) (hxk : x.k ≠ [] → ∀ i, x.kv.ownBlock = some i → ¬ O i) (hhi : ∀ k, O k → k < wr.heap.size) (hl : x.k.length ≤ 1000000) (ha : d.acts.length < 1000000) (hs : d.starts < 1000000) :
    Calls Try.prog 12 #[.pointer (some ⟨p, 0, none⟩), .agg x.v] wr (Tells fun r w' => r = (withT d x).1 ∧ Dev w' p (withT d x).2 (grow O wr w') ∧ Turn O wr w') := by
  by_cases hq : x.q % 13 = 12
  · have e : withT d x = tamperD d x.i x.n (dataT x.n x.s) := by unfold withT; rw [if_pos hq]
    refine with_12 hq hx.q fun w1 hb => (tamper_dev (h.below hb) x.i x.n (dataT x.n x.s) ha).mono fun _ w' hh => ?_
    refine ⟨_, hh.1, ⟨by rw [e], by rw [e]; exact hh.2.1.mono fun _ hk => .inl hk, (Turn.of_below hb).trans hh.2.2 fun _ _ h => h⟩, fun k hk1 hk2 => hh.2.2.block k hk2 fun hO => ?_⟩
    have := hhi k hO
    omega
  · have e : withT d x = withD d x := by unfold withT; rw [if_neg hq]
    rw [e]
    exact dev_with h x hx hxk hhi hl (by have := Nat.mod_lt x.q (show 0 < 13 by omega); omega) ha hs
section
variable {w : World} {ds : List (Nat × Dv)} {is : List (Value × List Int)} {ts : List (Value × List (List UInt8))} {rs : List (Nat × Obj)} {wr : World}
theorem sys_withT (h : Sys w ds is ts rs wr) (i : Nat) {p : Nat} {d : Dv} (hi : ds[i]? = some (p, d)) (x : DoX) (hx : x.ok w) (hl : x.k.length ≤ 1000000) (ha : d.acts.length < 1000000) (hs : d.starts < 1000000) :
    Calls Try.prog 12 #[.pointer (some ⟨p, 0, none⟩), .agg x.v] wr (Tells fun r w' => r = (withT d x).1 ∧ Sys w (ds.set i (p, (withT d x).2)) is ts rs w') := by
  obtain ⟨O, h⟩ := h
  exact Calls.mono (dev_withT (h.dev i p d hi) x (hx.below h.below) (fun hk b hb hO => by have := (h.lo i b hO).1; have := hx.kb hk b hb; omega) (fun k hk => (h.lo i k hk).2) hl ha hs) fun _ _ ⟨r, he, hr, hd, ht⟩ => ⟨r, he, hr, h.turn hi hd ht⟩
theorem sys_tamper (h : Sys w ds is ts rs wr) (i : Nat) {p : Nat} {d : Dv} (hi : ds[i]? = some (p, d)) (k st : Int) (s : List UInt8) (ha : d.acts.length < 1000000) :
    Calls Try.prog 37 #[.pointer (some ⟨p, 0, none⟩), .int .i64 k, .int .i64 st, .string (S s)] wr fun e w' => e = .returned (.int .i64 (tamperD d k st s).1) ∧ Sys w (ds.set i (p, (tamperD d k st s).2)) is ts rs w' := by
  obtain ⟨O, h⟩ := h
  exact (tamper_dev (h.dev i p d hi) k st s ha).mono fun _ _ hh => ⟨hh.1, h.turn0 hi hh.2.1 hh.2.2⟩
end
end Go.Proofs.Ythlaackalmgfnaa

/- Cells of lists; what Read and State tell of a block. -/
namespace Go.Proofs.Ythlaackalmgfnaa
open Go.RowKit

/-- A list's cell, in whatever world lies above. -/
theorem Sys.intAt {w : World} {ds : List (Nat × Dv)} {is : List (Value × List Int)} {ts : List (Value × List (List UInt8))} {rs : List (Nat × Obj)} {wr : World} (h : Sys w ds is ts rs wr) {a : Option Addr} {n c : Nat} {l : List Int} (hv : (.slice a n c, l) ∈ is) {i : Nat} {x : Int} (hi : l[i]? = some x) : ∃ b o, a = some ⟨b, o, none⟩ ∧ wr.cell? ⟨b, o + i, none⟩ = some (.int .i64 x) := by
  obtain ⟨a', c', e, hh⟩ := h.int hv
  obtain ⟨b, o, e2, hc⟩ := hh i x hi
  simp at e
  obtain ⟨rfl, rfl, rfl⟩ := e
  exact ⟨b, o, e2, hc⟩
theorem Sys.textAt {w : World} {ds : List (Nat × Dv)} {is : List (Value × List Int)} {ts : List (Value × List (List UInt8))} {rs : List (Nat × Obj)} {wr : World} (h : Sys w ds is ts rs wr) {a : Option Addr} {n c : Nat} {l : List (List UInt8)} (hv : (.slice a n c, l) ∈ ts) {i : Nat} {x : List UInt8} (hi : l[i]? = some x) : ∃ b o, a = some ⟨b, o, none⟩ ∧ wr.cell? ⟨b, o + i, none⟩ = some (.string (S x)) := by
  obtain ⟨a', c', e, hh⟩ := h.text hv
  obtain ⟨b, o, e2, hc⟩ := hh i x hi
  simp at e
  obtain ⟨rfl, rfl, rfl⟩ := e
  exact ⟨b, o, e2, hc⟩
theorem statesD_get (d : Dv) (i : Nat) (b : Blk) (h : d.told[i]? = some b) : (statesD d)[i]? = some (b.st : Int) := by unfold statesD; rw [List.getElem?_map, h]; rfl
/-- A block's text, as a Read of a running device tells it. -/
def txB (b : Blk) : List UInt8 := if b.st = 0 then [] else if b.st = 2 then [] else txt b.by_
theorem allD_txB {d : Dv} (hu : d.up = true) (hl : d.told.length = d.sure.length) (i : Nat) (b : Blk) (h : d.told[i]? = some b) : (allD d)[i]? = some (txB b) := by
  have hi := (List.getElem?_eq_some_iff.1 h).1
  rw [allD_get d i (by omega)]
  unfold readD txB
  rw [if_pos hu, if_pos (by omega)]
  simp only [Int.toNat_natCast, h]
  split
  · rfl
  · split <;> rfl
/-- What Read and State tell of a block. -/
theorem read_b {d : Dv} (hu : d.up = true) (i : Nat) (b : Blk) (h : d.told[i]? = some b) : readD d (i : Int) = (txB b, if b.st = 0 then 41 else if b.st = 2 then 42 else 0) := by
  unfold readD txB
  rw [if_pos hu, if_pos (by omega)]
  simp only [Int.toNat_natCast, h]
  split
  · rfl
  · split <;> rfl
theorem state_b {d : Dv} (i : Nat) (b : Blk) (h : d.told[i]? = some b) : stAtD d (i : Int) = (b.st : Int) := by
  unfold stAtD
  rw [if_pos (by omega), Int.toNat_natCast, h]; rfl
end Go.Proofs.Ythlaackalmgfnaa

namespace Go.Proofs.Ythlaackalmgfnaa
open Go.RowKit

theorem crash_off {d : Dv} (hl : d.told.length = d.sure.length) (h : ∀ j : Nat, (∀ a ∈ d.acts, a.at_ ≠ j) → d.told[j]? = d.sure[j]?) (k : List Int) : (crashD d k).told = (crashD d k).sure := by
  apply List.ext_getElem?
  intro i
  refine (crashN_same d.sure d.told d.acts k hl i d.acts.length ?_).symm
  rcases on_or_off d.acts i with hi | hi
  · exact .inl (h i hi).symm
  · exact .inr hi
/-- A device one block of which was tampered with. -/
def tpD (d : Dv) (i : Nat) (b : Blk) : Dv := { d with sure := d.sure.set i b, told := d.told.set i b, acts := delA d.acts (i : Int) }
theorem tp_eq (d : Dv) (i : Nat) (hi : i < d.sure.length) (st : Int) (s : List UInt8) (b : Blk) (hb : blkOf st s = some b) : tamperD d (i : Int) st s = (0, tpD d i b) := by
  unfold tamperD
  rw [if_neg (fun h => h ⟨by omega, by omega⟩), hb]
  simp only [Int.toNat_natCast]
  rfl
theorem tp_crash {d : Dv} (h : Wf d) (i : Nat) (b : Blk) : (crashD (tpD d i b) []).sure = d.sure.set i b ∧ (crashD (tpD d i b) []).told = d.sure.set i b := by
  have e : (crashD (tpD d i b) []).sure = d.sure.set i b := crashN_nil _ _ _ _
  refine ⟨e, ?_⟩
  rw [crash_off (d := tpD d i b) (by simp [tpD, h.plain.len]) (fun j hj => ?_), e]
  show (d.told.set i b)[j]? = (d.sure.set i b)[j]?
  by_cases hij : i = j
  · subst hij
    rw [List.getElem?_set_self', List.getElem?_set_self']
    have := h.plain.len
    by_cases hl : i < d.sure.length
    · rw [List.getElem?_eq_getElem (by omega), List.getElem?_eq_getElem hl]; rfl
    · rw [List.getElem?_eq_none (by omega), List.getElem?_eq_none (by omega)]
  · rw [List.getElem?_set_ne hij, List.getElem?_set_ne hij]
    refine h.off j fun a ha e => ?_
    refine hj a ?_ e
    refine List.mem_filter.2 ⟨ha, ?_⟩
    unfold isAt
    rw [decide_eq_false (by omega)]; rfl
/-- The block that is asked for. -/
def blkD (st : Nat) (s : List UInt8) : Blk := ⟨st, if st = 1 then ofT s else fun _ => 0⟩
theorem blkOf_ok (st : Nat) (hst : st < 3) (s : List UInt8) (hs : s.length = 128) : blkOf (st : Int) (if st = 1 then s else []) = some (blkD st s) := by
  unfold blkOf blkD
  have : st = 0 ∨ st = 1 ∨ st = 2 := by omega
  rcases this with rfl | rfl | rfl
  · rfl
  · rw [if_pos ⟨rfl, by rw [if_pos rfl]; exact hs⟩, if_pos rfl]; rfl
  · rfl
theorem txB_blkD (st : Nat) (hst : st < 3) (s : List UInt8) (hs : s.length = 128) : txB (blkD st s) = if st = 1 then s else [] := by
  unfold txB blkD
  dsimp only
  by_cases h1 : st = 1
  · rw [if_neg (by omega), if_neg (by omega), if_pos h1, if_pos h1]
    exact txt_ofT s hs
  · rw [if_neg h1, if_neg h1]
    by_cases h0 : st = 0
    · rw [if_pos h0]
    · rw [if_neg h0, if_pos (by omega)]
end Go.Proofs.Ythlaackalmgfnaa
