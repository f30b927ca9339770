/- DeviceTell's loop, joined. -/
import Derived.Test.YthlaackalmgfnaaHd
import Derived.Test.YthlaackalmgfnaaEm
import Derived.Deep.DeepCutAuto
import Derived.Deep.CutRange
/- DeviceTell's loop: its body, its frame, what holds ahead of a round; a round. -/
namespace Go.Proofs.Ythlaackalmgfnaa
open Go.RowKit

/-- The body of a loop of a code: the first one that stands there. -/
def loopT : Code → Option Code
  | .block _ x => loopT x
  | .scope x => loopT x
  | .loop x => some x
  | .seq x y => (loopT x).orElse fun _ => loopT y
  | .cond _ x y => (loopT x).orElse fun _ => loopT y
  | _ => none
def tbodyOf (fn : Func) : Code := ((fn.body.bind loopT).getD .skip)
set_option maxRecDepth 1000000 in
/-- The frame at the head of a round. -/
def tfr (u cc : Nat → Value) (x1 : Value) (p q m : Nat) : Act := ⟨#[cc 0, x1, cc 2, cc 3, cc 4, .pointer (some ⟨p, 0, none⟩), cc 6, .pointer (some ⟨q, 0, none⟩), cc 8, .int .i64 (m : Int), u 10, u 11, cc 12, cc 13, cc 14, cc 15, cc 16, cc 17, cc 18, cc 19, cc 20, cc 21, cc 22, cc 23, cc 24, cc 25, cc 26, cc 27, cc 28, cc 29, cc 30, cc 31, cc 32, cc 33, cc 34, cc 35, cc 36, cc 37, cc 38, cc 39, cc 40, cc 41, cc 42, cc 43, cc 44, cc 45, cc 46, cc 47, cc 48, cc 49, cc 50, cc 51, u 52, u 53, u 54, u 55, u 56, u 57, u 58, u 59, u 60, u 61, u 62, u 63, u 64, u 65, u 66, u 67, u 68, u 69, u 70, u 71, u 72, u 73, u 74, u 75, u 76, u 77, u 78, u 79, u 80, u 81, u 82, u 83, u 84, u 85, u 86, u 87, u 88, u 89, u 90, u 91, u 92, u 93, u 94, u 95, u 96, u 97, u 98, u 99, u 100, u 101, u 102, u 103, u 104, u 105, u 106, u 107, u 108, u 109, u 110, u 111, u 112, u 113, u 114, u 115, u 116, u 117, u 118, u 119, u 120, u 121, u 122, u 123, u 124, u 125, u 126, u 127, cc 128, cc 129, cc 130, cc 131, cc 132, cc 133, cc 134, cc 135, cc 136, cc 137, cc 138, cc 139, cc 140, cc 141, cc 142, cc 143, cc 144, cc 145, cc 146, cc 147, cc 148, cc 149], []⟩
/-- What holds behind the copy of a list. -/
structure Fin13 (wr : World) (B : Nat) (x : DoX) (A : ByteArray) (g2 c2 : Nat) (wx : World) : Prop where
  below : Below wr.heap.size wr wx
  g : B < g2
  lt : g2 < wx.heap.size
  box : wx.heap[B]? = some (.cells #[.int .u8 (x.q : Int), .int .i64 x.i, .int .i64 x.n, .string A, .slice (some ⟨g2, 0, none⟩) x.k.length c2] 37 (0, 0))
  cur : ∃ cur, wx.heap[g2]? = some (.cells cur 3 (0, 0)) ∧ x.k.length ≤ cur.size ∧ ∀ (j : Nat) (n : Int), x.k[j]? = some n → cur[j]? = some (Value.int .i64 n)
/-- What holds ahead of a round. -/
def TellI (w : World) (p q m : Nat) (wr : World) : Prop := ∃ d r, Duo w p q d r wr ∧ d.acts.length ≤ m ∧ d.starts ≤ m ∧ r.keep.length ≤ 100
def tWI (w : World) (cc : Nat → Value) (x1 : Value) (p q ny : Nat) (a : Act) (wr : World) : Prop := ∃ (u : Nat → Value) (m : Nat), m ≤ ny ∧ TellI w p q m wr ∧ a = tfr u cc x1 p q m
def tmu (ny : Nat) (a : Act) (_ : World) : Nat := ny - (intOf (a.tmps.getD 9 undef)).toNat
theorem tWI_intro {w : World} {cc : Nat → Value} {x1 : Value} {p q ny : Nat} {a : Act} {wr : World} (m : Nat) (hm : m ≤ ny) (h : TellI w p q m wr) (e : a = tfr (fun k => a.tmps.getD k undef) cc x1 p q m) : tWI w cc x1 p q ny a wr := ⟨_, m, hm, h, e⟩
set_option linter.unusedSimpArgs false in
set_option maxRecDepth 1000000 in
set_option maxHeartbeats 12800000 in
theorem tround {w : World} {xs : List DoX} {b o c ny p q m : Nat} {wr : World} (u cc : Nat → Value) {Q0 : Exit → Act → World → Prop} (HX : DosAt w (some ⟨b, o, none⟩) xs) (hny : ny ≤ xs.length) (hn6 : ny ≤ 60) (hmy : ∀ x ∈ xs, x.k.length ≤ 100) (HI0 : TellI w p q m wr) (hpan : ∀ (e : List PanicEntry) (a : Act) (t : Option Tmp) (v : Value) (w1 : World), Q0 (.panic e) (a.put t v) w1 → Q0 (.panic e) a w1) (hlt : m < ny) : Code.wp Try.prog (tbodyOf Try.f3) (Exit.then (fun a1 w1 => tWI w cc (.slice (some ⟨b, o, none⟩) ny c) p q ny a1 w1 ∧ tmu ny a1 w1 < tmu ny (tfr u cc (.slice (some ⟨b, o, none⟩) ny c) p q m) wr) Q0) (tfr u cc (.slice (some ⟨b, o, none⟩) ny c) p q m) wr := by
  have HPan : Hid (∀ (e : List PanicEntry) (a : Act) (t : Option Tmp) (v : Value) (w1 : World), Q0 (.panic e) (a.put t v) w1 → Q0 (.panic e) a w1) := hpan
  clear hpan
  conv => arg 2; whnf
  unfold tfr
  have hm6 : m < 60 := by omega
  have hlt2 : (m : Int) < (ny : Int) := by omega
  have hn61 : (ny : Int) ≤ 60 := by omega
  obtain ⟨x, hx⟩ : ∃ x, xs[m]? = some x := ⟨_, List.getElem?_eq_getElem (by omega)⟩
  obtain ⟨hok, b', o', eb, hrg⟩ := HX m x hx
  simp at eb
  obtain ⟨rfl, rfl⟩ := eb
  have hxk := hmy x (List.mem_of_getElem? hx)
  obtain ⟨d, r, ⟨P, O, hBo⟩, hac, hst, hke⟩ := HI0
  have hbw := hBo.below
  have HBw : Hid (Below w.heap.size w wr) := hbw
  have HBo0 : Hid (Both w p q d r P O wr) := hBo
  have HOk : Hid (x.ok w) := hok
  have HRgw : Hid (w.rangeAt b (o + m * 5) x.v.toList) := hrg
  have HRg : Hid (wr.rangeAt b (o + m * 5) x.v.toList) := range_below hrg hbw
  have HIC : Hid ((Try.prog.info? 37).map (·.size) = some x.v.toList.length) := by show _ = _; rw [DoX.size]; kernel_rfl
  have HI5 : Hid ((Try.prog.info? 37).map (·.size) = some 5) := by show _ = some 5; kernel_rfl
  have HOne : Hid (x.v.toList.toArray.all (·.oneCell') = true) := by show _ = _; simp [DoX.v, doV, DoX.kv, Value.oneCell']
  have HKw : Hid (∀ wz, Below w.heap.size w wz → IntsAt wz (.slice x.ka x.k.length x.kc) x.k) := fun wz hb => (hok.below hb).k
  have HF1 := withT_few d x
  have HAc : Hid ((withT d x).2.acts.length ≤ 60) := by have := HF1.1; show _ ≤ _; omega
  have HFw : Hid ((withT d x).2.acts.length ≤ m + 1 ∧ (withT d x).2.starts ≤ m + 1 ∧ (byR r x).2.keep.length ≤ 100) := ⟨by have := HF1.1; omega, by have := HF1.2; omega, by rcases byR_keep r x with e | e <;> rw [e] <;> omega⟩
  have HWi0 : Hid (∀ wx (g2 c2 : Nat), Below wr.heap.size wr wx → wr.heap.size < g2 → IntsAt wx (.slice (some ⟨g2, 0, none⟩) x.k.length c2) x.k → Calls Try.prog 12 #[.pointer (some ⟨p, 0, none⟩), .agg #[.int .u8 (x.q : Int), .int .i64 x.i, .int .i64 x.n, .string (S x.s), .slice (some ⟨g2, 0, none⟩) x.k.length c2]] wx (Tells fun e w' => e = (withT d x).1 ∧ Dev w' p (withT d x).2 (grow P wx w') ∧ Turn P wx w')) := fun wx g2 c2 hb hg hi =>
    both_with hBo hb { x with ka := some ⟨g2, 0, none⟩, kc := c2 } ⟨hok.q, hok.i, hok.n, hi⟩ (fun _ i hi => by simp [DoX.kv, Value.ownBlock] at hi; omega) (by omega) (by omega) (by omega)
  have HBy0 : Hid (∀ wx w1, Below wr.heap.size wr wx → Dev w1 p (withT d x).2 (grow P wx w1) → Turn P wx w1 → Calls Try.prog 13 #[.pointer (some ⟨q, 0, none⟩), .agg #[.int .u8 (x.q : Int), .int .i64 x.i, .int .i64 x.n, .string (S x.s), .slice x.ka x.k.length x.kc]] w1 (Tells fun e w2 => e = (withT d x).1 ∧ (∃ P' O', Both w p q (withT d x).2 (byR r x).2 P' O' w2 ∧ ∀ k, wr.heap.size ≤ k → k < wx.heap.size → ¬ P' k ∧ ¬ O' k) ∧ (∀ k, wr.heap.size ≤ k → k < wx.heap.size → w2.heap[k]? = wx.heap[k]?) ∧ wx.heap.size ≤ w2.heap.size ∧ Below w.heap.size w w2)) := fun wx w1 hb hd ht =>
    both_by hBo hb x x hok rfl (by omega) (by omega) (by omega) hke hd ht
  have HPO : Hid (∀ k, P k → w.heap.size ≤ k ∧ k < wr.heap.size) := fun k hk => hBo.lo k (.inl hk)
  clear hBo hok hrg hbw hx HX hmy HF1 hac hst hke
  unfold DoX.v doV DoX.kv at HRg HIC HOne HRgw
  generalize hA : S x.s = A at *
  clear hA
  generalize (withT d x).1 = E at *
  obtain ⟨W1, hW1⟩ : ∃ W1, wr.alloc (.cells #[.int .u8 (x.q : Int), .int .i64 x.i, .int .i64 x.n, .string A, .slice x.ka x.k.length x.kc] 37) = W1 := ⟨_, rfl⟩
  have H01 : Hid (Below wr.heap.size wr W1) := by rw [← hW1]; exact (Below.refl _ _).alloc (Nat.le_refl _) _
  have HBx : Hid (W1.heap[wr.heap.size]? = some (.cells #[.int .u8 (x.q : Int), .int .i64 x.i, .int .i64 x.n, .string A, .slice x.ka x.k.length x.kc] 37 (0, 0))) := by rw [← hW1]; exact heap_alloc_last _ _
  have HW1s : Hid (W1.heap.size = wr.heap.size + 1) := by show _ = _; rw [← hW1]; simp
  have HLk : Hid (∀ wz, Below wr.heap.size wr wz → wz.cell? ⟨b, o + m * 5 + 4, none⟩ = some (.slice x.ka x.k.length x.kc)) := fun wz hb => by
    have := range_below HRgw.out (HBw.out.trans (hb.mono HBw.out.size))
    exact this 4 _ rfl
  have HKs : Hid (∀ wz, Below wr.heap.size wr wz → IntsAt wz (.slice x.ka x.k.length x.kc) x.k) := fun wz hb => HKw.out wz (HBw.out.trans (hb.mono HBw.out.size))
  have hwr : IntKind.i64.wrap ((x.k.length : Int) + 1) = (x.k.length : Int) + 1 := by
    rw [IntKind.wrap_i64]
    omega
  obtain ⟨ia, i1, i2, i3, i4⟩ := info_int
  have HIA : Hid (Try.prog.info? 3 = some ia ∧ ia.zero = some (.int .i64 0) ∧ ia.size = 1 ∧ ia.bytes = 8) := ⟨i1, i2, i3, i4⟩
  clear i1 i2 i3 i4
  have HW1 : Hid _ := hW1
  clear hW1
  go_upto_region 13 with (first | (refine store_last rfl 37 (.tmp 10) (.tmp 65) rfl 5 _ _ _ rfl rfl HI5.out rfl rfl HOne.out ?_) | (refine wpList_load_mid rfl 37 (.tmp 64) rfl b (o + m * 5) rfl _ _ HRg.out Try.underlying37 rfl HIC.out ?_))
  dsimp only [Act.put]
  go_cut [89] from 66 to 89 (fun _ wx => ∃ g2 c2, Fin13 wr wr.heap.size x A g2 c2 wx)
  case first =>
    rw [HW1.out]
    refine wp_region_held (S := fun w' => Below wr.heap.size wr w') (by kernel_rfl) ?_
    change wpAnyH _ _ _ _ _ _ _ _ (World.drew _)
    have HB0 : Hid (Below W1.heap.size W1 W1.drew) := (Below.refl _ _).drew
    generalize W1.drew = W2 at *
    refine wpAnyH_take (i := 0) (v := .slice (some ⟨b, o, none⟩) ny c) rfl (by kernel_rfl) (by kernel_rfl) (by kernel_rfl) (fun _ _ _ h => HPan.out _ _ _ _ _ h) (Or.inl ⟨by rfl, by intro w' _; go_simp⟩) (H01.out.trans (HB0.out.mono H01.out.size)) ?_
    simp only [List.getElem_toArray, List.getElem_cons_succ, List.getElem_cons_zero, Act.put, List.setIfInBounds_toArray, List.set_cons_zero, List.set_cons_succ]
    refine wpAnyH_take (i := 1) (v := .int .i64 (m : Int)) rfl (by kernel_rfl) (by kernel_rfl) (by kernel_rfl) (fun _ _ _ h => HPan.out _ _ _ _ _ h) (Or.inl ⟨by rfl, by intro w' _; go_simp⟩) (H01.out.trans (HB0.out.mono H01.out.size)) ?_
    simp only [List.getElem_toArray, List.getElem_cons_succ, List.getElem_cons_zero, Act.put, List.setIfInBounds_toArray, List.set_cons_zero, List.set_cons_succ]
    refine wpAnyH_take (i := 2) (v := .pointer (some ⟨b, o + m * 5, none⟩)) rfl (by kernel_rfl) (by kernel_rfl) (by kernel_rfl) (fun _ _ _ h => HPan.out _ _ _ _ _ h) (Or.inl ⟨by rfl, by intro w' _; go_simp⟩) (H01.out.trans (HB0.out.mono H01.out.size)) ?_
    simp only [List.getElem_toArray, List.getElem_cons_succ, List.getElem_cons_zero, Act.put, List.setIfInBounds_toArray, List.set_cons_zero, List.set_cons_succ]
    refine wpAnyH_take (i := 3) (v := .pointer (some ⟨b, o + m * 5 + 4, none⟩)) rfl (by kernel_rfl) (by kernel_rfl) (by kernel_rfl) (fun _ _ _ h => HPan.out _ _ _ _ _ h) (Or.inl ⟨by rfl, by intro w' _; go_simp⟩) (H01.out.trans (HB0.out.mono H01.out.size)) ?_
    simp only [List.getElem_toArray, List.getElem_cons_succ, List.getElem_cons_zero, Act.put, List.setIfInBounds_toArray, List.set_cons_zero, List.set_cons_succ]
    refine wpAnyH_take (i := 4) (v := .slice x.ka x.k.length x.kc) rfl (by kernel_rfl) (by kernel_rfl) (by kernel_rfl) (fun _ _ _ h => HPan.out _ _ _ _ _ h) (Or.inl ⟨by rfl, by intro w' hw; have hw1 := HLk.out w' hw; go_simp⟩) (H01.out.trans (HB0.out.mono H01.out.size)) ?_
    simp only [List.getElem_toArray, List.getElem_cons_succ, List.getElem_cons_zero, Act.put, List.setIfInBounds_toArray, List.set_cons_zero, List.set_cons_succ]
    refine wpAnyH_take (i := 5) (v := .int .i64 (x.k.length : Int)) rfl (by kernel_rfl) (by kernel_rfl) (by kernel_rfl) (fun _ _ _ h => HPan.out _ _ _ _ _ h) (Or.inl ⟨by rfl, by intro w' _; go_simp⟩) (H01.out.trans (HB0.out.mono H01.out.size)) ?_
    simp only [List.getElem_toArray, List.getElem_cons_succ, List.getElem_cons_zero, Act.put, List.setIfInBounds_toArray, List.set_cons_zero, List.set_cons_succ]
    refine wpAnyH_take (i := 6) (v := .int .i64 ((x.k.length : Int) + 1)) rfl (by kernel_rfl) (by kernel_rfl) (by kernel_rfl) (fun _ _ _ h => HPan.out _ _ _ _ _ h) (Or.inl ⟨by rfl, by intro w' _; go_simp⟩) (H01.out.trans (HB0.out.mono H01.out.size)) ?_
    simp only [List.getElem_toArray, List.getElem_cons_succ, List.getElem_cons_zero, Act.put, List.setIfInBounds_toArray, List.set_cons_zero, List.set_cons_succ]
    refine wpAnyH_take (i := 8) (v := .slice (some ⟨b, o, none⟩) ny c) rfl (by kernel_rfl) (by kernel_rfl) (by kernel_rfl) (fun _ _ _ h => HPan.out _ _ _ _ _ h) (Or.inl ⟨by rfl, by intro w' _; go_simp⟩) (H01.out.trans (HB0.out.mono H01.out.size)) ?_
    simp only [List.getElem_toArray, List.getElem_cons_succ, List.getElem_cons_zero, Act.put, List.setIfInBounds_toArray, List.set_cons_zero, List.set_cons_succ]
    refine wpAnyH_take (i := 9) (v := .int .i64 (m : Int)) rfl (by kernel_rfl) (by kernel_rfl) (by kernel_rfl) (fun _ _ _ h => HPan.out _ _ _ _ _ h) (Or.inl ⟨by rfl, by intro w' _; go_simp⟩) (H01.out.trans (HB0.out.mono H01.out.size)) ?_
    simp only [List.getElem_toArray, List.getElem_cons_succ, List.getElem_cons_zero, Act.put, List.setIfInBounds_toArray, List.set_cons_zero, List.set_cons_succ]
    refine wpAnyH_take (i := 10) (v := .pointer (some ⟨b, o + m * 5, none⟩)) rfl (by kernel_rfl) (by kernel_rfl) (by kernel_rfl) (fun _ _ _ h => HPan.out _ _ _ _ _ h) (Or.inl ⟨by rfl, by intro w' _; go_simp⟩) (H01.out.trans (HB0.out.mono H01.out.size)) ?_
    simp only [List.getElem_toArray, List.getElem_cons_succ, List.getElem_cons_zero, Act.put, List.setIfInBounds_toArray, List.set_cons_zero, List.set_cons_succ]
    refine wpAnyH_take (i := 11) (v := .pointer (some ⟨b, o + m * 5 + 4, none⟩)) rfl (by kernel_rfl) (by kernel_rfl) (by kernel_rfl) (fun _ _ _ h => HPan.out _ _ _ _ _ h) (Or.inl ⟨by rfl, by intro w' _; go_simp⟩) (H01.out.trans (HB0.out.mono H01.out.size)) ?_
    simp only [List.getElem_toArray, List.getElem_cons_succ, List.getElem_cons_zero, Act.put, List.setIfInBounds_toArray, List.set_cons_zero, List.set_cons_succ]
    refine wpAnyH_take (i := 12) (v := .slice x.ka x.k.length x.kc) rfl (by kernel_rfl) (by kernel_rfl) (by kernel_rfl) (fun _ _ _ h => HPan.out _ _ _ _ _ h) (Or.inl ⟨by rfl, by intro w' hw; have hw1 := HLk.out w' hw; go_simp⟩) (H01.out.trans (HB0.out.mono H01.out.size)) ?_
    simp only [List.getElem_toArray, List.getElem_cons_succ, List.getElem_cons_zero, Act.put, List.setIfInBounds_toArray, List.set_cons_zero, List.set_cons_succ]
    refine wpAnyH_take (i := 16) (v := .slice (some ⟨b, o, none⟩) ny c) rfl (by kernel_rfl) (by kernel_rfl) (by kernel_rfl) (fun _ _ _ h => HPan.out _ _ _ _ _ h) (Or.inl ⟨by rfl, by intro w' _; go_simp⟩) (H01.out.trans (HB0.out.mono H01.out.size)) ?_
    simp only [List.getElem_toArray, List.getElem_cons_succ, List.getElem_cons_zero, Act.put, List.setIfInBounds_toArray, List.set_cons_zero, List.set_cons_succ]
    refine wpAnyH_take (i := 17) (v := .int .i64 (m : Int)) rfl (by kernel_rfl) (by kernel_rfl) (by kernel_rfl) (fun _ _ _ h => HPan.out _ _ _ _ _ h) (Or.inl ⟨by rfl, by intro w' _; go_simp⟩) (H01.out.trans (HB0.out.mono H01.out.size)) ?_
    simp only [List.getElem_toArray, List.getElem_cons_succ, List.getElem_cons_zero, Act.put, List.setIfInBounds_toArray, List.set_cons_zero, List.set_cons_succ]
    refine wpAnyH_take (i := 18) (v := .pointer (some ⟨b, o + m * 5, none⟩)) rfl (by kernel_rfl) (by kernel_rfl) (by kernel_rfl) (fun _ _ _ h => HPan.out _ _ _ _ _ h) (Or.inl ⟨by rfl, by intro w' _; go_simp⟩) (H01.out.trans (HB0.out.mono H01.out.size)) ?_
    simp only [List.getElem_toArray, List.getElem_cons_succ, List.getElem_cons_zero, Act.put, List.setIfInBounds_toArray, List.set_cons_zero, List.set_cons_succ]
    refine wpAnyH_take (i := 19) (v := .pointer (some ⟨b, o + m * 5 + 4, none⟩)) rfl (by kernel_rfl) (by kernel_rfl) (by kernel_rfl) (fun _ _ _ h => HPan.out _ _ _ _ _ h) (Or.inl ⟨by rfl, by intro w' _; go_simp⟩) (H01.out.trans (HB0.out.mono H01.out.size)) ?_
    simp only [List.getElem_toArray, List.getElem_cons_succ, List.getElem_cons_zero, Act.put, List.setIfInBounds_toArray, List.set_cons_zero, List.set_cons_succ]
    refine wpAnyH_take (i := 20) (v := .slice x.ka x.k.length x.kc) rfl (by kernel_rfl) (by kernel_rfl) (by kernel_rfl) (fun _ _ _ h => HPan.out _ _ _ _ _ h) (Or.inl ⟨by rfl, by intro w' hw; have hw1 := HLk.out w' hw; go_simp⟩) (H01.out.trans (HB0.out.mono H01.out.size)) ?_
    simp only [List.getElem_toArray, List.getElem_cons_succ, List.getElem_cons_zero, Act.put, List.setIfInBounds_toArray, List.set_cons_zero, List.set_cons_succ]
    refine wpAnyH_take (i := 21) (v := .int .i64 (x.k.length : Int)) rfl (by kernel_rfl) (by kernel_rfl) (by kernel_rfl) (fun _ _ _ h => HPan.out _ _ _ _ _ h) (Or.inl ⟨by rfl, by intro w' _; go_simp⟩) (H01.out.trans (HB0.out.mono H01.out.size)) ?_
    simp only [List.getElem_toArray, List.getElem_cons_succ, List.getElem_cons_zero, Act.put, List.setIfInBounds_toArray, List.set_cons_zero, List.set_cons_succ]
    refine wpAnyH_ready (rs := [7, 14]) (by kernel_rfl) (by simp) (AllReadyH.cons (by simp only [List.getElem?_toArray, List.getElem?_cons_succ, List.getElem?_cons_zero]; rfl) (fun K hK => ?_) (AllReadyH.cons (by simp only [List.getElem?_toArray, List.getElem?_cons_succ, List.getElem?_cons_zero]; rfl) (fun K hK => ?_) AllReadyH.nil))

    · have hmk := mk_room x.k.length (by omega) W2
      refine step_plain rfl ?_
      go_simp
      clear hmk
      have HB1 : Hid (Below W1.heap.size W1 (W2.alloc (.cells (iv (List.replicate (x.k.length + 1) 0)) 3))) := HB0.out.alloc HB0.out.size _
      have HM : Hid ((W2.alloc (.cells (iv (List.replicate (x.k.length + 1) 0)) 3)).ownsRow W1.heap.size 3 1 (.slice (some ⟨W2.heap.size, 0, none⟩) 0 (x.k.length + 1)) 0 []) := World.ownsRow_made W2 _ _ HB0.out.size (by simp only [maxLen]; omega) (by rw [iv_size]; simp)
      refine hK.out _ _ (H01.out.trans (HB1.out.mono H01.out.size)) (fun _ => ?_)
      clear hK K
      try simp only [List.getElem_toArray, List.getElem_cons_succ, List.getElem_cons_zero, Act.put, List.setIfInBounds_toArray, List.set_cons_zero, List.set_cons_succ]
      obtain ⟨EM, hEM⟩ : ∃ E, W2.heap.size = E := ⟨_, rfl⟩
      rw [hEM] at HM
      rw [hEM]
      clear hEM
      obtain ⟨V1, hV1⟩ : ∃ X, W2.alloc (.cells (iv (List.replicate (x.k.length + 1) 0)) 3) = X := ⟨_, rfl⟩
      rw [hV1] at HB1 HM
      rw [hV1]
      clear hV1
      refine wpAnyH_ready (rs := [13, 14]) (by kernel_rfl) (by simp) (AllReadyH.cons (by simp only [List.getElem?_toArray, List.getElem?_cons_succ, List.getElem?_cons_zero]; rfl) (fun K hK => ?_) (AllReadyH.cons (by simp only [List.getElem?_toArray, List.getElem?_cons_succ, List.getElem?_cons_zero]; rfl) (fun K hK => ?_) AllReadyH.nil))
      · refine step_plain rfl (wp_append_copy _ _ rfl W1.heap.size EM (x.k.length + 1) x.k x.ka x.kc rfl rfl (HKs.out _ (H01.out.trans (HB1.out.mono H01.out.size))) HM.out (by omega) HB1.out.size ?_)
        intro vM V11 r1 r2
        have HB11 : Hid (Below W1.heap.size W1 V11) := HB1.out.grown r2 HB1.out.size (fun k hk => (World.ownsRow.lt HM.out k hk).1)
        replace HM : Hid (V11.ownsRow W1.heap.size 3 1 vM x.k.length (x.k.map (Value.int .i64))) := r1
        clear r1 r2
        refine hK.out _ _ (H01.out.trans (HB11.out.mono H01.out.size)) (fun _ => ?_)
        clear hK K
        try simp only [List.getElem_toArray, List.getElem_cons_succ, List.getElem_cons_zero, Act.put, List.setIfInBounds_toArray, List.set_cons_zero, List.set_cons_succ]
        refine wpAnyH_ready (rs := [14]) (by kernel_rfl) (by simp) (AllReadyH.cons (by simp only [List.getElem?_toArray, List.getElem?_cons_succ, List.getElem?_cons_zero]; rfl) (fun K hK => ?_) AllReadyH.nil)
        refine step_plain rfl ?_
        go_simp
        have HB12 : Hid (Below W1.heap.size W1 (V11.alloc (.cells #[.int .i64 99] 3))) := HB11.out.alloc HB11.out.size _
        have HN9 : Hid (∀ j u, [Value.int .i64 99][j]? = some u → (V11.alloc (.cells #[.int .i64 99] 3)).cell? ((⟨V11.heap.size, 0, none⟩ : Addr).add j) = some u) := one_newsI
        replace HM : Hid _ := World.ownsRow.alloc HM.out (.cells #[.int .i64 99] 3)
        refine hK.out _ _ (H01.out.trans (HB12.out.mono H01.out.size)) (fun _ => ?_)
        clear hK K
        try simp only [List.getElem_toArray, List.getElem_cons_succ, List.getElem_cons_zero, Act.put, List.setIfInBounds_toArray, List.set_cons_zero, List.set_cons_succ]
        obtain ⟨E9, hE9⟩ : ∃ E, V11.heap.size = E := ⟨_, rfl⟩
        rw [hE9] at HN9
        rw [hE9]
        clear hE9
        obtain ⟨V12, hV12⟩ : ∃ X, V11.alloc (.cells #[.int .i64 99] 3) = X := ⟨_, rfl⟩
        rw [hV12] at HB12 HN9 HM
        rw [hV12]
        clear hV12
        refine wpAnyH_ready (rs := [15]) (by kernel_rfl) (by simp) (AllReadyH.cons (by simp only [List.getElem?_toArray, List.getElem?_cons_succ, List.getElem?_cons_zero]; rfl) (fun K hK => ?_) AllReadyH.nil)
        refine step_plain rfl (wp_append_own _ _ _ 31 rfl W1.heap.size 3 ia (.int .i64 0) 1 8 Try.underlying31 HIA.out.1 HIA.out.2.1 HIA.out.2.2.1 HIA.out.2.2.2 rfl (by omega) vM x.k.length (x.k.map (Value.int .i64)) rfl HM.out ⟨E9, 0, none⟩ 1 1 [.int .i64 99] rfl rfl HN9.out one_cellsI (by simp only [maxLen]; omega) (by omega) HB12.out.size ?_)
        intro v15 V13 r1 r2 r3
        have HB13 : Hid (Below W1.heap.size W1 V13) := HB12.out.grown r2 HB12.out.size (fun k hk => (World.ownsRow.lt HM.out k hk).1)
        obtain ⟨g2, c2, cur, rfl, hc2, hg2, hcur, hcs, hck⟩ := copy_row rfl r1
        clear r1 r2 r3
        have HCu : Hid _ := hcur
        have HCk : Hid _ := hck
        clear hck hcur HM HN9
        refine hK.out _ _ (H01.out.trans (HB13.out.mono H01.out.size)) (fun _ => ?_)
        clear hK K
        try simp only [List.getElem_toArray, List.getElem_cons_succ, List.getElem_cons_zero, Act.put, List.setIfInBounds_toArray, List.set_cons_zero, List.set_cons_succ]
        refine wpAnyH_take (i := 22) (v := .slice (some ⟨g2, 0, none⟩) x.k.length c2) rfl (by kernel_rfl) (by kernel_rfl) (by kernel_rfl) (fun _ _ _ h => HPan.out _ _ _ _ _ h) (Or.inl ⟨by rfl, by intro w' _; go_simp; intro hh; omega⟩) (H01.out.trans (HB13.out.mono H01.out.size)) ?_
        simp only [List.getElem_toArray, List.getElem_cons_succ, List.getElem_cons_zero, Act.put, List.setIfInBounds_toArray, List.set_cons_zero, List.set_cons_succ]
        refine wpAnyH_take (i := 23) (v := .pointer (some ⟨wr.heap.size, 4, none⟩)) rfl (by kernel_rfl) (by kernel_rfl) (by kernel_rfl) (fun _ _ _ h => HPan.out _ _ _ _ _ h) (Or.inl ⟨by rfl, by intro w' _; go_simp⟩) (H01.out.trans (HB13.out.mono H01.out.size)) ?_
        simp only [List.getElem_toArray, List.getElem_cons_succ, List.getElem_cons_zero, Act.put, List.setIfInBounds_toArray, List.set_cons_zero, List.set_cons_succ]
        have hbx : V13.heap[wr.heap.size]? = some (.cells #[.int .u8 (x.q : Int), .int .i64 x.i, .int .i64 x.n, .string A, .slice x.ka x.k.length x.kc] 37 (0, 0)) := by rw [HB13.out.block _ (row_lt HBx.out)]; exact HBx.out
        obtain ⟨u4, hu4⟩ : ∃ u, V13.cell? ⟨wr.heap.size, 4, none⟩ = some u := ⟨_, by rw [cell_of_row _ _ _ _ _ _ hbx]; rfl⟩
        have fu4 : V13.frozen? ⟨wr.heap.size, 4, none⟩ = false := frozen_of_row _ _ _ _ _ hbx
        have HFin : Hid (Fin13 wr wr.heap.size x A g2 c2 (V13.setCell ⟨wr.heap.size, 4, none⟩ (.slice (some ⟨g2, 0, none⟩) x.k.length c2))) := by
          have hgB : g2 ≠ wr.heap.size := by have := HW1s.out; omega
          exact ⟨(H01.out.trans (HB13.out.mono H01.out.size)).setCell (Nat.le_refl _) _, by have := HW1s.out; omega, by rw [heap_set_size]; exact row_lt HCu.out, by rw [heap_set_same hbx]; rfl, cur, by rw [Below.heap_setCell _ _ _ _ hgB]; exact HCu.out, hcs, HCk.out⟩
        clear hbx
        refine wpAnyH_ready (rs := [24]) (by kernel_rfl) (by simp) (AllReadyH.cons (by simp only [List.getElem?_toArray, List.getElem?_cons_succ, List.getElem?_cons_zero]; rfl) (fun K hK => ?_) AllReadyH.nil)
        refine step_plain rfl ?_
        go_simp
        refine hK.out _ _ HFin.out.below (fun _ => ?_)
        clear hK K
        try simp only [List.getElem_toArray, List.getElem_cons_succ, List.getElem_cons_zero, Act.put, List.setIfInBounds_toArray, List.set_cons_zero, List.set_cons_succ]
        refine wpAnyH_done (by kernel_rfl) ?_ _
        go_wp2_with fail
        go_meet
        exact ⟨_, _, HFin.out⟩
      · refine step_plain rfl ?_
        go_simp
        have HB2 : Hid (Below W1.heap.size W1 (V1.alloc (.cells #[.int .i64 99] 3))) := HB1.out.alloc HB1.out.size _
        have HN9 : Hid (∀ j u, [Value.int .i64 99][j]? = some u → (V1.alloc (.cells #[.int .i64 99] 3)).cell? ((⟨V1.heap.size, 0, none⟩ : Addr).add j) = some u) := one_newsI
        have HNE : Hid (V1.heap.size ≠ EM) := by have := (World.ownsRow.lt HM.out EM rfl).2; show _ ≠ _; omega
        replace HM : Hid _ := World.ownsRow.alloc HM.out (.cells #[.int .i64 99] 3)
        refine hK.out _ _ (H01.out.trans (HB2.out.mono H01.out.size)) (fun _ => ?_)
        clear hK K
        try simp only [List.getElem_toArray, List.getElem_cons_succ, List.getElem_cons_zero, Act.put, List.setIfInBounds_toArray, List.set_cons_zero, List.set_cons_succ]
        obtain ⟨E9, hE9⟩ : ∃ E, V1.heap.size = E := ⟨_, rfl⟩
        rw [hE9] at HN9 HNE
        rw [hE9]
        clear hE9
        obtain ⟨V2, hV2⟩ : ∃ X, V1.alloc (.cells #[.int .i64 99] 3) = X := ⟨_, rfl⟩
        rw [hV2] at HB2 HN9 HM
        rw [hV2]
        clear hV2
        refine wpAnyH_ready (rs := [13]) (by kernel_rfl) (by simp) (AllReadyH.cons (by simp only [List.getElem?_toArray, List.getElem?_cons_succ, List.getElem?_cons_zero]; rfl) (fun K hK => ?_) AllReadyH.nil)
        refine step_plain rfl (wp_append_copy _ _ rfl W1.heap.size EM (x.k.length + 1) x.k x.ka x.kc rfl rfl (HKs.out _ (H01.out.trans (HB2.out.mono H01.out.size))) HM.out (by omega) HB2.out.size ?_)
        intro vM V3 r1 r2
        have HB3 : Hid (Below W1.heap.size W1 V3) := HB2.out.grown r2 HB2.out.size (fun k hk => (World.ownsRow.lt HM.out k hk).1)
        replace HN9 : Hid (∀ j u, [Value.int .i64 99][j]? = some u → V3.cell? ((⟨E9, 0, none⟩ : Addr).add j) = some u) := fun j u hj => r2.cell (HN9.out j u hj) (fun e => HNE.out (by rw [Addr.add_mid] at e; simpa [Value.ownBlock] using e))
        replace HM : Hid (V3.ownsRow W1.heap.size 3 1 vM x.k.length (x.k.map (Value.int .i64))) := r1
        clear r1 r2
        refine hK.out _ _ (H01.out.trans (HB3.out.mono H01.out.size)) (fun _ => ?_)
        clear hK K
        try simp only [List.getElem_toArray, List.getElem_cons_succ, List.getElem_cons_zero, Act.put, List.setIfInBounds_toArray, List.set_cons_zero, List.set_cons_succ]
        refine wpAnyH_ready (rs := [15]) (by kernel_rfl) (by simp) (AllReadyH.cons (by simp only [List.getElem?_toArray, List.getElem?_cons_succ, List.getElem?_cons_zero]; rfl) (fun K hK => ?_) AllReadyH.nil)
        refine step_plain rfl (wp_append_own _ _ _ 31 rfl W1.heap.size 3 ia (.int .i64 0) 1 8 Try.underlying31 HIA.out.1 HIA.out.2.1 HIA.out.2.2.1 HIA.out.2.2.2 rfl (by omega) vM x.k.length (x.k.map (Value.int .i64)) rfl HM.out ⟨E9, 0, none⟩ 1 1 [.int .i64 99] rfl rfl HN9.out one_cellsI (by simp only [maxLen]; omega) (by omega) HB3.out.size ?_)
        intro v15 V4 r1 r2 r3
        have HB4 : Hid (Below W1.heap.size W1 V4) := HB3.out.grown r2 HB3.out.size (fun k hk => (World.ownsRow.lt HM.out k hk).1)
        obtain ⟨g2, c2, cur, rfl, hc2, hg2, hcur, hcs, hck⟩ := copy_row rfl r1
        clear r1 r2 r3
        have HCu : Hid _ := hcur
        have HCk : Hid _ := hck
        clear hck hcur HM HN9
        refine hK.out _ _ (H01.out.trans (HB4.out.mono H01.out.size)) (fun _ => ?_)
        clear hK K
        try simp only [List.getElem_toArray, List.getElem_cons_succ, List.getElem_cons_zero, Act.put, List.setIfInBounds_toArray, List.set_cons_zero, List.set_cons_succ]
        refine wpAnyH_take (i := 22) (v := .slice (some ⟨g2, 0, none⟩) x.k.length c2) rfl (by kernel_rfl) (by kernel_rfl) (by kernel_rfl) (fun _ _ _ h => HPan.out _ _ _ _ _ h) (Or.inl ⟨by rfl, by intro w' _; go_simp; intro hh; omega⟩) (H01.out.trans (HB4.out.mono H01.out.size)) ?_
        simp only [List.getElem_toArray, List.getElem_cons_succ, List.getElem_cons_zero, Act.put, List.setIfInBounds_toArray, List.set_cons_zero, List.set_cons_succ]
        refine wpAnyH_take (i := 23) (v := .pointer (some ⟨wr.heap.size, 4, none⟩)) rfl (by kernel_rfl) (by kernel_rfl) (by kernel_rfl) (fun _ _ _ h => HPan.out _ _ _ _ _ h) (Or.inl ⟨by rfl, by intro w' _; go_simp⟩) (H01.out.trans (HB4.out.mono H01.out.size)) ?_
        simp only [List.getElem_toArray, List.getElem_cons_succ, List.getElem_cons_zero, Act.put, List.setIfInBounds_toArray, List.set_cons_zero, List.set_cons_succ]
        have hbx : V4.heap[wr.heap.size]? = some (.cells #[.int .u8 (x.q : Int), .int .i64 x.i, .int .i64 x.n, .string A, .slice x.ka x.k.length x.kc] 37 (0, 0)) := by rw [HB4.out.block _ (row_lt HBx.out)]; exact HBx.out
        obtain ⟨u4, hu4⟩ : ∃ u, V4.cell? ⟨wr.heap.size, 4, none⟩ = some u := ⟨_, by rw [cell_of_row _ _ _ _ _ _ hbx]; rfl⟩
        have fu4 : V4.frozen? ⟨wr.heap.size, 4, none⟩ = false := frozen_of_row _ _ _ _ _ hbx
        have HFin : Hid (Fin13 wr wr.heap.size x A g2 c2 (V4.setCell ⟨wr.heap.size, 4, none⟩ (.slice (some ⟨g2, 0, none⟩) x.k.length c2))) := by
          have hgB : g2 ≠ wr.heap.size := by have := HW1s.out; omega
          exact ⟨(H01.out.trans (HB4.out.mono H01.out.size)).setCell (Nat.le_refl _) _, by have := HW1s.out; omega, by rw [heap_set_size]; exact row_lt HCu.out, by rw [heap_set_same hbx]; rfl, cur, by rw [Below.heap_setCell _ _ _ _ hgB]; exact HCu.out, hcs, HCk.out⟩
        clear hbx
        refine wpAnyH_ready (rs := [24]) (by kernel_rfl) (by simp) (AllReadyH.cons (by simp only [List.getElem?_toArray, List.getElem?_cons_succ, List.getElem?_cons_zero]; rfl) (fun K hK => ?_) AllReadyH.nil)
        refine step_plain rfl ?_
        go_simp
        refine hK.out _ _ HFin.out.below (fun _ => ?_)
        clear hK K
        try simp only [List.getElem_toArray, List.getElem_cons_succ, List.getElem_cons_zero, Act.put, List.setIfInBounds_toArray, List.set_cons_zero, List.set_cons_succ]
        refine wpAnyH_done (by kernel_rfl) ?_ _
        go_wp2_with fail
        go_meet
        exact ⟨_, _, HFin.out⟩
    · refine step_plain rfl ?_
      go_simp
      have HB21 : Hid (Below W1.heap.size W1 (W2.alloc (.cells #[.int .i64 99] 3))) := HB0.out.alloc HB0.out.size _
      have HN9 : Hid (∀ j u, [Value.int .i64 99][j]? = some u → (W2.alloc (.cells #[.int .i64 99] 3)).cell? ((⟨W2.heap.size, 0, none⟩ : Addr).add j) = some u) := one_newsI
      refine hK.out _ _ (H01.out.trans (HB21.out.mono H01.out.size)) (fun _ => ?_)
      clear hK K
      try simp only [List.getElem_toArray, List.getElem_cons_succ, List.getElem_cons_zero, Act.put, List.setIfInBounds_toArray, List.set_cons_zero, List.set_cons_succ]
      obtain ⟨E9, hE9⟩ : ∃ E, W2.heap.size = E := ⟨_, rfl⟩
      rw [hE9] at HN9
      rw [hE9]
      clear hE9
      obtain ⟨V21, hV21⟩ : ∃ X, W2.alloc (.cells #[.int .i64 99] 3) = X := ⟨_, rfl⟩
      rw [hV21] at HB21 HN9
      rw [hV21]
      clear hV21
      refine wpAnyH_ready (rs := [7]) (by kernel_rfl) (by simp) (AllReadyH.cons (by simp only [List.getElem?_toArray, List.getElem?_cons_succ, List.getElem?_cons_zero]; rfl) (fun K hK => ?_) AllReadyH.nil)
      have hmk := mk_room x.k.length (by omega) V21
      refine step_plain rfl ?_
      go_simp
      clear hmk
      have HB22 : Hid (Below W1.heap.size W1 (V21.alloc (.cells (iv (List.replicate (x.k.length + 1) 0)) 3))) := HB21.out.alloc HB21.out.size _
      have HM : Hid ((V21.alloc (.cells (iv (List.replicate (x.k.length + 1) 0)) 3)).ownsRow W1.heap.size 3 1 (.slice (some ⟨V21.heap.size, 0, none⟩) 0 (x.k.length + 1)) 0 []) := World.ownsRow_made V21 _ _ HB21.out.size (by simp only [maxLen]; omega) (by rw [iv_size]; simp)
      have HNE : Hid (E9 ≠ V21.heap.size) := by have := World.block_lt_of_cell? V21 _ (HN9.out 0 _ rfl); rw [Addr.add_mid] at this; dsimp only at this; show _ ≠ _; omega
      replace HN9 : Hid (∀ j u, [Value.int .i64 99][j]? = some u → (V21.alloc (.cells (iv (List.replicate (x.k.length + 1) 0)) 3)).cell? ((⟨E9, 0, none⟩ : Addr).add j) = some u) := fun j u hj => by rw [World.cell?_alloc_some _ _ _ (by rw [HN9.out j u hj]; rfl)]; exact HN9.out j u hj
      refine hK.out _ _ (H01.out.trans (HB22.out.mono H01.out.size)) (fun _ => ?_)
      clear hK K
      try simp only [List.getElem_toArray, List.getElem_cons_succ, List.getElem_cons_zero, Act.put, List.setIfInBounds_toArray, List.set_cons_zero, List.set_cons_succ]
      obtain ⟨EM, hEM⟩ : ∃ E, V21.heap.size = E := ⟨_, rfl⟩
      rw [hEM] at HM HNE
      rw [hEM]
      clear hEM
      obtain ⟨V22, hV22⟩ : ∃ X, V21.alloc (.cells (iv (List.replicate (x.k.length + 1) 0)) 3) = X := ⟨_, rfl⟩
      rw [hV22] at HB22 HM HN9
      rw [hV22]
      clear hV22
      refine wpAnyH_ready (rs := [13]) (by kernel_rfl) (by simp) (AllReadyH.cons (by simp only [List.getElem?_toArray, List.getElem?_cons_succ, List.getElem?_cons_zero]; rfl) (fun K hK => ?_) AllReadyH.nil)
      refine step_plain rfl (wp_append_copy _ _ rfl W1.heap.size EM (x.k.length + 1) x.k x.ka x.kc rfl rfl (HKs.out _ (H01.out.trans (HB22.out.mono H01.out.size))) HM.out (by omega) HB22.out.size ?_)
      intro vM V23 r1 r2
      have HB23 : Hid (Below W1.heap.size W1 V23) := HB22.out.grown r2 HB22.out.size (fun k hk => (World.ownsRow.lt HM.out k hk).1)
      replace HN9 : Hid (∀ j u, [Value.int .i64 99][j]? = some u → V23.cell? ((⟨E9, 0, none⟩ : Addr).add j) = some u) := fun j u hj => r2.cell (HN9.out j u hj) (fun e => HNE.out (by rw [Addr.add_mid] at e; simpa [Value.ownBlock] using e))
      replace HM : Hid (V23.ownsRow W1.heap.size 3 1 vM x.k.length (x.k.map (Value.int .i64))) := r1
      clear r1 r2
      refine hK.out _ _ (H01.out.trans (HB23.out.mono H01.out.size)) (fun _ => ?_)
      clear hK K
      try simp only [List.getElem_toArray, List.getElem_cons_succ, List.getElem_cons_zero, Act.put, List.setIfInBounds_toArray, List.set_cons_zero, List.set_cons_succ]
      refine wpAnyH_ready (rs := [15]) (by kernel_rfl) (by simp) (AllReadyH.cons (by simp only [List.getElem?_toArray, List.getElem?_cons_succ, List.getElem?_cons_zero]; rfl) (fun K hK => ?_) AllReadyH.nil)
      refine step_plain rfl (wp_append_own _ _ _ 31 rfl W1.heap.size 3 ia (.int .i64 0) 1 8 Try.underlying31 HIA.out.1 HIA.out.2.1 HIA.out.2.2.1 HIA.out.2.2.2 rfl (by omega) vM x.k.length (x.k.map (Value.int .i64)) rfl HM.out ⟨E9, 0, none⟩ 1 1 [.int .i64 99] rfl rfl HN9.out one_cellsI (by simp only [maxLen]; omega) (by omega) HB23.out.size ?_)
      intro v15 V24 r1 r2 r3
      have HB24 : Hid (Below W1.heap.size W1 V24) := HB23.out.grown r2 HB23.out.size (fun k hk => (World.ownsRow.lt HM.out k hk).1)
      obtain ⟨g2, c2, cur, rfl, hc2, hg2, hcur, hcs, hck⟩ := copy_row rfl r1
      clear r1 r2 r3
      have HCu : Hid _ := hcur
      have HCk : Hid _ := hck
      clear hck hcur HM HN9
      refine hK.out _ _ (H01.out.trans (HB24.out.mono H01.out.size)) (fun _ => ?_)
      clear hK K
      try simp only [List.getElem_toArray, List.getElem_cons_succ, List.getElem_cons_zero, Act.put, List.setIfInBounds_toArray, List.set_cons_zero, List.set_cons_succ]
      refine wpAnyH_take (i := 22) (v := .slice (some ⟨g2, 0, none⟩) x.k.length c2) rfl (by kernel_rfl) (by kernel_rfl) (by kernel_rfl) (fun _ _ _ h => HPan.out _ _ _ _ _ h) (Or.inl ⟨by rfl, by intro w' _; go_simp; intro hh; omega⟩) (H01.out.trans (HB24.out.mono H01.out.size)) ?_
      simp only [List.getElem_toArray, List.getElem_cons_succ, List.getElem_cons_zero, Act.put, List.setIfInBounds_toArray, List.set_cons_zero, List.set_cons_succ]
      refine wpAnyH_take (i := 23) (v := .pointer (some ⟨wr.heap.size, 4, none⟩)) rfl (by kernel_rfl) (by kernel_rfl) (by kernel_rfl) (fun _ _ _ h => HPan.out _ _ _ _ _ h) (Or.inl ⟨by rfl, by intro w' _; go_simp⟩) (H01.out.trans (HB24.out.mono H01.out.size)) ?_
      simp only [List.getElem_toArray, List.getElem_cons_succ, List.getElem_cons_zero, Act.put, List.setIfInBounds_toArray, List.set_cons_zero, List.set_cons_succ]
      have hbx : V24.heap[wr.heap.size]? = some (.cells #[.int .u8 (x.q : Int), .int .i64 x.i, .int .i64 x.n, .string A, .slice x.ka x.k.length x.kc] 37 (0, 0)) := by rw [HB24.out.block _ (row_lt HBx.out)]; exact HBx.out
      obtain ⟨u4, hu4⟩ : ∃ u, V24.cell? ⟨wr.heap.size, 4, none⟩ = some u := ⟨_, by rw [cell_of_row _ _ _ _ _ _ hbx]; rfl⟩
      have fu4 : V24.frozen? ⟨wr.heap.size, 4, none⟩ = false := frozen_of_row _ _ _ _ _ hbx
      have HFin : Hid (Fin13 wr wr.heap.size x A g2 c2 (V24.setCell ⟨wr.heap.size, 4, none⟩ (.slice (some ⟨g2, 0, none⟩) x.k.length c2))) := by
        have hgB : g2 ≠ wr.heap.size := by have := HW1s.out; omega
        exact ⟨(H01.out.trans (HB24.out.mono H01.out.size)).setCell (Nat.le_refl _) _, by have := HW1s.out; omega, by rw [heap_set_size]; exact row_lt HCu.out, by rw [heap_set_same hbx]; rfl, cur, by rw [Below.heap_setCell _ _ _ _ hgB]; exact HCu.out, hcs, HCk.out⟩
      clear hbx
      refine wpAnyH_ready (rs := [24]) (by kernel_rfl) (by simp) (AllReadyH.cons (by simp only [List.getElem?_toArray, List.getElem?_cons_succ, List.getElem?_cons_zero]; rfl) (fun K hK => ?_) AllReadyH.nil)
      refine step_plain rfl ?_
      go_simp
      refine hK.out _ _ HFin.out.below (fun _ => ?_)
      clear hK K
      try simp only [List.getElem_toArray, List.getElem_cons_succ, List.getElem_cons_zero, Act.put, List.setIfInBounds_toArray, List.set_cons_zero, List.set_cons_succ]
      refine wpAnyH_done (by kernel_rfl) ?_ _
      go_wp2_with fail
      go_meet
      exact ⟨_, _, HFin.out⟩
  case rest =>
    obtain ⟨g2, c2, hF0⟩ := hcut
    obtain ⟨W9, hW9⟩ : ∃ W9, wc.drew = W9 := ⟨_, rfl⟩
    have hF : Fin13 wr wr.heap.size x A g2 c2 W9 := by rw [← hW9]; exact ⟨hF0.below.drew, hF0.g, hF0.lt, hF0.box, hF0.cur⟩
    have HW9 : Hid _ := hW9
    clear hF0 hW9
    have HF : Hid _ := hF
    have hg2 := hF.g
    obtain ⟨cur0, hcur0, hcs0, hck0⟩ := hF.cur
    have HWi : Hid _ := HWi0.out W9 g2 c2 hF.below hF.g (copy_ints hcur0 hck0)
    have HBy : Hid _ := fun w1 hd ht => HBy0.out W9 w1 hF.below hd ht
    have HSt : Hid (∀ V1, Turn P W9 V1 → Below w.heap.size w V1 ∧ V1.heap[wr.heap.size]? = some (.cells #[.int .u8 (x.q : Int), .int .i64 x.i, .int .i64 x.n, .string A, .slice (some ⟨g2, 0, none⟩) x.k.length c2] 37 (0, 0))) := fun V1 ht => by
      have hb : Below w.heap.size w W9 := HBw.out.trans (hF.below.mono HBw.out.size)
      refine ⟨hb.trans (ht.below (fun k hk => (HPO.out k hk).1) hb.size), ?_⟩
      rw [ht.block _ (row_lt hF.box) (fun hP => by have := (HPO.out _ hP).2; omega)]
      exact hF.box
    have HS0 : Below w.heap.size w W9 ∧ W9.heap[wr.heap.size]? = some (.cells #[.int .u8 (x.q : Int), .int .i64 x.i, .int .i64 x.n, .string A, .slice (some ⟨g2, 0, none⟩) x.k.length c2] 37 (0, 0)) := ⟨HBw.out.trans (hF.below.mono HBw.out.size), hF.box⟩
    have HI52 : Hid ((Try.prog.info? 37).map (·.size) = some #[Value.int .u8 (x.q : Int), .int .i64 x.i, .int .i64 x.n, .string A, .slice (some ⟨g2, 0, none⟩) x.k.length c2].toList.length) := HI5.out
    have HI51 : Hid ((Try.prog.info? 37).map (·.size) = some #[Value.int .u8 (x.q : Int), .int .i64 x.i, .int .i64 x.n, .string A, .slice x.ka x.k.length x.kc].toList.length) := HI5.out
    have HRgs : Hid (∀ wz, Below w.heap.size w wz → wz.rangeAt b (o + m * 5) #[Value.int .u8 (x.q : Int), .int .i64 x.i, .int .i64 x.n, .string A, .slice x.ka x.k.length x.kc].toList) := fun wz hb => range_below HRgw.out hb
    have HLk2 : Hid (∀ wz, Below w.heap.size w wz → wz.cell? ⟨b, o + m * 5 + 4, none⟩ = some (.slice x.ka x.k.length x.kc)) := fun wz hb => (range_below HRgw.out hb) 4 _ rfl
    have HBk : Hid (∀ wz : World, wz.heap[wr.heap.size]? = some (.cells #[.int .u8 (x.q : Int), .int .i64 x.i, .int .i64 x.n, .string A, .slice (some ⟨g2, 0, none⟩) x.k.length c2] 37 (0, 0)) → wz.cell? ⟨wr.heap.size, 4, none⟩ = some (.slice (some ⟨g2, 0, none⟩) x.k.length c2)) := fun wz hb => by rw [cell_of_row _ _ _ _ _ _ hb]; rfl
    clear hF hcur0 hcs0 hck0 HWi0 HBy0 HPO HLk HKs HIA HRg HRgw HIC HOne H01 HBx HW1s HW1 HOk HBo0
    go_wp2
    refine wp_region_held (S := fun w' => Below w.heap.size w w' ∧ w'.heap[wr.heap.size]? = some (.cells #[.int .u8 (x.q : Int), .int .i64 x.i, .int .i64 x.n, .string A, .slice (some ⟨g2, 0, none⟩) x.k.length c2] 37 (0, 0))) (by kernel_rfl) ?_
    change wpAnyH _ _ _ _ _ _ _ _ (World.drew _)
    rw [HW9.out]
    clear HW9
    refine wpAnyH_take (i := 0) (v := .pointer (some ⟨p, 0, none⟩)) rfl (by kernel_rfl) (by kernel_rfl) (by kernel_rfl) (fun _ _ _ h => HPan.out _ _ _ _ _ h) (Or.inl ⟨by rfl, by intro w' _; go_simp⟩) HS0 ?_
    simp only [List.getElem_toArray, List.getElem_cons_succ, List.getElem_cons_zero, Act.put, List.setIfInBounds_toArray, List.set_cons_zero, List.set_cons_succ]
    refine wpAnyH_take (i := 1) (v := .agg #[.int .u8 (x.q : Int), .int .i64 x.i, .int .i64 x.n, .string A, .slice (some ⟨g2, 0, none⟩) x.k.length c2]) rfl (by kernel_rfl) (by kernel_rfl) (by kernel_rfl) (fun _ _ _ h => HPan.out _ _ _ _ _ h) (yieldsIf_load_mid (by rfl) 37 _ rfl wr.heap.size 0 rfl #[Value.int .u8 (x.q : Int), .int .i64 x.i, .int .i64 x.n, .string A, .slice (some ⟨g2, 0, none⟩) x.k.length c2].toList _ (fun w' hw => range_row hw.2) Try.underlying37 rfl HI52.out) HS0 ?_
    simp only [List.getElem_toArray, List.getElem_cons_succ, List.getElem_cons_zero, Act.put, List.setIfInBounds_toArray, List.set_cons_zero, List.set_cons_succ]
    refine wpAnyH_take (i := 3) (v := .pointer (some ⟨q, 0, none⟩)) rfl (by kernel_rfl) (by kernel_rfl) (by kernel_rfl) (fun _ _ _ h => HPan.out _ _ _ _ _ h) (Or.inl ⟨by rfl, by intro w' _; go_simp⟩) HS0 ?_
    simp only [List.getElem_toArray, List.getElem_cons_succ, List.getElem_cons_zero, Act.put, List.setIfInBounds_toArray, List.set_cons_zero, List.set_cons_succ]
    refine wpAnyH_take (i := 4) (v := .slice (some ⟨b, o, none⟩) ny c) rfl (by kernel_rfl) (by kernel_rfl) (by kernel_rfl) (fun _ _ _ h => HPan.out _ _ _ _ _ h) (Or.inl ⟨by rfl, by intro w' _; go_simp⟩) HS0 ?_
    simp only [List.getElem_toArray, List.getElem_cons_succ, List.getElem_cons_zero, Act.put, List.setIfInBounds_toArray, List.set_cons_zero, List.set_cons_succ]
    refine wpAnyH_take (i := 5) (v := .int .i64 (m : Int)) rfl (by kernel_rfl) (by kernel_rfl) (by kernel_rfl) (fun _ _ _ h => HPan.out _ _ _ _ _ h) (Or.inl ⟨by rfl, by intro w' _; go_simp⟩) HS0 ?_
    simp only [List.getElem_toArray, List.getElem_cons_succ, List.getElem_cons_zero, Act.put, List.setIfInBounds_toArray, List.set_cons_zero, List.set_cons_succ]
    refine wpAnyH_take (i := 6) (v := .pointer (some ⟨b, o + m * 5, none⟩)) rfl (by kernel_rfl) (by kernel_rfl) (by kernel_rfl) (fun _ _ _ h => HPan.out _ _ _ _ _ h) (Or.inl ⟨by rfl, by intro w' _; go_simp⟩) HS0 ?_
    simp only [List.getElem_toArray, List.getElem_cons_succ, List.getElem_cons_zero, Act.put, List.setIfInBounds_toArray, List.set_cons_zero, List.set_cons_succ]
    refine wpAnyH_take (i := 7) (v := .agg #[.int .u8 (x.q : Int), .int .i64 x.i, .int .i64 x.n, .string A, .slice x.ka x.k.length x.kc]) rfl (by kernel_rfl) (by kernel_rfl) (by kernel_rfl) (fun _ _ _ h => HPan.out _ _ _ _ _ h) (yieldsIf_load_mid (by rfl) 37 _ rfl b (o + m * 5) rfl #[Value.int .u8 (x.q : Int), .int .i64 x.i, .int .i64 x.n, .string A, .slice x.ka x.k.length x.kc].toList _ (fun w' hw => HRgs.out w' hw.1) Try.underlying37 rfl HI51.out) HS0 ?_
    simp only [List.getElem_toArray, List.getElem_cons_succ, List.getElem_cons_zero, Act.put, List.setIfInBounds_toArray, List.set_cons_zero, List.set_cons_succ]
    refine wpAnyH_ready (rs := [2]) (by kernel_rfl) (by simp) (AllReadyH.cons (by simp only [List.getElem?_toArray, List.getElem?_cons_succ, List.getElem?_cons_zero]; rfl) (fun K hK => ?_) AllReadyH.nil)
    refine step_plain rfl ?_
    go_simp
    refine Calls.mono HWi.out ?_
    rintro e V1 ⟨E1, rfl, hE1, hd1, ht1⟩
    replace hE1 := hE1.symm
    subst hE1
    have HBy1 : Hid _ := HBy.out V1 hd1 ht1
    have HS1 : Below w.heap.size w V1 ∧ V1.heap[wr.heap.size]? = some (.cells #[.int .u8 (x.q : Int), .int .i64 x.i, .int .i64 x.n, .string A, .slice (some ⟨g2, 0, none⟩) x.k.length c2] 37 (0, 0)) := HSt.out V1 ht1
    clear hd1 ht1 HWi HBy HSt
    refine hK.out _ _ HS1 (fun _ => ?_)
    clear hK K
    try simp only [List.getElem_toArray, List.getElem_cons_succ, List.getElem_cons_zero, Act.put, List.setIfInBounds_toArray, List.set_cons_zero, List.set_cons_succ]
    refine wpAnyH_ready (rs := [8]) (by kernel_rfl) (by simp) (AllReadyH.cons (by simp only [List.getElem?_toArray, List.getElem?_cons_succ, List.getElem?_cons_zero]; rfl) (fun K hK => ?_) AllReadyH.nil)
    refine step_plain rfl ?_
    go_simp
    refine Calls.mono HBy1.out ?_
    rintro e V2 ⟨E2, rfl, hE2, hB2, hk2, hs2, hb2⟩
    replace hE2 := hE2.symm
    subst hE2
    have HS2 : Below w.heap.size w V2 ∧ V2.heap[wr.heap.size]? = some (.cells #[.int .u8 (x.q : Int), .int .i64 x.i, .int .i64 x.n, .string A, .slice (some ⟨g2, 0, none⟩) x.k.length c2] 37 (0, 0)) := ⟨hb2, by rw [hk2 _ (Nat.le_refl _) (by have := HF.out.g; have := HF.out.lt; omega)]; exact HF.out.box⟩
    obtain ⟨cur, hcur, hcs, hck⟩ := HF.out.cur
    have HC2 : Hid (V2.heap[g2]? = some (.cells cur 3 (0, 0))) := by show _ = _; rw [hk2 _ (Nat.le_of_lt HF.out.g) HF.out.lt]; exact hcur
    have HCk : Hid _ := hck
    have HI2 : Hid (IntsAt V2 (.slice (some ⟨g2, 0, none⟩) x.k.length c2) x.k) := copy_ints HC2.out hck
    have HI3 : Hid (IntsAt V2 (.slice x.ka x.k.length x.kc) x.k) := HKw.out V2 hb2
    have HBo : Hid _ := hB2
    have HSz2 : Hid (W9.heap.size ≤ V2.heap.size) := hs2
    have HB2 : Hid (Below w.heap.size w V2) := hb2
    clear hcur hck hB2 hk2 hs2 hb2 HBy1
    refine hK.out _ _ HS2 (fun _ => ?_)
    clear hK K
    try simp only [List.getElem_toArray, List.getElem_cons_succ, List.getElem_cons_zero, Act.put, List.setIfInBounds_toArray, List.set_cons_zero, List.set_cons_succ]
    refine wpAnyH_take (i := 9) (v := .bool false) rfl (by kernel_rfl) (by kernel_rfl) (by kernel_rfl) (fun _ _ _ h => HPan.out _ _ _ _ _ h) (Or.inl ⟨by rfl, by intro w' _; go_simp⟩) HS2 ?_
    simp only [List.getElem_toArray, List.getElem_cons_succ, List.getElem_cons_zero, Act.put, List.setIfInBounds_toArray, List.set_cons_zero, List.set_cons_succ]
    refine wpAnyH_take (i := 10) (v := .bool false) rfl (by kernel_rfl) (by kernel_rfl) (by kernel_rfl) (fun _ _ _ h => HPan.out _ _ _ _ _ h) (Or.inl ⟨by rfl, by intro w' _; go_simp⟩) HS2 ?_
    simp only [List.getElem_toArray, List.getElem_cons_succ, List.getElem_cons_zero, Act.put, List.setIfInBounds_toArray, List.set_cons_zero, List.set_cons_succ]
    refine wpAnyH_take (i := 11) (v := .pointer (some ⟨wr.heap.size, 4, none⟩)) rfl (by kernel_rfl) (by kernel_rfl) (by kernel_rfl) (fun _ _ _ h => HPan.out _ _ _ _ _ h) (Or.inl ⟨by rfl, by intro w' _; go_simp⟩) HS2 ?_
    simp only [List.getElem_toArray, List.getElem_cons_succ, List.getElem_cons_zero, Act.put, List.setIfInBounds_toArray, List.set_cons_zero, List.set_cons_succ]
    refine wpAnyH_take (i := 12) (v := .slice (some ⟨g2, 0, none⟩) x.k.length c2) rfl (by kernel_rfl) (by kernel_rfl) (by kernel_rfl) (fun _ _ _ h => HPan.out _ _ _ _ _ h) (Or.inl ⟨by rfl, by intro w' hw; have hw1 := HBk.out w' hw.2; go_simp⟩) HS2 ?_
    simp only [List.getElem_toArray, List.getElem_cons_succ, List.getElem_cons_zero, Act.put, List.setIfInBounds_toArray, List.set_cons_zero, List.set_cons_succ]
    refine wpAnyH_take (i := 13) (v := .slice (some ⟨b, o, none⟩) ny c) rfl (by kernel_rfl) (by kernel_rfl) (by kernel_rfl) (fun _ _ _ h => HPan.out _ _ _ _ _ h) (Or.inl ⟨by rfl, by intro w' _; go_simp⟩) HS2 ?_
    simp only [List.getElem_toArray, List.getElem_cons_succ, List.getElem_cons_zero, Act.put, List.setIfInBounds_toArray, List.set_cons_zero, List.set_cons_succ]
    refine wpAnyH_take (i := 14) (v := .int .i64 (m : Int)) rfl (by kernel_rfl) (by kernel_rfl) (by kernel_rfl) (fun _ _ _ h => HPan.out _ _ _ _ _ h) (Or.inl ⟨by rfl, by intro w' _; go_simp⟩) HS2 ?_
    simp only [List.getElem_toArray, List.getElem_cons_succ, List.getElem_cons_zero, Act.put, List.setIfInBounds_toArray, List.set_cons_zero, List.set_cons_succ]
    refine wpAnyH_take (i := 15) (v := .pointer (some ⟨b, o + m * 5, none⟩)) rfl (by kernel_rfl) (by kernel_rfl) (by kernel_rfl) (fun _ _ _ h => HPan.out _ _ _ _ _ h) (Or.inl ⟨by rfl, by intro w' _; go_simp⟩) HS2 ?_
    simp only [List.getElem_toArray, List.getElem_cons_succ, List.getElem_cons_zero, Act.put, List.setIfInBounds_toArray, List.set_cons_zero, List.set_cons_succ]
    refine wpAnyH_take (i := 16) (v := .pointer (some ⟨b, o + m * 5 + 4, none⟩)) rfl (by kernel_rfl) (by kernel_rfl) (by kernel_rfl) (fun _ _ _ h => HPan.out _ _ _ _ _ h) (Or.inl ⟨by rfl, by intro w' _; go_simp⟩) HS2 ?_
    simp only [List.getElem_toArray, List.getElem_cons_succ, List.getElem_cons_zero, Act.put, List.setIfInBounds_toArray, List.set_cons_zero, List.set_cons_succ]
    refine wpAnyH_take (i := 17) (v := .slice x.ka x.k.length x.kc) rfl (by kernel_rfl) (by kernel_rfl) (by kernel_rfl) (fun _ _ _ h => HPan.out _ _ _ _ _ h) (Or.inl ⟨by rfl, by intro w' hw; have hw1 := HLk2.out w' hw.1; go_simp⟩) HS2 ?_
    simp only [List.getElem_toArray, List.getElem_cons_succ, List.getElem_cons_zero, Act.put, List.setIfInBounds_toArray, List.set_cons_zero, List.set_cons_succ]
    refine wpAnyH_ready (rs := [18]) (by kernel_rfl) (by simp) (AllReadyH.cons (by simp only [List.getElem?_toArray, List.getElem?_cons_succ, List.getElem?_cons_zero]; rfl) (fun K hK => ?_) AllReadyH.nil)
    refine step_want (by rfl) ?_
    go_simp
    refine Calls.mono (ints_true HI2.out HI3.out (by omega)) ?_
    rintro e V3 ⟨rfl, hb3⟩
    have HS3 : Below w.heap.size w V3 ∧ V3.heap[wr.heap.size]? = some (.cells #[.int .u8 (x.q : Int), .int .i64 x.i, .int .i64 x.n, .string A, .slice (some ⟨g2, 0, none⟩) x.k.length c2] 37 (0, 0)) := ⟨HB2.out.trans (hb3.mono HB2.out.size), by rw [hb3.block _ (row_lt HS2.2)]; exact HS2.2⟩
    have HB3 : Hid _ := hb3
    clear hb3 HI2 HI3
    refine hK.out _ _ HS3 (fun _ => ?_)
    clear hK K
    try simp only [List.getElem_toArray, List.getElem_cons_succ, List.getElem_cons_zero, Act.put, List.setIfInBounds_toArray, List.set_cons_zero, List.set_cons_succ]
    refine wpAnyH_take (i := 19) (v := .bool false) rfl (by kernel_rfl) (by kernel_rfl) (by kernel_rfl) (fun _ _ _ h => HPan.out _ _ _ _ _ h) (Or.inl ⟨by rfl, by intro w' _; go_simp⟩) HS3 ?_
    simp only [List.getElem_toArray, List.getElem_cons_succ, List.getElem_cons_zero, Act.put, List.setIfInBounds_toArray, List.set_cons_zero, List.set_cons_succ]
    refine wpAnyH_take (i := 20) (v := .bool false) rfl (by kernel_rfl) (by kernel_rfl) (by kernel_rfl) (fun _ _ _ h => HPan.out _ _ _ _ _ h) (Or.inl ⟨by rfl, by intro w' _; go_simp⟩) HS3 ?_
    simp only [List.getElem_toArray, List.getElem_cons_succ, List.getElem_cons_zero, Act.put, List.setIfInBounds_toArray, List.set_cons_zero, List.set_cons_succ]
    refine wpAnyH_take (i := 21) (v := .bool false) rfl (by kernel_rfl) (by kernel_rfl) (by kernel_rfl) (fun _ _ _ h => HPan.out _ _ _ _ _ h) (Or.inl ⟨by rfl, by intro w' _; go_simp⟩) HS3 ?_
    simp only [List.getElem_toArray, List.getElem_cons_succ, List.getElem_cons_zero, Act.put, List.setIfInBounds_toArray, List.set_cons_zero, List.set_cons_succ]
    refine wpAnyH_take (i := 22) (v := .pointer (some ⟨p, 0, none⟩)) rfl (by kernel_rfl) (by kernel_rfl) (by kernel_rfl) (fun _ _ _ h => HPan.out _ _ _ _ _ h) (Or.inl ⟨by rfl, by intro w' _; go_simp⟩) HS3 ?_
    simp only [List.getElem_toArray, List.getElem_cons_succ, List.getElem_cons_zero, Act.put, List.setIfInBounds_toArray, List.set_cons_zero, List.set_cons_succ]
    refine wpAnyH_take (i := 23) (v := .pointer (some ⟨q, 0, none⟩)) rfl (by kernel_rfl) (by kernel_rfl) (by kernel_rfl) (fun _ _ _ h => HPan.out _ _ _ _ _ h) (Or.inl ⟨by rfl, by intro w' _; go_simp⟩) HS3 ?_
    simp only [List.getElem_toArray, List.getElem_cons_succ, List.getElem_cons_zero, Act.put, List.setIfInBounds_toArray, List.set_cons_zero, List.set_cons_succ]
    refine wpAnyH_ready (rs := [24]) (by kernel_rfl) (by simp) (AllReadyH.cons (by simp only [List.getElem?_toArray, List.getElem?_cons_succ, List.getElem?_cons_zero]; rfl) (fun K hK => ?_) AllReadyH.nil)
    refine step_want (by rfl) ?_
    go_simp
    obtain ⟨P', O', hBo, hnot⟩ := HBo.out
    refine Calls.mono (duo_same ⟨P', O', hBo.at_ HB3.out⟩ HAc.out) ?_
    rintro e V4 ⟨rfl, hb4⟩
    have HB34 : Hid (Below V2.heap.size V2 V4) := HB3.out.trans (hb4.mono HB3.out.size)
    have HS4 : Below w.heap.size w V4 ∧ V4.heap[wr.heap.size]? = some (.cells #[.int .u8 (x.q : Int), .int .i64 x.i, .int .i64 x.n, .string A, .slice (some ⟨g2, 0, none⟩) x.k.length c2] 37 (0, 0)) := ⟨HB2.out.trans (HB34.out.mono HB2.out.size), by rw [HB34.out.block _ (row_lt HS2.2)]; exact HS2.2⟩
    have HC4 : Hid (V4.heap[g2]? = some (.cells cur 3 (0, 0))) := by show _ = _; rw [HB34.out.block _ (row_lt HC2.out)]; exact HC2.out
    have HBo4 : Hid (Both w p q (withT d x).2 (byR r x).2 P' O' V4) := hBo.at_ HB34.out
    have HNt : Hid (¬ P' g2 ∧ ¬ O' g2) := hnot g2 (Nat.le_of_lt HF.out.g) HF.out.lt
    clear hb4 hBo hnot HBo HB3
    refine hK.out _ _ HS4 (fun _ => ?_)
    clear hK K
    try simp only [List.getElem_toArray, List.getElem_cons_succ, List.getElem_cons_zero, Act.put, List.setIfInBounds_toArray, List.set_cons_zero, List.set_cons_succ]
    refine wpAnyH_take (i := 25) (v := .bool false) rfl (by kernel_rfl) (by kernel_rfl) (by kernel_rfl) (fun _ _ _ h => HPan.out _ _ _ _ _ h) (Or.inl ⟨by rfl, by intro w' _; go_simp⟩) HS4 ?_
    simp only [List.getElem_toArray, List.getElem_cons_succ, List.getElem_cons_zero, Act.put, List.setIfInBounds_toArray, List.set_cons_zero, List.set_cons_succ]
    refine wpAnyH_take (i := 26) (v := .bool false) rfl (by kernel_rfl) (by kernel_rfl) (by kernel_rfl) (fun _ _ _ h => HPan.out _ _ _ _ _ h) (Or.inl ⟨by rfl, by intro w' _; go_simp⟩) HS4 ?_
    simp only [List.getElem_toArray, List.getElem_cons_succ, List.getElem_cons_zero, Act.put, List.setIfInBounds_toArray, List.set_cons_zero, List.set_cons_succ]
    refine wpAnyH_done (by kernel_rfl) ?_ _
    clear HS0 HS1 HS2 HS3
    obtain ⟨hS4b, hS4x⟩ := HS4
    have HX4 : Hid _ := hS4x
    clear hS4x hS4b HB34 HC2 HB2 HSz2 HRgs HLk2 HBk HKw HCk
    have HgB : Hid (w.heap.size ≤ wr.heap.size ∧ wr.heap.size < g2) := ⟨HBw.out.size, HF.out.g⟩
    clear HF HBw hg2
    generalize wr.heap.size = B at *
    go_wp2
    go_loopw [11] (fun kk w' => ∃ t : Nat, t ≤ x.k.length ∧ kk = .int .i64 t ∧ Turn (fun k => k = g2) V4 w' ∧ w'.heap[B]? = some (.cells #[.int .u8 (x.q : Int), .int .i64 x.i, .int .i64 x.n, .string A, .slice (some ⟨g2, 0, none⟩) x.k.length c2] 37 (0, 0)) ∧ ∃ cur, w'.heap[g2]? = some (.cells cur 3 (0, 0)) ∧ x.k.length ≤ cur.size) (fun kk _ => x.k.length - (intOf kk).toNat)
    case atStart => exact ⟨0, Nat.zero_le _, rfl, Turn.refl _ _, HX4.out, cur, HC4.out, hcs⟩
    case round =>
      obtain ⟨t, htk, rfl, htu, hbx, cu, hcu, hcz⟩ := hrel
      have b4 : wr.cell? ⟨B, 4, none⟩ = some (.slice (some ⟨g2, 0, none⟩) x.k.length c2) := by rw [cell_of_row _ _ _ _ _ _ hbx]; rfl
      by_cases htl : t < x.k.length
      · have htl2 : (t : Int) < (x.k.length : Int) := by omega
        obtain ⟨uc, huc⟩ : ∃ u, wr.cell? ⟨g2, t, none⟩ = some u := ⟨_, by rw [cell_of_row _ _ _ _ _ _ hcu]; exact Array.getElem?_eq_getElem (by omega)⟩
        have fuc : wr.frozen? ⟨g2, t, none⟩ = false := frozen_of_row _ _ _ _ _ hcu
        have HNx : Hid (Turn (fun k => k = g2) V4 (wr.setCell ⟨g2, t, none⟩ (.int .i64 6)) ∧ (wr.setCell ⟨g2, t, none⟩ (.int .i64 6)).heap[B]? = some (.cells #[.int .u8 (x.q : Int), .int .i64 x.i, .int .i64 x.n, .string A, .slice (some ⟨g2, 0, none⟩) x.k.length c2] 37 (0, 0)) ∧ ∃ cur, (wr.setCell ⟨g2, t, none⟩ (.int .i64 6)).heap[g2]? = some (.cells cur 3 (0, 0)) ∧ x.k.length ≤ cur.size) :=
          ⟨htu.setCell rfl _, by rw [Below.heap_setCell _ _ _ _ (show B ≠ g2 by have := HgB.out.2; omega)]; exact hbx, _, heap_set_same hcu, by simpa using hcz⟩
        clear htu hbx hcu hcz
        go_wp2
        go_roundw
        case rel => exact ⟨t + 1, by omega, by go_num, HNx.out⟩
        case measure => simp [intOf]; omega
      · have htl2 : ¬ (t : Int) < (x.k.length : Int) := by omega
        have HEnd : Hid (TellI w p q (m + 1) wr) := ⟨_, _, ⟨P', O', HBo4.out.off HNt.out (by have := HgB.out.1; have := HgB.out.2; omega) htu⟩, HFw.out⟩
        clear htu hbx hcu hcz HBo4 HNt HFw
        go_wp2
        refine ⟨tWI_intro (m + 1) (by omega) HEnd.out ?_, ?_⟩
        · kernel_rfl
        · unfold tmu
          simp [intOf]
          omega
end Go.Proofs.Ythlaackalmgfnaa

namespace Go.Proofs.Ythlaackalmgfnaa
open Go.RowKit

set_option linter.unusedSimpArgs false in
set_option maxRecDepth 1000000 in
set_option maxHeartbeats 12800000 in
theorem tend {w : World} {av : Option Addr} {c ny p q m : Nat} {wr : World} (u cc : Nat → Value) {Q0 : Exit → Act → World → Prop} (HI0 : TellI w p q m wr) (hlt : ¬ m < ny) (hm : m ≤ ny) (hexit : ∀ a1 w1, tWI w cc (.slice av ny c) p q ny a1 w1 → Q0 (.exit 0) a1 w1) : Code.wp Try.prog (tbodyOf Try.f3) (Exit.then (fun a1 w1 => tWI w cc (.slice av ny c) p q ny a1 w1 ∧ tmu ny a1 w1 < tmu ny (tfr u cc (.slice av ny c) p q m) wr) Q0) (tfr u cc (.slice av ny c) p q m) wr := by
  have HX : Hid (∀ a1 w1, tWI w cc (.slice av ny c) p q ny a1 w1 → Q0 (.exit 0) a1 w1) := hexit
  conv => arg 2; whnf
  unfold tfr
  have hlt2 : ¬ (m : Int) < (ny : Int) := by omega
  have HR : Hid (TellI w p q m wr) := HI0
  clear HI0 hexit
  go_wp2
  refine HX.out _ _ (tWI_intro m hm HR.out ?_)
  kernel_rfl
theorem troundJ {w : World} {xs : List DoX} {av : Option Addr} {c ny p q : Nat} (cc : Nat → Value) {Q0 : Exit → Act → World → Prop} (HX : DosAt w av xs) (hny : ny ≤ xs.length) (hn6 : ny ≤ 60) (hmy : ∀ x ∈ xs, x.k.length ≤ 100) (hpan : ∀ (e : List PanicEntry) (a : Act) (t : Option Tmp) (v : Value) (w1 : World), Q0 (.panic e) (a.put t v) w1 → Q0 (.panic e) a w1) (hexit : ∀ a1 w1, tWI w cc (.slice av ny c) p q ny a1 w1 → Q0 (.exit 0) a1 w1) (a : Act) (wr : World) (hI : tWI w cc (.slice av ny c) p q ny a wr) :
    Code.wp Try.prog (tbodyOf Try.f3) (Exit.then (fun a1 w1 => tWI w cc (.slice av ny c) p q ny a1 w1 ∧ tmu ny a1 w1 < tmu ny a wr) Q0) a wr := by
  obtain ⟨u, m, hm, HI0, rfl⟩ := hI
  by_cases hlt : m < ny
  · obtain ⟨x, hx⟩ : ∃ x, xs[m]? = some x := ⟨_, List.getElem?_eq_getElem (by omega)⟩
    obtain ⟨_, b, o, rfl, _⟩ := HX m x hx
    exact tround u cc HX hny hn6 hmy HI0 hpan hlt
  · exact tend u cc HI0 hlt hm hexit
theorem tloop {w : World} {xs : List DoX} {av : Option Addr} {c ny p q : Nat} {Q0 : Exit → Act → World → Prop} (HX : DosAt w av xs) (hny : ny ≤ xs.length) (hn6 : ny ≤ 60) (hmy : ∀ x ∈ xs, x.k.length ≤ 100) {a : Act} {wr : World} (HI0 : TellI w p q 0 wr)
    (ha : a = tfr (fun k => a.tmps.getD k undef) (fun k => a.tmps.getD k undef) (.slice av ny c) p q 0) (hpan : ∀ (e : List PanicEntry) (a : Act) (t : Option Tmp) (v : Value) (w1 : World), Q0 (.panic e) (a.put t v) w1 → Q0 (.panic e) a w1)
    (hexit : ∀ (u cc : Nat → Value) (m : Nat) (w1 : World), m ≤ ny → TellI w p q m w1 → Q0 (.exit 0) (tfr u cc (.slice av ny c) p q m) w1) : Code.wp Try.prog (.loop (tbodyOf Try.f3)) Q0 a wr := by
  generalize (fun k => a.tmps.getD k undef) = u at ha
  subst ha
  exact wp_loop (tWI w u (.slice av ny c) p q ny) (tmu ny) ⟨u, 0, Nat.zero_le _, HI0, rfl⟩ (fun a w1 hI => troundJ u HX hny hn6 hmy hpan (fun a1 w1 ⟨u1, m1, hm1, h1, e1⟩ => by rw [e1]; exact hexit u1 u m1 w1 hm1 h1) a w1 hI)
end Go.Proofs.Ythlaackalmgfnaa
