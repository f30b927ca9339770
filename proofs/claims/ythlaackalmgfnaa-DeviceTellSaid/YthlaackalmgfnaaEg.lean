/- The law's After, and all: plainly and in memory. -/
import Derived.Test.YthlaackalmgfnaaEf
namespace Go.Proofs.Ythlaackalmgfnaa
open Go.RowKit

/-- A device behind the first m of what was asked (no tampering, no Fails). -/
def afterN (n : Nat) (xs : List DoX) : Nat → Dv
  | 0 => newD (4 + n % 16)
  | m + 1 =>
    match xs[m]? with
    | none => afterN n xs m
    | some x => if x.q % 13 < 11 then (withD (afterN n xs m) x).2 else afterN n xs m
/-- The same, running. -/
def afterD (n : Nat) (xs : List DoX) : Dv := if (afterN n xs xs.length).up then afterN n xs xs.length else (startD (afterN n xs xs.length)).2
theorem afterN_few (n : Nat) (xs : List DoX) : ∀ m, (afterN n xs m).acts.length ≤ m ∧ (afterN n xs m).starts ≤ m
  | 0 => ⟨Nat.le_refl _, Nat.le_refl _⟩
  | m + 1 => by
    obtain ⟨h1, h2⟩ := afterN_few n xs m
    unfold afterN
    cases xs[m]? with
    | none => dsimp only; exact ⟨by omega, by omega⟩
    | some x =>
      dsimp only
      split
      · obtain ⟨k1, k2⟩ := withD_few (afterN n xs m) x
        exact ⟨by omega, by omega⟩
      · exact ⟨by omega, by omega⟩
theorem DoX.ok.kb {w : World} {x : DoX} (h : x.ok w) (hk : x.k ≠ []) : ∀ i, x.kv.ownBlock = some i → i < w.heap.size := fun i hi => by
  obtain ⟨a, c, e, hh⟩ := h.k
  obtain ⟨y, hy⟩ : ∃ y, x.k[0]? = some y := ⟨_, List.getElem?_eq_getElem (List.length_pos_iff.2 hk)⟩
  obtain ⟨b, o, rfl, hc⟩ := hh 0 y hy
  rw [e] at hi
  have : b = i := by simpa [Value.ownBlock] using hi
  subst this
  exact World.block_lt_of_cell? w _ hc
theorem one_mono {w : World} {p : Nat} {d : Dv} {O : Nat → Prop} {wr : World} (h : One w p d O wr) {w0 : World} (hb : Below w0.heap.size w0 w) : One w0 p d O wr :=
  ⟨h.dev, hb.trans (h.below.mono hb.size), fun k hk => Nat.le_trans hb.size (h.lo k hk), h.hi⟩
set_option maxRecDepth 100000 in
set_option maxHeartbeats 800000 in
theorem after_any {w : World} {a : Option Addr} {xs : List DoX} (h : DosAt w a xs) (c n : Nat) (hn : n < 256) (hl : xs.length ≤ 1000) (hm : xs.any muchB = false) : Calls Try.prog 28 #[.int .u8 (n : Int), .slice a xs.length c] w fun e w' => ∃ p, e = .returned (.pointer (some ⟨p, 0, none⟩)) ∧ ∃ O, One w p (afterD n xs) O w' := by
  have HNew : Hid (Calls Try.prog 10 #[.int .i64 (4 + (n : Int) % 16)] w fun e w' => ∃ p, e = .returned (.tuple #[.pointer (some ⟨p, 0, none⟩), .int .i64 0]) ∧ ∃ O, One w p (newD (4 + n % 16)) O w') := by
    have := one_new (4 + n % 16) (by omega) (by omega) w
    rw [show ((4 + n % 16 : Nat) : Int) = 4 + (n : Int) % 16 by omega] at this
    exact this.mono fun _ _ ⟨p, h1, h2⟩ => ⟨p, h1, _, h2⟩
  have hn2 : (n : Int) < 256 := by omega
  have HD : Hid (DosAt w a xs) := h
  have HMu : Hid (∀ x ∈ xs, x.k.length ≤ 100) := fun x hx => by
    have := List.any_eq_false.1 hm x hx
    unfold muchB at this
    simp at this
    exact this.2
  clear h hm
  go_enter Try.func28, Try.ntmps28
  go_wp2_with fail
  refine HNew.out.mono ?_
  rintro e w1 ⟨p, rfl, h1⟩
  have H1 : Hid (∃ O, One w p (afterN n xs 0) O w1) := h1
  clear h1 HNew
  go_wp2
  go_loopw [7] (fun i wr => ∃ m : Nat, m ≤ xs.length ∧ i = .int .i64 m ∧ ∃ O, One w p (afterN n xs m) O wr) (fun i _ => xs.length - (intOf i).toNat)
  case atStart => exact ⟨0, Nat.zero_le _, rfl, H1.out⟩
  case round =>
    obtain ⟨m, hmm, rfl, O, hO⟩ := hrel
    clear H1
    by_cases hlt : m < xs.length
    · obtain ⟨x, hx⟩ : ∃ x, xs[m]? = some x := ⟨_, List.getElem?_eq_getElem hlt⟩
      obtain ⟨hok, b, o, rfl, hrg⟩ := HD.out m x hx
      have hrg2 := range_below hrg hO.below
      have c0 : wr.cell? ⟨b, o + m * 5, none⟩ = some (.int .u8 (x.q : Int)) := hrg2 0 _ rfl
      have HRg : Hid (wr.rangeAt b (o + m * 5) x.v.toList) := hrg2
      have hlt2 : (m : Int) < (xs.length : Int) := by omega
      have hq2 : (x.q : Int) < 256 := by have := hok.q; omega
      obtain ⟨f1, f2⟩ := afterN_few n xs m
      by_cases hq : x.q % 13 < 11
      · have hq3 : (x.q : Int) % 13 < 11 := by omega
        have HA : Hid (afterN n xs (m + 1) = (withD (afterN n xs m) x).2) := by show _ = _; rw [afterN, hx]; exact if_pos hq
        have hxl := HMu.out x (List.mem_of_getElem? hx)
        have HW : Hid (Calls Try.prog 12 #[.pointer (some ⟨p, 0, none⟩), .agg x.v] wr (Tells fun r w' => r = (withD (afterN n xs m) x).1 ∧ ∃ O', One w p (withD (afterN n xs m) x).2 O' w' ∧ Turn O wr w')) :=
          one_with hO x (hok.below hO.below) (fun hk i hi _ hOi => by
            have h1 := hO.lo i hOi
            have h2 := hok.kb hk i hi
            omega) (by omega) (by omega) (by omega) (by omega)
        have HIC : Hid ((Try.prog.info? 37).map (·.size) = some x.v.toList.length) := by show _ = _; rw [DoX.size]; kernel_rfl
        clear hO hok hx hrg hrg2 f1 f2 hq hxl HD HMu
        generalize x.v = V at *
        go_wp2_with (refine wpList_load_mid rfl 37 _ rfl b (o + m * 5) rfl V.toList _ HRg.out Try.underlying37 rfl HIC.out ?_)
        refine Calls.mono HW.out ?_
        rintro e w2 ⟨r, rfl, -, O', hO', -⟩
        have HN : Hid (∃ O, One w p (afterN n xs (m + 1)) O w2) := by rw [HA.out]; exact ⟨O', hO'⟩
        clear hO' HW HA HRg
        go_wp2
        go_roundw
        case rel => exact ⟨m + 1, by omega, by go_num, HN.out⟩
        case measure => simp [intOf]; omega
      · have hq3 : ¬ (x.q : Int) % 13 < 11 := by omega
        have HN : Hid (∃ O, One w p (afterN n xs (m + 1)) O wr) := by
          refine ⟨O, ?_⟩
          have e : afterN n xs (m + 1) = afterN n xs m := by rw [afterN, hx]; exact if_neg hq
          rw [e]; exact hO
        clear hO hok hx hrg hrg2 f1 f2 hq HD HMu HRg
        go_wp2
        go_roundw
        case rel => exact ⟨m + 1, by omega, by go_num, HN.out⟩
        case measure => simp [intOf]; omega
    · obtain rfl : m = xs.length := by omega
      obtain ⟨f1, f2⟩ := afterN_few n xs xs.length
      have hlt2 : ¬ ((xs.length : Nat) : Int) < (xs.length : Int) := by omega
      obtain ⟨d, hd⟩ : ∃ d, afterN n xs xs.length = d := ⟨_, rfl⟩
      rw [hd] at hO f1 f2
      have HUp : Hid (Calls Try.prog 26 #[.pointer (some ⟨p, 0, none⟩)] wr fun e w' => e = .returned (.bool d.up) ∧ w' = wr) := up_dev hO.dev
      cases hu : d.up with
      | true =>
        rw [hu] at HUp
        have HR : Hid (∃ O, One w p (afterD n xs) O wr) := by
          refine ⟨O, ?_⟩
          have e : afterD n xs = d := by unfold afterD; rw [hd, hu]; rfl
          rw [e]; exact hO
        clear hO hu hd f1 f2 HD HMu hlt
        go_wp2_with fail
        refine Calls.mono HUp.out ?_
        rintro e w2 ⟨rfl, rfl⟩
        clear HUp
        go_wp2
        go_ret
        exact ⟨p, rfl, HR.out⟩
      | false =>
        rw [hu] at HUp
        have HSt : Hid (Calls Try.prog 32 #[.pointer (some ⟨p, 0, none⟩)] wr fun e w' => e = .returned (.int .i64 0) ∧ ∃ O, One w p (afterD n xs) O w') := by
          have := one_start hO (by omega)
          have e1 : (startD d).1 = 0 := by unfold startD; rw [hu]; rfl
          have e2 : afterD n xs = (startD d).2 := by unfold afterD; rw [hd, hu]; rfl
          rw [e1, ← e2] at this
          exact this.mono fun _ _ hh => ⟨hh.1, O, hh.2⟩
        clear hO hu hd f1 f2 HD HMu hlt
        go_wp2_with fail
        refine Calls.mono HUp.out ?_
        rintro e w2 ⟨rfl, rfl⟩
        clear HUp
        go_wp2_with fail
        refine Calls.mono HSt.out ?_
        rintro e w3 ⟨rfl, hO3⟩
        have HR : Hid _ := hO3
        clear hO3 HSt
        go_wp2
        go_ret
        exact ⟨p, rfl, HR.out⟩
end Go.Proofs.Ythlaackalmgfnaa
