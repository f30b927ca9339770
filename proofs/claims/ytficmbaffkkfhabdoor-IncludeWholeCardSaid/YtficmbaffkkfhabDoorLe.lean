/- A law of the walk: arrays of bytes held against each other. -/
import Derived.Test.YtficmbaffkkfhabDoorM2
import Derived.ChangeKeysEq
namespace Go.Proofs.YtficmbaffkkfhabDoor
open Go.RowKit
variable {P : Program}

theorem hv_get (l : List UInt8) (i : Nat) (h : i < l.length) : (hv l)[i]? = some (.int .u8 ((l[i]'h).toNat : Int)) := by
  simp [hv, List.getElem?_eq_getElem h]
theorem eqItems_bytes (w : World) (d : Nat) (e : TypeId) (he : P.underlying e = some (.int .u8)) (hc : P.cellsOf e = 1) (a b : List UInt8) (h : a.length = b.length) : ∀ is : List Nat, (∀ i ∈ is, i < a.length) →
    (Op.eqItems (d + 1) e (P.cellsOf e) (hv a) (hv b) is).run P w = .ok (is.all fun i => a[i]? == b[i]?) w
  | [], _ => by simp [Op.eqItems]
  | i :: is, hi => by
    have h1 : i < a.length := hi i (by simp)
    have h2 : i < b.length := by omega
    have hk : P.plainKey e = true := by simp [Program.plainKey, he]
    have p1 := run_part_plain (P := P) w hk (hv_get a i h1)
    have p2 := run_part_plain (P := P) w hk (hv_get b i h2)
    have ih := eqItems_bytes w d e he hc a b h is (fun j hj => hi j (by simp [hj]))
    have p3 := run_equalIn_int (P := P) w d e .u8 .u8 ((a[i]'h1).toNat : Int) ((b[i]'h2).toNat : Int) he
    have hbe : (((a[i]'h1).toNat : Int) == ((b[i]'h2).toNat : Int)) = (a[i]? == b[i]?) := by
      rw [List.getElem?_eq_getElem h1, List.getElem?_eq_getElem h2, Bool.eq_iff_iff]
      simp
      exact ⟨fun h => UInt8.toNat_inj.1 (by omega), fun h => by rw [h]⟩
    rw [hbe] at p3
    simp only [Op.eqItems, Sem.run_bind, hc, Nat.mul_one, p1, p2, p3, Result.andThen_ok, List.all_cons]
    rw [hc] at ih
    cases a[i]? == b[i]? with
    | false => simp
    | true => simpa using ih
theorem all_eq (a b : List UInt8) (h : a.length = b.length) : ((List.range a.length).all fun i => a[i]? == b[i]?) = (a == b) := by
  rw [Bool.eq_iff_iff, List.all_eq_true, beq_iff_eq]
  refine ⟨fun H => ?_, fun H i _ => by rw [H]; simp⟩
  apply List.ext_getElem? 
  intro i
  by_cases hi : i < a.length
  · simpa using H i (by simpa using hi)
  · rw [List.getElem?_eq_none (by omega), List.getElem?_eq_none (by omega)]
theorem run_eql_bytes (w : World) (t e : TypeId) (n : Nat) (hu : P.underlying t = some (.array n e)) (he : P.underlying e = some (.int .u8)) (hc : P.cellsOf e = 1) (hi : (P.info? e).isSome = true) (a b : List UInt8) (ha : a.length = n) (hb : b.length = n) :
    (binOp .eql t (.agg (hv a)) (.agg (hv b))).run P w = .ok (.bool (a == b)) w := by
  obtain ⟨i, hi⟩ := Option.isSome_iff_exists.1 hi
  rw [run_eql_struct, run_equalIn_array w 9999 (hv a) (hv b) hu hi]
  subst ha
  rw [eqItems_bytes w 9998 e he hc a b (by omega) _ (fun i hi => by simpa using hi), all_eq a b (by omega)]
  rfl
theorem run_neq_bytes (w : World) (t e : TypeId) (n : Nat) (hu : P.underlying t = some (.array n e)) (he : P.underlying e = some (.int .u8)) (hc : P.cellsOf e = 1) (hi : (P.info? e).isSome = true) (a b : List UInt8) (ha : a.length = n) (hb : b.length = n) :
    (binOp .neq t (.agg (hv a)) (.agg (hv b))).run P w = .ok (.bool (!(a == b))) w := by
  obtain ⟨i, hi⟩ := Option.isSome_iff_exists.1 hi
  rw [run_neq_struct, run_equalIn_array w 9999 (hv a) (hv b) hu hi]
  subst ha
  rw [eqItems_bytes w 9998 e he hc a b (by omega) _ (fun i hi => by simpa using hi), all_eq a b (by omega)]
  rfl
end Go.Proofs.YtficmbaffkkfhabDoor
