/- Runs of blocks, plainly: in order, which blocks they have, that runs in order are told by their blocks; nothing of the program. -/
import Derived.WalkKit
namespace Go.Proofs.Ytbnfhhjgalphgaa
open Go.RowKit

/-- A run: where it starts, how many blocks. -/
structure Rn where
  s : Int
  c : Int
theorem Rn.ext' {a b : Rn} (h1 : a.s = b.s) (h2 : a.c = b.c) : a = b := by cases a; cases b; simp_all
/-- Are two lists the same? -/
def sameB : List Rn → List Rn → Bool
  | [], [] => true
  | a :: l, b :: m => (a.s == b.s && a.c == b.c) && sameB l m
  | _, _ => false
theorem sameB_iff : ∀ {a b : List Rn}, sameB a b = true ↔ a = b
  | [], [] => by simp [sameB]
  | a :: l, [] => by simp [sameB]
  | [], b :: m => by simp [sameB]
  | a :: l, b :: m => by
    rw [sameB, Bool.and_eq_true, Bool.and_eq_true, beq_iff_eq, beq_iff_eq, sameB_iff, List.cons.injEq]
    constructor
    · rintro ⟨⟨h1, h2⟩, h3⟩; exact ⟨Rn.ext' h1 h2, h3⟩
    · rintro ⟨h1, h3⟩; exact ⟨⟨by rw [h1], by rw [h1]⟩, h3⟩
theorem sameB_no {a b : List Rn} (h : ¬ a = b) : sameB a b = false := by
  cases hh : sameB a b with
  | false => rfl
  | true => exact absurd (sameB_iff.1 hh) h
/-- Its end. -/
def Rn.e (r : Rn) : Int := r.s + r.c
def oneB (r : Rn) : Bool := decide (0 ≤ r.s) && (decide (r.s < 1099511627776) && (decide (1 ≤ r.c) && decide (r.c ≤ 1099511627776 - r.s)))
theorem oneB_iff {r : Rn} : oneB r = true ↔ 0 ≤ r.s ∧ r.s < 1099511627776 ∧ 1 ≤ r.c ∧ r.c ≤ 1099511627776 - r.s := by simp [oneB]
/-- In order. -/
def chkB : List Rn → Bool
  | [] => true
  | a :: l => oneB a && (match l with | [] => true | b :: _ => decide (a.e < b.s)) && chkB l
def inB (r : Rn) (k : Int) : Bool := decide (r.s ≤ k) && decide (k < r.e)
theorem inB_iff {r : Rn} {k : Int} : inB r k = true ↔ r.s ≤ k ∧ k < r.e := by simp [inB]
def hasB (l : List Rn) (k : Int) : Bool := l.any fun r => inB r k
theorem hasB_nil (k : Int) : hasB [] k = false := rfl
theorem hasB_cons (a : Rn) (l : List Rn) (k : Int) : hasB (a :: l) k = (inB a k || hasB l k) := rfl
theorem hasB_append (l m : List Rn) (k : Int) : hasB (l ++ m) k = (hasB l k || hasB m k) := by simp [hasB]
theorem hasB_iff {l : List Rn} {k : Int} : hasB l k = true ↔ ∃ r ∈ l, r.s ≤ k ∧ k < r.e := by simp [hasB, inB]
theorem chk_nil : chkB [] = true := rfl
/-- What runs in order are: the first one may be, the others are in order, and begin behind its end. -/
theorem chk_cons {a : Rn} {l : List Rn} : chkB (a :: l) = true ↔ oneB a = true ∧ chkB l = true ∧ ∀ r ∈ l, a.e < r.s := by
  induction l generalizing a with
  | nil => simp [chkB]
  | cons b l ih =>
    constructor
    · intro h
      simp only [chkB, Bool.and_eq_true, decide_eq_true_eq] at h
      have hb : chkB (b :: l) = true := by simp only [chkB, Bool.and_eq_true]; exact h.2
      refine ⟨h.1.1, hb, fun r hr => ?_⟩
      rcases List.mem_cons.1 hr with rfl | hr
      · exact h.1.2
      · have h1 := (ih.1 hb).2.2 r hr
        have h2 := oneB_iff.1 (ih.1 hb).1
        have h3 := h.1.2
        unfold Rn.e at *
        omega
    · rintro ⟨h1, h2, h3⟩
      have := h3 b (by simp)
      simp only [chkB, Bool.and_eq_true, decide_eq_true_eq] at h2 ⊢
      exact ⟨⟨h1, this⟩, h2⟩
theorem chk_one {l : List Rn} (h : chkB l = true) : ∀ r ∈ l, oneB r = true := by
  induction l with
  | nil => intro r hr; cases hr
  | cons a l ih =>
    obtain ⟨h1, h2, _⟩ := chk_cons.1 h
    intro r hr
    rcases List.mem_cons.1 hr with rfl | hr
    · exact h1
    · exact ih h2 r hr
theorem one_e {r : Rn} (h : oneB r = true) : r.s < r.e := by have := oneB_iff.1 h; unfold Rn.e; omega
/-- Behind the first one's end. -/
theorem chk_behind {a : Rn} {l : List Rn} (h : chkB (a :: l) = true) {k : Int} (hk : hasB l k = true) : a.e < k := by
  obtain ⟨r, hr, h1, _⟩ := hasB_iff.1 hk
  have := (chk_cons.1 h).2.2 r hr
  omega
theorem chk_least {a : Rn} {l : List Rn} (h : chkB (a :: l) = true) {k : Int} (hk : hasB (a :: l) k = true) : a.s ≤ k := by
  rw [hasB_cons] at hk
  rcases Bool.or_eq_true _ _ ▸ hk with hk | hk
  · exact (inB_iff.1 hk).1
  · have h1 := chk_behind h hk
    have h2 := one_e (chk_cons.1 h).1
    omega
theorem chk_append {l m : List Rn} : chkB (l ++ m) = true ↔ chkB l = true ∧ chkB m = true ∧ ∀ a ∈ l, ∀ b ∈ m, a.e < b.s := by
  induction l with
  | nil => simp [chkB]
  | cons x l ih =>
    rw [List.cons_append, chk_cons, chk_cons, ih]
    constructor
    · rintro ⟨h1, ⟨h2, h3, h4⟩, h5⟩
      refine ⟨⟨h1, h2, fun r hr => h5 r (List.mem_append_left _ hr)⟩, h3, fun a ha b hb => ?_⟩
      rcases List.mem_cons.1 ha with rfl | ha
      · exact h5 b (List.mem_append_right _ hb)
      · exact h4 a ha b hb
    · rintro ⟨⟨h1, h2, h3⟩, h4, h5⟩
      refine ⟨h1, ⟨h2, h4, fun a ha b hb => h5 a (List.mem_cons_of_mem _ ha) b hb⟩, fun r hr => ?_⟩
      rcases List.mem_append.1 hr with hr | hr
      · exact h3 r hr
      · exact h5 x (by simp) r hr
/-- Runs in order are told by their blocks. -/
theorem runs_unique : ∀ {a b : List Rn}, chkB a = true → chkB b = true → (∀ k, hasB a k = hasB b k) → a = b
  | [], [], _, _, _ => rfl
  | [], y :: b, _, hb, h => by
    have := h y.s
    rw [hasB_nil, hasB_cons, inB_iff.2 ⟨Int.le_refl _, one_e (chk_cons.1 hb).1⟩] at this
    cases this
  | x :: a, [], ha, _, h => by
    have := h x.s
    rw [hasB_nil, hasB_cons, inB_iff.2 ⟨Int.le_refl _, one_e (chk_cons.1 ha).1⟩] at this
    cases this
  | x :: a, y :: b, ha, hb, h => by
    have ex := one_e (chk_cons.1 ha).1
    have ey := one_e (chk_cons.1 hb).1
    have hx : hasB (x :: a) x.s = true := by rw [hasB_cons, inB_iff.2 ⟨Int.le_refl _, ex⟩]; rfl
    have hy : hasB (y :: b) y.s = true := by rw [hasB_cons, inB_iff.2 ⟨Int.le_refl _, ey⟩]; rfl
    have h1 := chk_least hb (h x.s ▸ hx)
    have h2 := chk_least ha ((h y.s).symm ▸ hy)
    have hs : x.s = y.s := by omega
    have end_no : ∀ {u : Rn} {l : List Rn}, chkB (u :: l) = true → hasB (u :: l) u.e = false := fun {u l} hu => by
      rw [hasB_cons]
      have i1 : inB u u.e = false := by simp [inB]
      have i2 : hasB l u.e = false := by
        cases hh : hasB l u.e with
        | false => rfl
        | true => have := chk_behind hu hh; omega
      rw [i1, i2]; rfl
    have he : x.e = y.e := by
      rcases Int.lt_trichotomy x.e y.e with hlt | he | hlt
      · have i1 : hasB (y :: b) x.e = true := by rw [hasB_cons, inB_iff.2 ⟨by omega, hlt⟩]; rfl
        rw [← h, end_no ha] at i1; cases i1
      · exact he
      · have i1 : hasB (x :: a) y.e = true := by rw [hasB_cons, inB_iff.2 ⟨by omega, hlt⟩]; rfl
        rw [h, end_no hb] at i1; cases i1
    have hxy : x = y := Rn.ext' hs (by unfold Rn.e at he; omega)
    subst hxy
    rw [runs_unique (chk_cons.1 ha).2.1 (chk_cons.1 hb).2.1 fun k => ?_]
    have hk := h k
    rw [hasB_cons, hasB_cons] at hk
    cases hi : inB x k with
    | false => rw [hi] at hk; simpa using hk
    | true =>
      have hin := inB_iff.1 hi
      have n1 : hasB a k = false := by
        cases hh : hasB a k with
        | false => rfl
        | true => have := chk_behind ha hh; omega
      have n2 : hasB b k = false := by
        cases hh : hasB b k with
        | false => rfl
        | true => have := chk_behind hb hh; omega
      rw [n1, n2]
/-- How many blocks. -/
def sumC (l : List Rn) : Int := l.foldr (fun r n => r.c + n) 0
theorem sumC_nil : sumC [] = 0 := rfl
theorem sumC_cons (a : Rn) (l : List Rn) : sumC (a :: l) = a.c + sumC l := rfl
theorem sumC_append (l m : List Rn) : sumC (l ++ m) = sumC l + sumC m := by
  induction l with
  | nil => simp [sumC_nil]
  | cons a l ih => rw [List.cons_append, sumC_cons, sumC_cons, ih]; omega
def totL (l : List Rn) : Int := if chkB l then sumC l else 0
theorem sum_bound {l : List Rn} (h : chkB l = true) : 0 ≤ sumC l ∧ ∀ a, (∀ r ∈ l, a ≤ r.s) → a ≤ 1099511627776 → sumC l ≤ 1099511627776 - a := by
  induction l with
  | nil => refine ⟨by simp [sumC_nil], fun a _ h => ?_⟩; rw [sumC_nil]; omega
  | cons x l ih =>
    obtain ⟨h1, h2, h3⟩ := chk_cons.1 h
    have hx := oneB_iff.1 h1
    obtain ⟨i1, i2⟩ := ih h2
    refine ⟨by rw [sumC_cons]; omega, fun a ha hl => ?_⟩
    have := i2 x.e (fun r hr => Int.le_of_lt (h3 r hr)) (by unfold Rn.e; omega)
    have hxs := ha x (by simp)
    rw [sumC_cons]
    unfold Rn.e at this
    omega
theorem tot_bound (l : List Rn) : 0 ≤ totL l ∧ totL l ≤ 1099511627776 := by
  unfold totL
  cases h : chkB l with
  | false => simp
  | true =>
    have h1 := sum_bound h
    refine ⟨h1.1, ?_⟩
    have := h1.2 0 (fun r hr => (oneB_iff.1 (chk_one h r hr)).1) (by omega)
    simp; omega
end Go.Proofs.Ytbnfhhjgalphgaa
