/-
  Plain mathematics of JSON's numbers: what a number's value is; numbers put together of their parts. Nothing of the program is named here.
-/
import Derived.Test.YtjgkaccmfdjffaaDoorNa
import Derived.Test.YtjgkaccmfdjffaaDoorDn
namespace Go.Proofs.YtjgkaccmfdjffaaDoor.Nu
set_option linter.unusedVariables false
set_option linter.unusedSimpArgs false
open Dm (Ds vl decs)

theorem dg_yes {x : Int} (h : 48 ≤ x ∧ x ≤ 57) : dg x = true := by unfold dg; exact decide_eq_true h
theorem dg_no {x : Int} (h : ¬ (48 ≤ x ∧ x ≤ 57)) : dg x = false := by unfold dg; exact decide_eq_false h
/-- a nought -/
def n48 (x : Int) : Bool := decide (x = 48)
/-- without noughts ahead -/
def nz (l : List Int) : List Int := l.dropWhile n48
/-- without noughts at the end, and how many there are -/
def ez (l : List Int) : List Int := (l.reverse.dropWhile n48).reverse
def tz (l : List Int) : Nat := (l.reverse.takeWhile n48).length
theorem nz_nil : nz [] = [] := rfl
theorem nz_zero (l : List Int) : nz (48 :: l) = nz l := by unfold nz; rw [List.dropWhile_cons, if_pos (by rfl)]
theorem nz_other {x : Int} (h : x ≠ 48) (l : List Int) : nz (x :: l) = x :: l := by unfold nz; rw [List.dropWhile_cons, if_neg (by simp [n48, h])]
theorem nz_reps (k : Nat) (l : List Int) : nz (List.replicate k 48 ++ l) = nz l := by
  induction k with
  | zero => rfl
  | succ k ih => rw [List.replicate_succ, List.cons_append, nz_zero, ih]
theorem nz_all (k : Nat) : nz (List.replicate k 48) = [] := by have := nz_reps k []; rwa [List.append_nil] at this
theorem nz_ds {l : List Int} (h : Ds l) : Ds (nz l) := fun x hx => h x ((List.dropWhile_sublist n48).mem hx)
theorem nz_head (l : List Int) : nz l = [] ∨ ∃ x t, nz l = x :: t ∧ x ≠ 48 := by
  induction l with
  | nil => exact .inl rfl
  | cons a l ih =>
    by_cases h : a = 48
    · subst h; rw [nz_zero]; exact ih
    · exact .inr ⟨a, l, nz_other h l, h⟩
theorem nz_vl (l : List Int) : vl (nz l) = vl l := by
  induction l with
  | nil => rfl
  | cons a l ih =>
    by_cases h : a = 48
    · subst h; rw [nz_zero, ih, Dm.vl_cons]; simp
    · rw [nz_other h]
theorem nz_length (l : List Int) : (nz l).length ≤ l.length := (List.dropWhile_sublist n48).length_le
theorem nz_app {l : List Int} (h : nz l ≠ []) (m : List Int) : nz (l ++ m) = nz l ++ m := by
  induction l with
  | nil => exact absurd rfl h
  | cons a l ih =>
    by_cases g : a = 48
    · subst g; rw [nz_zero] at h ⊢; rw [List.cons_append, nz_zero, ih h]
    · rw [nz_other g, List.cons_append, nz_other g]
theorem ez_zero (l : List Int) : ez (l ++ [48]) = ez l := by unfold ez; rw [List.reverse_append]; show (List.dropWhile n48 (48 :: l.reverse)).reverse = _; rw [List.dropWhile_cons, if_pos (by rfl)]
theorem tz_zero (l : List Int) : tz (l ++ [48]) = tz l + 1 := by unfold tz; rw [List.reverse_append]; show (List.takeWhile n48 (48 :: l.reverse)).length = _; rw [List.takeWhile_cons, if_pos (by rfl)]; rfl
theorem ez_other {x : Int} (h : x ≠ 48) (l : List Int) : ez (l ++ [x]) = l ++ [x] := by
  unfold ez; rw [List.reverse_append]; show (List.dropWhile n48 (x :: l.reverse)).reverse = _
  rw [List.dropWhile_cons, if_neg (by simp [n48, h])]; simp
theorem tz_other {x : Int} (h : x ≠ 48) (l : List Int) : tz (l ++ [x]) = 0 := by
  unfold tz; rw [List.reverse_append]; show (List.takeWhile n48 (x :: l.reverse)).length = _
  rw [List.takeWhile_cons, if_neg (by simp [n48, h])]; rfl
theorem ez_nil : ez [] = [] := rfl
theorem tz_nil : tz [] = 0 := rfl
theorem ez_reps (l : List Int) (k : Nat) : ez (l ++ List.replicate k 48) = ez l ∧ tz (l ++ List.replicate k 48) = tz l + k := by
  induction k with
  | zero => simp
  | succ k ih => rw [List.replicate_succ', ← List.append_assoc, ez_zero, tz_zero, ih.1, ih.2]; exact ⟨rfl, by omega⟩
theorem snoc_cases (l : List Int) : l = [] ∨ ∃ i x, l = i ++ [x] := by
  rcases List.eq_nil_or_concat l with h | ⟨i, x, h⟩
  · exact .inl h
  · exact .inr ⟨i, x, by rw [h, List.concat_eq_append]⟩
theorem ez_split (l : List Int) : l = ez l ++ List.replicate (tz l) 48 := by
  have key : ∀ n, ∀ l : List Int, l.length ≤ n → l = ez l ++ List.replicate (tz l) 48 := by
    intro n
    induction n with
    | zero => intro l hl; obtain rfl : l = [] := List.eq_nil_of_length_eq_zero (by omega); rfl
    | succ n ih =>
      intro l hl
      rcases snoc_cases l with rfl | ⟨i, x, rfl⟩
      · rfl
      · by_cases h : x = 48
        · subst h
          rw [ez_zero, tz_zero, List.replicate_succ', ← List.append_assoc, ← ih i (by rw [List.length_append] at hl; simp at hl; omega)]
        · rw [ez_other h, tz_other h]; simp
  exact key l.length l (Nat.le_refl _)
theorem ez_length (l : List Int) : (ez l).length + tz l = l.length := by
  have := congrArg List.length (ez_split l)
  rw [List.length_append, List.length_replicate] at this; omega
theorem vl_reps (l : List Int) (k : Nat) : vl (l ++ List.replicate k 48) = vl l * 10 ^ k := by
  induction k with
  | zero => simp
  | succ k ih => rw [List.replicate_succ', ← List.append_assoc, Dm.vl_snoc, ih, Int.pow_succ]; rw [Int.mul_assoc]; omega
theorem vl_ez (l : List Int) : vl l = vl (ez l) * 10 ^ tz l := by
  have := congrArg vl (ez_split l)
  rw [vl_reps] at this; exact this
theorem ez_ds {l : List Int} (h : Ds l) : Ds (ez l) := fun x hx => h x (by rw [ez_split l]; exact List.mem_append_left _ hx)
theorem ez_head {x : Int} (h : x ≠ 48) (l : List Int) : ∃ t, ez (x :: l) = x :: t := by
  have hs := ez_split (x :: l)
  rcases he : ez (x :: l) with _ | ⟨y, t⟩
  · rw [he, List.nil_append] at hs
    cases ht : tz (x :: l) with
    | zero => rw [ht] at hs; cases hs
    | succ k => rw [ht, List.replicate_succ] at hs; exact absurd (List.cons.inj hs).1 h
  · rw [he, List.cons_append] at hs
    rw [← (List.cons.inj hs).1]; exact ⟨t, rfl⟩

/-- what a power's text counts; none: it is beyond -/
def pd (l : List Int) : List Int := nz (if hd1 43 45 l then l.drop 1 else l)
def pw (l : List Int) : Option Int := if 15 < (pd l).length then none else some (if hd1 45 45 l then - vl (pd l) else vl (pd l))
/-- no letter of a power -/
def nl (x : Int) : Bool := decide (¬ (x = 101 ∨ x = 69))
def np (x : Int) : Bool := decide (x ≠ 46)
/-- a number's digits, those behind the point, its power -/
def dgs (l : List Int) : List Int := (l.takeWhile nl).filter dg
def frc (l : List Int) : Nat := (((l.takeWhile nl).dropWhile np).filter dg).length
def xpo (l : List Int) : Option Int := if l.dropWhile nl = [] then some 0 else pw ((l.dropWhile nl).drop 1)
/-- a number's value: is it below 0, its digits without noughts at both ends, ten to which power times these it is; none: it has no value -/
def val (l : List Int) : Option (Bool × List Int × Int) :=
  if ck 0 l ≠ (l.length, 0) then none
  else if nz (dgs l) = [] then some (false, [], 0)
  else match xpo l with
    | none => none
    | some v => some (hd1 45 45 l, ez (nz (dgs l)), v - (frc l : Int) + (tz (nz (dgs l)) : Int))
/-- are two numbers the same? -/
def sam (a b : List Int) : Bool := match val a, val b with
  | some x, some y => decide (x = y)
  | _, _ => false
/-- which whole number it is -/
def itg (l : List Int) : Int × Bool := match val l with
  | none => (0, false)
  | some (b, d, p) => if p < 0 ∨ 16 < d.length ∨ 16 < p ∨ 16 < (d.length : Int) + p ∨ 9007199254740991 < vl d * 10 ^ p.toNat then (0, false) else (if b then - (vl d * 10 ^ p.toNat) else vl d * 10 ^ p.toNat, true)
end Go.Proofs.YtjgkaccmfdjffaaDoor.Nu
