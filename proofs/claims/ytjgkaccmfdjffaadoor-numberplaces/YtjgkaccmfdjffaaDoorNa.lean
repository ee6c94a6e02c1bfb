/-
  Plain mathematics of JSON's numbers: where one ends. Nothing of the program is named here.
-/
import Derived.Test.YtjgkaccmfdjffaaDoorWd
namespace Go.Proofs.YtjgkaccmfdjffaaDoor.Nu
set_option linter.unusedVariables false
set_option linter.unusedSimpArgs false

/-- a digit -/
def dg (x : Int) : Bool := decide (48 ≤ x ∧ x ≤ 57)
/-- does one stand there? -/
def hdd : List Int → Bool
  | a :: _ => dg a
  | [] => false
/-- does one of two bytes stand there? -/
def hd1 (x y : Int) : List Int → Bool
  | a :: _ => decide (a = x ∨ a = y)
  | [] => false
/-- how many digits stand there -/
def rn (l : List Int) : Nat := (l.takeWhile dg).length
/-- what is wrong, where more must come -/
def sho (l : List Int) : Int := if l = [] then 3 else 90
theorem rn_nil : rn [] = 0 := rfl
theorem rn_cons (a : Int) (l : List Int) : rn (a :: l) = if dg a then rn l + 1 else 0 := by
  unfold rn
  rw [List.takeWhile_cons]
  split <;> rfl
theorem rn_le (l : List Int) : rn l ≤ l.length := by
  induction l with
  | nil => exact Nat.le_refl _
  | cons a l ih => rw [rn_cons, List.length_cons]; split <;> omega
theorem rn_zero {l : List Int} (h : hdd l = false) : rn l = 0 := by
  rcases l with _ | ⟨a, l⟩
  · rfl
  · rw [rn_cons, if_neg (by simpa [hdd] using h)]
theorem rn_step {l : List Int} (h : hdd l = true) : rn l = rn (l.drop 1) + 1 := by
  rcases l with _ | ⟨a, l⟩
  · cases h
  · rw [rn_cons, if_pos (by simpa [hdd] using h)]; rfl

/-- behind the power's sign: n bytes lie ahead -/
def ckP (n : Nat) (l : List Int) : Nat × Int := if hdd l then (n + rn l, 0) else (0, sho l)
/-- behind the point's digits -/
def ckE (n : Nat) (l : List Int) : Nat × Int := if hd1 101 69 l then (if hd1 43 45 (l.drop 1) then ckP (n + 2) (l.drop 2) else ckP (n + 1) (l.drop 1)) else (n, 0)
/-- behind the whole number's digits -/
def ckF (n : Nat) (l : List Int) : Nat × Int := if hd1 46 46 l then (if hdd (l.drop 1) then ckE (n + 1 + rn (l.drop 1)) (l.drop (1 + rn (l.drop 1))) else (0, sho (l.drop 1))) else ckE n l
/-- behind the sign -/
def ckI (n : Nat) (l : List Int) : Nat × Int := if hdd l then (if hd1 48 48 l then ckF (n + 1) (l.drop 1) else ckF (n + rn l) (l.drop (rn l))) else (0, sho l)
/-- where the number ends that bytes begin with, n bytes lie ahead of them; or what is wrong -/
def ck (n : Nat) (l : List Int) : Nat × Int := if hd1 45 45 l then ckI (n + 1) (l.drop 1) else ckI n l
/-- where the number ends that stands at a place, or what is wrong -/
def uc (l : List Int) (a : Int) : Int × Int :=
  if a < 0 ∨ (l.length : Int) < a then (0, 9) else (((ck a.toNat (l.drop a.toNat)).1 : Nat), (ck a.toNat (l.drop a.toNat)).2)
theorem uc_out {l : List Int} {a : Int} (h : a < 0 ∨ (l.length : Int) < a) : uc l a = (0, 9) := if_pos h
theorem uc_in {l : List Int} {p r : Nat} {e : Int} (hp : p ≤ l.length) (h : ck p (l.drop p) = (r, e)) : uc l (p : Int) = ((r : Int), e) := by
  unfold uc
  rw [if_neg (by omega), Int.toNat_natCast, h]
section
variable {l : List Int} {p : Nat}
theorem ck_yes (h : hd1 45 45 (l.drop p) = true) : ck p (l.drop p) = ckI (p + 1) (l.drop (p + 1)) := by unfold ck; rw [if_pos h, List.drop_drop]
theorem ck_no (h : hd1 45 45 (l.drop p) = false) : ck p (l.drop p) = ckI p (l.drop p) := by unfold ck; rw [if_neg (by rw [h]; decide)]
theorem ckI_bad (h : hdd (l.drop p) = false) : ckI p (l.drop p) = (0, sho (l.drop p)) := by unfold ckI; rw [if_neg (by rw [h]; decide)]
theorem ckI_zero (h : hdd (l.drop p) = true) (h0 : hd1 48 48 (l.drop p) = true) : ckI p (l.drop p) = ckF (p + 1) (l.drop (p + 1)) := by unfold ckI; rw [if_pos h, if_pos h0, List.drop_drop]
theorem ckI_run (h : hdd (l.drop p) = true) (h0 : hd1 48 48 (l.drop p) = false) : ckI p (l.drop p) = ckF (p + rn (l.drop p)) (l.drop (p + rn (l.drop p))) := by unfold ckI; rw [if_pos h, if_neg (by rw [h0]; decide), List.drop_drop]
theorem ckF_no (h : hd1 46 46 (l.drop p) = false) : ckF p (l.drop p) = ckE p (l.drop p) := by unfold ckF; rw [if_neg (by rw [h]; decide)]
theorem ckF_bad (h : hd1 46 46 (l.drop p) = true) (h0 : hdd (l.drop (p + 1)) = false) : ckF p (l.drop p) = (0, sho (l.drop (p + 1))) := by unfold ckF; rw [if_pos h, List.drop_drop, if_neg (by rw [h0]; decide)]
theorem ckF_run (h : hd1 46 46 (l.drop p) = true) (h0 : hdd (l.drop (p + 1)) = true) : ckF p (l.drop p) = ckE (p + 1 + rn (l.drop (p + 1))) (l.drop (p + 1 + rn (l.drop (p + 1)))) := by
  unfold ckF; rw [if_pos h, List.drop_drop, if_pos h0, List.drop_drop, ← Nat.add_assoc]
theorem ckE_no (h : hd1 101 69 (l.drop p) = false) : ckE p (l.drop p) = (p, 0) := by unfold ckE; rw [if_neg (by rw [h]; decide)]
theorem ckE_sign (h : hd1 101 69 (l.drop p) = true) (h0 : hd1 43 45 (l.drop (p + 1)) = true) : ckE p (l.drop p) = ckP (p + 2) (l.drop (p + 2)) := by unfold ckE; rw [if_pos h, List.drop_drop, if_pos h0, List.drop_drop]
theorem ckE_plain (h : hd1 101 69 (l.drop p) = true) (h0 : hd1 43 45 (l.drop (p + 1)) = false) : ckE p (l.drop p) = ckP (p + 1) (l.drop (p + 1)) := by unfold ckE; rw [if_pos h, List.drop_drop, if_neg (by rw [h0]; decide)]
theorem ckP_bad (h : hdd (l.drop p) = false) : ckP p (l.drop p) = (0, sho (l.drop p)) := by unfold ckP; rw [if_neg (by rw [h]; decide)]
theorem ckP_run (h : hdd (l.drop p) = true) : ckP p (l.drop p) = (p + rn (l.drop p), 0) := by unfold ckP; rw [if_pos h]
end
end Go.Proofs.YtjgkaccmfdjffaaDoor.Nu
