/-
  Plain mathematics of layer 10: trees of values; how deep they are; which may be. Nothing of the program is named here.
-/
import Derived.Below
namespace Go.Proofs.YtlgeibaejeiemaaDoor.Vt
set_option linter.unusedVariables false
set_option linter.unusedSimpArgs false

/-- a value: its kind, is it so, its text, its list, its names -/
inductive Tr where
  | mk (k : Int) (b : Bool) (s : ByteArray) (l : List Tr) (n : List ByteArray)
instance : Nonempty Tr := ⟨.mk 0 false ⟨#[]⟩ [] []⟩
namespace Tr
def kind : Tr → Int | .mk k _ _ _ _ => k
def isB : Tr → Bool | .mk _ b _ _ _ => b
def text : Tr → ByteArray | .mk _ _ s _ _ => s
def list : Tr → List Tr | .mk _ _ _ l _ => l
def names : Tr → List ByteArray | .mk _ _ _ _ n => n
end Tr
/-- what holds of a value if it holds of those in its list holds of each -/
theorem Tr.ind {P : Tr → Prop} (h : ∀ k b s l n, (∀ x ∈ l, P x) → P (.mk k b s l n)) : ∀ t, P t
  | .mk k b s l n => h k b s l n fun x hx => Tr.ind h x
termination_by t => SizeOf.sizeOf t
decreasing_by
  have := List.sizeOf_lt_of_mem hx
  simp only [Tr.mk.sizeOf_spec]
  omega
mutual
/-- how deep a value is; how deep the deepest of some is (0 of none) -/
def dep : Tr → Nat
  | .mk _ _ _ l _ => depL l + 1
def depL : List Tr → Nat
  | [] => 0
  | t :: l => max (dep t) (depL l)
end
theorem dep_mk (k : Int) (b : Bool) (s : ByteArray) (l : List Tr) (n : List ByteArray) : dep (.mk k b s l n) = depL l + 1 := by rw [dep]
theorem depL_nil : depL [] = 0 := by rw [depL]
theorem depL_cons (t : Tr) (l : List Tr) : depL (t :: l) = max (dep t) (depL l) := by rw [depL]
theorem dep_pos (t : Tr) : 1 ≤ dep t := by cases t; rw [dep_mk]; omega
theorem depL_snoc (l : List Tr) (t : Tr) : depL (l ++ [t]) = max (depL l) (dep t) := by
  induction l with
  | nil => rw [List.nil_append, depL_cons, depL_nil]; omega
  | cons a l ih => rw [List.cons_append, depL_cons, depL_cons, ih]; omega
theorem depL_le {l : List Tr} {n : Nat} : depL l ≤ n ↔ ∀ t ∈ l, dep t ≤ n := by
  induction l with
  | nil => rw [depL_nil]; simp
  | cons a l ih => rw [depL_cons]; simp only [List.mem_cons, forall_eq_or_imp, ← ih]; omega
theorem dep_mem {k : Int} {b : Bool} {s : ByteArray} {l : List Tr} {n : List ByteArray} {x : Tr} (hx : x ∈ l) : dep x + 1 ≤ dep (.mk k b s l n) := by
  rw [dep_mk]
  have := depL_le.1 (Nat.le_refl (depL l)) x hx
  omega
/-- does a value stand in lists that hold one another, more than so many? -/
theorem deep_some {l : List Tr} {m : Int} (hm : 0 ≤ m) : (∃ x ∈ l, m < (dep x : Int)) ↔ m < (depL l : Int) := by
  induction l with
  | nil => rw [depL_nil]; simp; omega
  | cons a l ih =>
    rw [depL_cons]
    simp only [List.mem_cons, exists_eq_or_imp, ih]
    omega
mutual
/-- may a value be? -/
def may : Tr → Bool
  | .mk k b s l n => (decide (0 ≤ k ∧ k ≤ 5)) && (!b || decide (k = 1)) && (decide (s.size = 0) || decide (k = 2) || decide (k = 3)) && (decide (l.length = 0) || decide (4 ≤ k)) && (decide (n.length = 0) || decide (k = 5)) &&
      (!decide (k = 5) || decide (n.length = l.length)) && mayL l
def mayL : List Tr → Bool
  | [] => true
  | t :: l => may t && mayL l
end
theorem mayL_all (l : List Tr) : mayL l = l.all may := by
  induction l with
  | nil => rw [mayL]; rfl
  | cons a l ih => rw [mayL, ih]; rfl
theorem may_mk (k : Int) (b : Bool) (s : ByteArray) (l : List Tr) (n : List ByteArray) : may (.mk k b s l n) = ((decide (0 ≤ k ∧ k ≤ 5)) && (!b || decide (k = 1)) && (decide (s.size = 0) || decide (k = 2) || decide (k = 3)) && (decide (l.length = 0) || decide (4 ≤ k)) && (decide (n.length = 0) || decide (k = 5)) &&
      (!decide (k = 5) || decide (n.length = l.length)) && l.all may) := by rw [may, mayL_all]
/-- are two values alike? -/
noncomputable def alk (a b : Tr) : Bool := @decide (a = b) (Classical.propDecidable _)
theorem alk_iff {a b : Tr} : alk a b = true ↔ a = b := by unfold alk; exact @decide_eq_true_iff _ (Classical.propDecidable _)
theorem alk_self (a : Tr) : alk a a = true := alk_iff.2 rfl
theorem alk_no {a b : Tr} (h : a ≠ b) : alk a b = false := by
  cases hc : alk a b with
  | false => rfl
  | true => exact absurd (alk_iff.1 hc) h
theorem alk_symm (a b : Tr) : alk a b = alk b a := by
  by_cases h : a = b
  · rw [h]
  · rw [alk_no h, alk_no (fun g => h g.symm)]
theorem list_ext {l m : List Tr} (hl : l.length = m.length) (h : ∀ (i : Nat) (x y : Tr), l[i]? = some x → m[i]? = some y → x = y) : l = m := by
  refine List.ext_getElem hl fun i h1 h2 => ?_
  exact h i _ _ (List.getElem?_eq_getElem h1) (List.getElem?_eq_getElem h2)
/-- all names of a value, and of those in its lists, leave room for one byte more -/
inductive Sm : Tr → Prop
  | mk {k : Int} {b : Bool} {s : ByteArray} {l : List Tr} {n : List ByteArray} (hn : ∀ x ∈ n, x.size ≤ 140737488351232) (hl : ∀ x ∈ l, Sm x) : Sm (.mk k b s l n)
theorem Sm.names {t : Tr} (h : Sm t) : ∀ x ∈ t.names, x.size ≤ 140737488351232 := by cases h with | mk hn hl => exact hn
theorem Sm.list {t : Tr} (h : Sm t) : ∀ x ∈ t.list, Sm x := by cases h with | mk hn hl => exact hl
end Go.Proofs.YtlgeibaejeiemaaDoor.Vt
