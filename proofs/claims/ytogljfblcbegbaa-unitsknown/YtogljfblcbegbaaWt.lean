/-
  A table of slices of bytes, written out in a program's text: the blocks that are made, and what they hold. Nothing of the program is named here.
-/
import Derived.Test.YtogljfblcbegbaaWo
namespace Go.Proofs.Ytogljfblcbegbaa.Wd
set_option linter.unusedVariables false
open Go.RowKit

/-- the world behind the making of the inner slices -/
def tbl (k : IntKind) (e : TypeId) (w : World) : List (List Int) → World
  | [] => w
  | l :: ls => tbl k e (w.alloc (.cells (l.map (Value.int k)).toArray e)) ls
/-- the inner slices, as values -/
def outs (B : Nat) : List (List Int) → List Value
  | [] => []
  | l :: ls => .slice (some ⟨B, 0, none⟩) l.length l.length :: outs (B + 1) ls

section
variable {k : IntKind} {e : TypeId}
theorem tbl_size (ls : List (List Int)) : ∀ w : World, (tbl k e w ls).heap.size = w.heap.size + ls.length := by
  induction ls with
  | nil => intro w; rfl
  | cons l ls ih => intro w; simp only [tbl]; rw [ih]; simp; omega
theorem tbl_keep (ls : List (List Int)) : ∀ {w : World} {A : Option Addr} {n c : Nat} {l : List Int}, Sl k w A n c l → Sl k (tbl k e w ls) A n c l := by
  induction ls with
  | nil => intro w A n c l h; exact h
  | cons m ls ih => intro w A n c l h; exact ih (h.alloc _)
theorem tbl_below (ls : List (List Int)) : ∀ w : World, Below w.heap.size w (tbl k e w ls) := by
  induction ls with
  | nil => intro w; exact Below.refl _ _
  | cons m ls ih => intro w; exact ((Below.refl _ _).alloc (Nat.le_refl _) _).trans ((ih _).mono (by simp))
theorem tbl_row (ls : List (List Int)) (hl : ∀ l ∈ ls, l.length ≤ maxLen) : ∀ (w : World) (j : Nat) (l : List Int), ls[j]? = some l →
    Sl k (tbl k e w ls) (some ⟨w.heap.size + j, 0, none⟩) l.length l.length l := by
  induction ls with
  | nil => intro w j l h; simp at h
  | cons m ls ih =>
    intro w j l h
    cases j with
    | zero =>
      simp at h
      subst h
      exact tbl_keep ls (Sl.new w m e k (hl m (by simp)))
    | succ j =>
      have := ih (fun l h => hl l (by simp [h])) (w.alloc (.cells (m.map (Value.int k)).toArray e)) j l (by simpa using h)
      simp only [tbl]
      rw [show w.heap.size + (j + 1) = (w.alloc (.cells (m.map (Value.int k)).toArray e)).heap.size + j by simp; omega]
      exact this
theorem outs_get (ls : List (List Int)) : ∀ (B j : Nat) (l : List Int), ls[j]? = some l → (outs B ls)[j]? = some (.slice (some ⟨B + j, 0, none⟩) l.length l.length) := by
  induction ls with
  | nil => intro B j l h; simp at h
  | cons m ls ih =>
    intro B j l h
    cases j with
    | zero => simp at h; subst h; rfl
    | succ j =>
      have := ih (B + 1) j l (by simpa using h)
      simp only [outs, List.getElem?_cons_succ]
      rw [this, show B + 1 + j = B + (j + 1) by omega]

/-- an element of the table: its slice, and what that holds -/
theorem tbl_look (w : World) (t : TypeId) (ls : List (List Int)) (hl : ∀ l ∈ ls, l.length ≤ maxLen) (P : List Int → Prop) (hP : ∀ l ∈ ls, P l) : ∀ j, j < ls.length →
    ∃ A n l, ((tbl k e w ls).alloc (.cells (outs w.heap.size ls).toArray t)).cell? ⟨w.heap.size + ls.length, j, none⟩ = some (.slice A n n) ∧
      Sl k ((tbl k e w ls).alloc (.cells (outs w.heap.size ls).toArray t)) A n n l ∧ P l := by
  intro j hj
  have hg : ls[j]? = some ls[j] := List.getElem?_eq_getElem hj
  refine ⟨_, _, ls[j], ?_, (tbl_row ls hl w j ls[j] hg).alloc _, hP _ (List.getElem_mem hj)⟩
  rw [← tbl_size (k := k) (e := e) ls w]
  rw [cell_of_row _ _ _ _ _ _ (heap_alloc_new _ _)]
  simpa using outs_get ls w.heap.size j ls[j] hg
end
end Go.Proofs.Ytogljfblcbegbaa.Wd
