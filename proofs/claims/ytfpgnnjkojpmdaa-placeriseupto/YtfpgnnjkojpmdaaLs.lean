/-
  Mathematics of lines, more: which line a byte has. And: a text's index counted.
-/
import Derived.Test.YtfpgnnjkojpmdaaLr
namespace Go.Proofs.Ytfpgnnjkojpmdaa
set_option linter.unusedVariables false
open Go.RowKit Go.Shelf
namespace Lc
open Utf Wd Wr We Wi Lm

theorem lt_of_some {α : Type} {l : List α} {i : Nat} {x : α} (h : l[i]? = some x) : i < l.length := by
  rcases Nat.lt_or_ge i l.length with q | q
  · exact q
  · rw [List.getElem?_eq_none q] at h; cases h
theorem from_le (b : List Int) {i j : Nat} {x y : Nat × Nat} (hij : i ≤ j) (hx : (lns b)[i]? = some x) (hy : (lns b)[j]? = some y) : x.1 + (j - i) ≤ y.1 :=
  ln_rise b (j - i) hx (by rw [show i + (j - i) = j by omega]; exact hy)
/-- a byte of a whole line has that line -/
theorem parts_whole (b : List Int) {n a : Nat} {p q : Nat × Nat} (hp : (lns b)[n]? = some p) (hq : (whs b)[n]? = some q) (h1 : q.1 ≤ a) (h2 : a < q.2) : Parts (lns b) a (n + 1) := by
  obtain ⟨e1, e2, e3, e4, e5, e6⟩ := ln_at b hp hq
  refine ⟨lt_of_some hp, ?_, ?_⟩
  · intro j x hj hx
    have := from_le b (Nat.le_of_lt_succ hj) hx hp
    omega
  · intro j x hj hx
    have hn1 : n + 1 < (lns b).length := Nat.lt_of_le_of_lt hj (lt_of_some hx)
    have py := List.getElem?_eq_getElem hn1
    have h3 := e5 _ py
    have h4 := from_le b hj py hx
    omega
/-- the text's end has the last line -/
theorem parts_end (b : List Int) : Parts (lns b) b.length (lns b).length := by
  refine ⟨Nat.le_refl _, ?_, ?_⟩
  · intro j x hj hx
    obtain ⟨p, q, hp, hq⟩ := ln_both b hj
    rw [hp] at hx; cases hx
    have := ln_at b hp hq
    omega
  · intro j x hj hx
    have := lt_of_some hx
    omega
theorem Idx.cell {w : World} {B P : Nat} {b : List Int} (h : Idx w B P (lns b)) : ∃ A c, w.cell? ⟨P, 0, none⟩ = some (.slice A (lns b).length c) := by
  obtain ⟨g, cap, hr, _⟩ := h.rd (lns_ne b)
  exact ⟨_, _, hr.1⟩
theorem count_txt (B P : Nat) (b : List Int) (w : World) (h : Idx w B P (lns b)) :
    Calls Try.prog 33 #[.pointer (some ⟨P, 0, none⟩)] w fun e w' => e = .returned (.int .i64 ((lns b).length : Nat)) ∧ w = w' := by
  obtain ⟨A, c, hc⟩ := h.cell
  exact count_at P _ c A w hc
end Lc
end Go.Proofs.Ytfpgnnjkojpmdaa
