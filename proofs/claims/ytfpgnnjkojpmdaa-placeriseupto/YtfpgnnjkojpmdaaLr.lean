/-
  What spans and works (colophonlaw03) do.
-/
import Derived.Test.YtfpgnnjkojpmdaaLq
namespace Go.Proofs.Ytfpgnnjkojpmdaa
set_option linter.unusedVariables false
set_option linter.unusedSimpArgs false
open Go.RowKit Go.Shelf
namespace Lc
open Utf Wd Wr We Wi Lm

theorem parts_one {L : List (Nat × Nat)} {a : Int} {r s : Nat} (h : Parts L a r) (k : Parts L a s) : r = s := by
  rcases Nat.lt_trichotomy r s with q | q | q
  · have hr : r < L.length := Nat.lt_of_lt_of_le q k.1
    have h1 := h.2.2 r _ (Nat.le_refl _) (List.getElem?_eq_getElem hr)
    have h2 := k.2.1 r _ q (List.getElem?_eq_getElem hr)
    omega
  · exact q
  · have hr : s < L.length := Nat.lt_of_lt_of_le q h.1
    have h1 := k.2.2 s _ (Nat.le_refl _) (List.getElem?_eq_getElem hr)
    have h2 := h.2.1 s _ q (List.getElem?_eq_getElem hr)
    omega
def wtxt : List Int := [97, 10, 98, 13, 10, 13, 99]
theorem wtxt_lns : lns wtxt = [(0, 1), (2, 3), (5, 5), (6, 7)] := by decide
theorem wtxt_whs : whs wtxt = [(0, 2), (2, 5), (5, 6), (6, 7)] := by decide
theorem wtxt_parts : Parts (lns wtxt) ((4 : Nat) : Int) 2 := by
  rw [wtxt_lns]
  refine ⟨by decide, ?_, ?_⟩
  · intro j x hj hx
    rcases j with _ | _ | j
    · simp at hx; subst hx; decide
    · simp at hx; subst hx; decide
    · omega
  · intro j x hj hx
    rcases j with _ | _ | _ | _ | j
    · omega
    · omega
    · simp at hx; subst hx; decide
    · simp at hx; subst hx; decide
    · simp at hx

end Lc
end Go.Proofs.Ytfpgnnjkojpmdaa
