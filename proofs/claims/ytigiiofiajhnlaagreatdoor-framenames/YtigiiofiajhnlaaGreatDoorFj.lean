/-
  What the statements' cut and reads (layer 7) compute.
-/
import Derived.Test.YtigiiofiajhnlaaGreatDoorFi
import Derived.Test.YtigiiofiajhnlaaGreatDoorWp
namespace Go.Proofs.YtigiiofiajhnlaaGreatDoor
set_option linter.unusedVariables false
set_option linter.unusedSimpArgs false
open Go.RowKit Go.Shelf
namespace Fa
open Wd We Dm Dc Dd Hm Hb He Fm

/-- a row of the call's own, of slices of bytes that lay in w0 -/
def VL (w0 w : World) (B : Nat) (v : Value) (ls : List (List Int)) : Prop :=
  ∃ vs : List Value, w.ownsRow B 27 1 v ls.length vs ∧ ∀ (i : Nat) (l : List Int), ls[i]? = some l → ∃ X m k, vs[i]? = some (.slice X m k) ∧ Sl .u8 w0 X m k l
theorem VL.nil (w0 w : World) (B : Nat) : VL w0 w B (.slice none 0 0) [] := ⟨[], World.ownsRow_nil _ _ _ _, fun i l h => by simp at h⟩
theorem VL.below {w0 w w' : World} {B : Nat} {v : Value} {ls : List (List Int)} (h : VL w0 w B v ls) (hb : Below w.heap.size w w') : VL w0 w' B v ls := by
  obtain ⟨vs, h1, h2⟩ := h
  exact ⟨vs, row_stay h1 (Stay.of_below (fun _ => False) hb) (fun _ _ c => c), h2⟩
theorem VL.kept {w0 w w' : World} {B : Nat} {v : Value} {ls : List (List Int)} {row : Option Nat} (h : VL w0 w B v ls) (hg : w.grownBy w' row) (hne : ∀ k, row = some k → v.ownBlock ≠ some k) : VL w0 w' B v ls := by
  obtain ⟨vs, h1, h2⟩ := h
  exact ⟨vs, row_stay h1 (Stay.grown (S := fun k => row = some k) hg (fun k e => e)) (fun g hg' c => hne g c hg'), h2⟩
theorem VL.ll {w0 w : World} {B : Nat} {v : Value} {ls : List (List Int)} (h : VL w0 w B v ls) (hb : Below w0.heap.size w0 w) : ∃ A c, v = .slice A ls.length c ∧ LL w A ls.length c ls := by
  obtain ⟨vs, h1, h2⟩ := h
  rcases h1.2 with ⟨rfl, h0⟩ | ⟨g, cap, cur, rfl, hg, hh, hn, hm, hs, ht⟩
  · obtain rfl : ls = [] := List.eq_nil_of_length_eq_zero h0
    exact ⟨none, 0, rfl, LL.nil_⟩
  · refine ⟨_, cap, rfl, ⟨rfl, hn, hm, (fun e => by cases e), fun i l hi => ?_⟩⟩
    obtain ⟨X, m, k, h3, h4⟩ := h2 i l hi
    refine ⟨g, 0, X, m, k, rfl, ?_, h4.below hb⟩
    rw [Nat.zero_add, cell_of_row _ _ _ _ _ _ hh]
    rw [← ht, List.getElem?_take] at h3
    split at h3
    · simpa using h3
    · cases h3
theorem vl_snoc {w0 w' : World} {B : Nat} {v' : Value} {ls : List (List Int)} {vs : List Value} {X : Option Addr} {m k : Nat} {l : List Int} (hlen : vs.length = ls.length)
    (he : ∀ (i : Nat) (l : List Int), ls[i]? = some l → ∃ X m k, vs[i]? = some (.slice X m k) ∧ Sl .u8 w0 X m k l) (hx : Sl .u8 w0 X m k l) (hrow' : w'.ownsRow B 27 1 v' (ls.length + 1) (vs ++ [.slice X m k])) : VL w0 w' B v' (ls ++ [l]) := by
  refine ⟨vs ++ [.slice X m k], by rw [List.length_append]; exact hrow', fun i x hi => ?_⟩
  by_cases h : i < ls.length
  · rw [List.getElem?_append_left h] at hi
    obtain ⟨Y, a, b, h1, h2⟩ := he i x hi
    exact ⟨Y, a, b, by rw [List.getElem?_append_left (by omega)]; exact h1, h2⟩
  · rw [List.getElem?_append_right (by omega)] at hi
    have h0 : i - ls.length = 0 := by
      rcases hz : i - ls.length with _ | z
      · rfl
      · rw [hz] at hi; simp at hi
    rw [h0] at hi
    simp at hi
    subst hi
    exact ⟨X, m, k, by rw [List.getElem?_append_right (by omega), hlen, h0]; rfl, hx⟩

end Fa
end Go.Proofs.YtigiiofiajhnlaaGreatDoor
