/-
  What the statements' reads (layer 7) computes.
-/
import Derived.Test.YtigiiofiajhnlaaGreatDoorFj
namespace Go.Proofs.YtigiiofiajhnlaaGreatDoor
set_option linter.unusedVariables false
set_option linter.unusedSimpArgs false
open Go.RowKit Go.Shelf
namespace Fa
open Wd We Dm Dc Dd Hm Hb He Fm

/-- what lies apart from a reader lies on through its Write -/
theorem OL.write {w w' : World} {B B' P : Nat} {s : St} {g : Option Nat} {X : Nat → Prop} {v : Value} {ls : List (List Int)} (o : OL 27 5 w B' X v ls) (r : RdM w B P s g) (hX : ∀ k, X k → k ≠ P ∧ g ≠ some k) (st : Stay (fun k => k = P ∨ g = some k) w w') : OL 27 5 w' B' X v ls := by
  obtain ⟨u, h1, h2, h3⟩ := r.rd
  obtain ⟨vs, hrow, _⟩ := id o
  refine OL.stay o st (fun k hk c => ?_) (fun k _ _ hx c => ?_)
  · rcases c with c | c
    · exact h1.not_row hrow (by decide) (by rw [hk, c])
    · exact row_ne hrow h2 (by decide) k hk (by rw [h3, c])
  · rcases c with c | c
    · exact (hX k hx).1 c
    · exact (hX k hx).2 c

theorem RdM.app2 {w w' : World} {B B' P m : Nat} {s : St} {g : Option Nat} {v : Value} {xs : List Value} (h : RdM w B P s g) (ho : w.ownsRow B' 27 1 v m xs) (hg : w.grownBy w' v.ownBlock) : RdM w' B P s g := by
  obtain ⟨u, h1, h2, h3⟩ := h.rd
  exact h.stay (S := fun k => v.ownBlock = some k) (Stay.grown hg (fun k e => e)) (h1.not_row ho (by decide)) (fun k e c => row_ne ho h2 (by decide) k c (by rw [h3, e]))
theorem row_slice {w : World} {B : Nat} {e : TypeId} {v : Value} {n : Nat} {xs : List Value} (h : w.ownsRow B e 1 v n xs) : ∃ A c, v = .slice A n c ∧ (A = none → n = 0 ∧ c = 0) ∧ ∀ ad, A = some ad → ∀ j u, xs[j]? = some u → w.cell? (ad.add j) = some u := by
  rcases id h.2 with ⟨rfl, rfl⟩ | ⟨g, cap, cur, rfl, _⟩
  · exact ⟨none, 0, rfl, fun _ => ⟨rfl, rfl⟩, fun ad e => by cases e⟩
  · exact ⟨some ⟨g, 0, none⟩, cap, rfl, (fun e => by cases e), fun ad e => by cases e; exact h.cells (g := g) rfl⟩
theorem els_cell {w : World} {B : Nat} {e : TypeId} {X : Nat → Prop} {xs : List (List Int)} {us : List Value} (hl : us.length = xs.length) (h : ∀ (i : Nat) (l : List Int), xs[i]? = some l → ∃ x, us[i]? = some x ∧ Wd.Own .u8 e w B x l ∧ ∀ q, x.ownBlock = some q → X q) : ∀ u ∈ us, u.oneCell' = true := by
  intro u hu
  obtain ⟨i, hi, rfl⟩ := List.getElem_of_mem hu
  obtain ⟨x, h1, h2, _⟩ := h i xs[i] (List.getElem?_eq_getElem (by omega))
  rw [List.getElem?_eq_getElem hi] at h1
  injection h1 with h1
  obtain ⟨A, c, e, _, _⟩ := h2.sl
  rw [h1, e]; rfl
/-- what pieces bring as numbers fits -/
theorem rds_len (s : St) (last : Int) (ps : List (List Int)) : (rds s last ps).1.length * 18 ≤ (lft s).length + ps.flatten.length := by
  induction ps generalizing s last with
  | nil => simp [rds_nil]
  | cons p ps ih =>
    rw [rds_cons]
    cases s with
    | none =>
      rw [wrt_none]
      have := ih none (if (70 : Int) ≠ 0 ∧ (70 : Int) ≠ 70 then 70 else last)
      simp at this ⊢
      omega
    | some l =>
      have hf := frs_len (l ++ p)
      by_cases hb : brk (frs (l ++ p)).2 = 0
      · rw [wrt_ok (xs := (frs (l ++ p)).1) (t := (frs (l ++ p)).2) rfl hb]
        have := ih (some (frs (l ++ p)).2) (if (0 : Int) ≠ 0 ∧ (0 : Int) ≠ 70 then 0 else last)
        simp only [lft, List.length_append, List.flatten_cons] at this hf ⊢
        omega
      · rw [wrt_bad (xs := (frs (l ++ p)).1) (t := (frs (l ++ p)).2) rfl hb]
        rw [rds_closed]
        simp only [lft, List.length_append, List.flatten_cons, List.append_nil] at hf ⊢
        omega

end Fa
end Go.Proofs.YtigiiofiajhnlaaGreatDoor
