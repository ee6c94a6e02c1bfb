/-
  A reader in memory, with what it has; what New, Write, Left, Closed of package frame compute.
-/
import Derived.Test.YtigiiofiajhnlaaGreatDoorFc
namespace Go.Proofs.YtigiiofiajhnlaaGreatDoor
set_option linter.unusedVariables false
set_option linter.unusedSimpArgs false
open Go.RowKit Go.Shelf
namespace Fa
open Wd We Dm Dc Dd Hm Hb He Fm

/-- how a reader stands, as a number -/
def sti : St → Int
  | none => 2
  | some _ => 1
/-- the block P, from B on, is a reader; g is the block of its bytes -/
structure RdM (w : World) (B P : Nat) (s : St) (g : Option Nat) : Prop where
  lo : B ≤ P
  rd : ∃ v, Rdr w P (sti s) v ∧ Wd.Own .u8 5 w B v (lft s) ∧ v.ownBlock = g
  wt : Wt s
  ib : IsB (lft s)
theorem RdM.lt {w : World} {B P : Nat} {s : St} {g : Option Nat} (h : RdM w B P s g) : P < w.heap.size := h.rd.choose_spec.1.lt
theorem RdM.g_lt {w : World} {B P : Nat} {s : St} {g : Option Nat} (h : RdM w B P s g) : ∀ k, g = some k → B ≤ k ∧ k < w.heap.size ∧ k ≠ P := by
  obtain ⟨v, h1, h2, h3⟩ := h.rd
  intro k hk
  have := h2.lt (h3.trans hk)
  exact ⟨this.1, this.2, fun e => h1.not_row h2 (by decide) (by rw [h3, hk, e])⟩
theorem RdM.stay {S : Nat → Prop} {w w' : World} {B P : Nat} {s : St} {g : Option Nat} (h : RdM w B P s g) (hb : Stay S w w') (h1 : ¬ S P) (h2 : ∀ k, g = some k → ¬ S k) : RdM w' B P s g := by
  obtain ⟨v, q1, q2, q3⟩ := h.rd
  exact ⟨h.lo, ⟨v, q1.stay hb h1, q2.stay hb (fun k hk => h2 k (q3.symm.trans hk)), q3⟩, h.wt, h.ib⟩
theorem RdM.below {w w' : World} {B P : Nat} {s : St} {g : Option Nat} (h : RdM w B P s g) (hb : Below w.heap.size w w') : RdM w' B P s g := h.stay (Stay.of_below (fun _ => False) hb) (fun c => c) (fun _ _ c => c)
/-- an append onto a row of bytes that is not the reader's -/
theorem RdM.app {w w' : World} {B B' P m : Nat} {s : St} {g : Option Nat} {v : Value} {xs : List Value} (h : RdM w B P s g) (ho : w.ownsRow B' 5 1 v m xs) (hne : ∀ k, v.ownBlock = some k → g ≠ some k) (hg : w.grownBy w' v.ownBlock) : RdM w' B P s g := by
  obtain ⟨u, h1, _, _⟩ := h.rd
  exact h.stay (S := fun k => v.ownBlock = some k) (Stay.grown hg (fun k e => e)) (h1.not_row ho (by decide)) (fun k e c => hne k c e)
theorem wt_closed : Wt none := fun l h => by cases h
theorem wait_le {w : World} {B P : Nat} {s : St} {g : Option Nat} (h : RdM w B P s g) : (lft s).length < 66048 := wt_len h.wt

set_option maxRecDepth 100000 in
set_option maxHeartbeats 800000 in
theorem new_any (w : World) :
    Calls Tryz.prog 16 #[] w fun e w' => e = .returned (.pointer (some ⟨w.heap.size, 0, none⟩)) ∧ RdM w' w.heap.size w.heap.size (some []) none ∧ Below w.heap.size w w' := by
  go_enter Tryz.func16, Tryz.ntmps16
  go_wp2
  go_ret
  refine ⟨rfl, ⟨Nat.le_refl _, ⟨_, heap_alloc_new w _, Wd.Own.nil, rfl⟩, wt_new, fun x hx => by simp [lft] at hx⟩, (Below.refl _ _).alloc (Nat.le_refl _) _⟩

set_option maxRecDepth 100000 in
set_option maxHeartbeats 800000 in
theorem stands_any (w : World) (P : Nat) (st : Int) (v : Value) (h : Rdr w P st v) :
    Calls Tryz.prog 12 #[.pointer (some ⟨P, 0, none⟩)] w fun e w' => e = .returned (.int .i64 st) ∧ w = w' := by
  have c0 := h.at0
  clear h
  go_enter Tryz.func12, Tryz.ntmps12
  go_wp2
  go_ret
  exact ⟨rfl, rfl⟩
set_option maxRecDepth 100000 in
set_option maxHeartbeats 800000 in
theorem left_any (w : World) (B P : Nat) (s : St) (g : Option Nat) (h : RdM w B P s g) :
    Calls Tryz.prog 5 #[.pointer (some ⟨P, 0, none⟩)] w fun e w' => e = .returned (.int .i64 ((lft s).length : Nat)) ∧ w = w' := by
  obtain ⟨v, h1, h2, _⟩ := h.rd
  obtain ⟨A, c, rfl, _, _⟩ := h2.sl
  have c1 := h1.at1
  clear h h1 h2
  generalize (lft s).length = n at *
  go_enter Tryz.func5, Tryz.ntmps5
  go_wp2
  go_ret
  exact ⟨rfl, rfl⟩
set_option maxRecDepth 100000 in
set_option maxHeartbeats 800000 in
theorem closed_any (w : World) (B P : Nat) (s : St) (g : Option Nat) (h : RdM w B P s g) :
    Calls Tryz.prog 6 #[.pointer (some ⟨P, 0, none⟩)] w fun e w' => e = .returned (.bool s.isNone) ∧ w = w' := by
  obtain ⟨v, h1, _, _⟩ := h.rd
  have CON := Lib.hid (stands_any w P _ v h1)
  clear h h1
  cases s with
  | none =>
    go_enter Tryz.func6, Tryz.ntmps6
    go_wp2_with fail
    refine CON.out.mono ?_
    rintro e w' ⟨rfl, rfl⟩
    simp only [sti]
    go_wp2
    go_ret
    exact ⟨rfl, rfl⟩
  | some l =>
    go_enter Tryz.func6, Tryz.ntmps6
    go_wp2_with fail
    refine CON.out.mono ?_
    rintro e w' ⟨rfl, rfl⟩
    simp only [sti]
    go_wp2
    go_ret
    exact ⟨rfl, rfl⟩

/-- what Write leaves -/
def WPost (w : World) (B P : Nat) (g : Option Nat) (q : List (List Int) × Int × St) (e : Ending) (w' : World) : Prop :=
  ∃ vb g', e = .returned (.tuple #[vb, .int .i64 q.2.1]) ∧ OL 27 5 w' w.heap.size (fun k => g' ≠ some k) vb q.1 ∧ RdM w' B P q.2.2 g' ∧ (g' = g ∨ ∀ k, g' = some k → w.heap.size ≤ k) ∧ Stay (fun k => k = P ∨ g = some k) w w'

set_option maxRecDepth 100000 in
set_option maxHeartbeats 2000000 in
theorem write_closed (w : World) (B P : Nat) (g : Option Nat) (v2 : Value) (b : List Int) (r : RdM w B P none g) :
    Calls Tryz.prog 4 #[.pointer (some ⟨P, 0, none⟩), v2] w (WPost w B P g (wrt none b)) := by
  obtain ⟨v, h1, _, _⟩ := r.rd
  have CON := Lib.hid (stands_any w P _ v h1)
  have R := Lib.hid r
  clear r h1
  go_enter Tryz.func4, Tryz.ntmps4
  go_wp2_with fail
  refine CON.out.mono ?_
  rintro e w' ⟨rfl, rfl⟩
  simp only [sti]
  go_wp2
  go_ret2
  exact ⟨_, _, rfl, OL.nil _ _ _ _ _, R.out, .inl rfl, Stay.refl _ _⟩
end Fa
end Go.Proofs.YtigiiofiajhnlaaGreatDoor
