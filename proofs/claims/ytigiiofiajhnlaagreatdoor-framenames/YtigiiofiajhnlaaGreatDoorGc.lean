/-
  Readers that are none: a nil one, a zero one. Slices of zeros of any length; three slices in a literal.
-/
import Derived.Test.YtigiiofiajhnlaaGreatDoorFe
import Derived.Test.YtigiiofiajhnlaaGreatDoorHj
namespace Go.Proofs.YtigiiofiajhnlaaGreatDoor
set_option linter.unusedVariables false
open Go.RowKit
namespace Fa
open Wd We Dm Dc Dd Hm Hb He Fm

/-- zeros -/
theorem made_any (n : Nat) : madeCells (Value.int .u8 0).cells (n * 1) = ((List.replicate n (0 : Int)).map (Value.int .u8)).toArray := by
  rw [Nat.mul_one, show (Value.int .u8 0).cells = #[Value.int .u8 0] from rfl]
  apply Array.ext
  · simp [madeCells]
  · intro i h1 h2
    simp [madeCells, Nat.mod_one]
theorem mk_any (n : Nat) (hn : n ≤ 1000000) (w : World) : ∃ w' l, (Instr.makeSlice 27 (.int .i64 (n : Int)) (.int .i64 (n : Int))).run Tryz.prog w = .ok (.slice (some ⟨w.heap.size, 0, none⟩) n n) w' ∧ IsB l ∧ Sl .u8 w' (some ⟨w.heap.size, 0, none⟩) n n l ∧ Below w.heap.size w w' := by
  obtain ⟨i0, hi, hz0, hz1, hz2⟩ := info_parts u8_info
  have h := run_makeSlice (P := Tryz.prog) w 27 5 i0 _ Tryz.underlying27 hi hz0 .i64 .i64 (n : Int) (n : Int) (by omega) (by omega) (by rw [hz1]; omega) (by rw [hz2]; omega) (by omega)
  rw [hz1] at h
  have s := Sl.new w (List.replicate n (0 : Int)) 5 .u8 (by rw [List.length_replicate]; unfold maxLen; omega)
  rw [List.length_replicate, ← made_any] at s
  exact ⟨_, _, h, fun x hx => by rw [List.eq_of_mem_replicate hx]; omega, s, Dd.below_alloc w _⟩

/-- three slices of bytes, written out -/
theorem three_new (w : World) {A B C : Option Addr} {n m k a b c : Nat} {l1 l2 l3 : List Int} (h1 : Sl .u8 w A n a l1) (h2 : Sl .u8 w B m b l2) (h3 : Sl .u8 w C k c l3) :
    LL (w.alloc (.cells #[.slice A n a, .slice B m b, .slice C k c] 27)) (some ⟨w.heap.size, 0, none⟩) 3 3 [l1, l2, l3] := by
  have hb := Dd.below_alloc w (.cells #[.slice A n a, .slice B m b, .slice C k c] 27)
  refine ⟨rfl, by decide, by unfold maxLen; omega, (fun e => by cases e), fun i l hi => ?_⟩
  have cc : ∀ j, (w.alloc (.cells #[.slice A n a, .slice B m b, .slice C k c] 27)).cell? ⟨w.heap.size, j, none⟩ = #[.slice A n a, .slice B m b, .slice C k c][j]? := fun j => cell_of_row _ _ _ _ _ _ (heap_alloc_new w _)
  rcases i with _ | _ | _ | i
  · simp at hi; subst hi; exact ⟨_, 0, A, n, a, rfl, cc 0, h1.below hb⟩
  · simp at hi; subst hi; exact ⟨_, 0, B, m, b, rfl, cc 1, h2.below hb⟩
  · simp at hi; subst hi; exact ⟨_, 0, C, k, c, rfl, cc 2, h3.below hb⟩
  · simp at hi

set_option maxRecDepth 100000 in
set_option maxHeartbeats 800000 in
theorem stands_nil (w : World) :
    Calls Tryz.prog 12 #[.pointer none] w fun e w' => e = .returned (.int .i64 0) ∧ w = w' := by
  go_enter Tryz.func12, Tryz.ntmps12
  go_wp2
  go_ret
  exact ⟨rfl, rfl⟩
set_option maxRecDepth 100000 in
set_option maxHeartbeats 800000 in
theorem left_nil (w : World) :
    Calls Tryz.prog 5 #[.pointer none] w fun e w' => e = .returned (.int .i64 0) ∧ w = w' := by
  go_enter Tryz.func5, Tryz.ntmps5
  go_wp2
  go_ret
  exact ⟨rfl, rfl⟩
set_option maxRecDepth 100000 in
set_option maxHeartbeats 800000 in
theorem closed_nil (w : World) :
    Calls Tryz.prog 6 #[.pointer none] w fun e w' => e = .returned (.bool false) ∧ w = w' := by
  go_enter Tryz.func6, Tryz.ntmps6
  go_wp2_with fail
  refine (stands_nil w).mono ?_
  rintro e w' ⟨rfl, rfl⟩
  go_wp2
  go_ret
  exact ⟨rfl, rfl⟩
set_option maxRecDepth 100000 in
set_option maxHeartbeats 800000 in
theorem write_nil (v : Value) (w : World) :
    Calls Tryz.prog 4 #[.pointer none, v] w fun e w' => e = .returned (.tuple #[.slice none 0 0, .int .i64 1]) ∧ w = w' := by
  go_enter Tryz.func4, Tryz.ntmps4
  go_wp2_with fail
  refine (stands_nil w).mono ?_
  rintro e w' ⟨rfl, rfl⟩
  go_wp2
  go_ret2
  exact ⟨rfl, rfl⟩
set_option maxRecDepth 100000 in
set_option maxHeartbeats 800000 in
theorem left_zero (w : World) (P : Nat) (st : Int) (h : Rdr w P st (.slice none 0 0)) :
    Calls Tryz.prog 5 #[.pointer (some ⟨P, 0, none⟩)] w fun e w' => e = .returned (.int .i64 0) ∧ w = w' := by
  have c1 := h.at1
  clear h
  go_enter Tryz.func5, Tryz.ntmps5
  go_wp2
  go_ret
  exact ⟨rfl, rfl⟩
set_option maxRecDepth 100000 in
set_option maxHeartbeats 800000 in
theorem closed_zero (w : World) (P : Nat) (v : Value) (h : Rdr w P 0 v) :
    Calls Tryz.prog 6 #[.pointer (some ⟨P, 0, none⟩)] w fun e w' => e = .returned (.bool false) ∧ w = w' := by
  have CON := Lib.hid (stands_any w P _ v h)
  clear h
  go_enter Tryz.func6, Tryz.ntmps6
  go_wp2_with fail
  refine CON.out.mono ?_
  rintro e w' ⟨rfl, rfl⟩
  go_wp2
  go_ret
  exact ⟨rfl, rfl⟩
set_option maxRecDepth 100000 in
set_option maxHeartbeats 800000 in
theorem write_zero (w : World) (P : Nat) (v u : Value) (h : Rdr w P 0 v) :
    Calls Tryz.prog 4 #[.pointer (some ⟨P, 0, none⟩), u] w fun e w' => e = .returned (.tuple #[.slice none 0 0, .int .i64 1]) ∧ w = w' := by
  have CON := Lib.hid (stands_any w P _ v h)
  clear h
  go_enter Tryz.func4, Tryz.ntmps4
  go_wp2_with fail
  refine CON.out.mono ?_
  rintro e w' ⟨rfl, rfl⟩
  go_wp2
  go_ret2
  exact ⟨rfl, rfl⟩
end Fa
end Go.Proofs.YtigiiofiajhnlaaGreatDoor
