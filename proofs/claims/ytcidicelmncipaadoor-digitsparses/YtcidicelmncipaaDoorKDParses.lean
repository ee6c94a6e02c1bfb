/-
  The walk of DigitsParses.
-/
import Derived.Test.YtcidicelmncipaaDoorDd
import Derived.Test.YtcidicelmncipaaDoorWp
namespace Go.Proofs.YtcidicelmncipaaDoor
set_option linter.unusedVariables false
open Go.RowKit Go.ChangeShapes Go.WideShapes
open Wd We Dm Da Db It Dc Dd

set_option maxRecDepth 100000 in
set_option maxHeartbeats 1600000 in
theorem core_DigitsParses (A : Option Addr) (n c : Nat) (l : List Int) (i : Int) (w : World) (s : Sl .u8 w A n c l) (hb : IsB l) (hn : n ≤ 140737488355328) (hi : i ≤ 9223372036854775807) (tab : It.Tab w) :
    Calls Tryd.prog 4 #[.slice A n c, .int .i64 i] w fun e w' => e = .returned (.bool true) ∧ Below w.heap.size w w' := by
  have hlen := s.len
  have S := Lib.hid s
  have HL := Lib.hid hlen
  have HB := Lib.hid hb
  have T := Lib.hid tab
  obtain ⟨x, er, hp⟩ : ∃ x er, ps l i = (x, er) := ⟨_, _, rfl⟩
  have HP := Lib.hid hp
  have q1 : (x == x) = true := by simp
  have q2 : (er == er) = true := by simp
  clear s hlen tab hp hb
  go_enter Tryd.func4, Tryd.ntmps4
  go_wp2_with fail
  refine (copy_any _ _ _ _ _ S.out hn).mono ?_
  rintro e w1 ⟨v1, rfl, o1, hb1⟩
  obtain ⟨A1, c1, rfl, t1, _⟩ := o1.sl
  have T1 := Lib.hid t1
  have S1 := Lib.hid (S.out.below hb1)
  clear t1 o1
  go_wp2_with fail
  refine (parse_any _ _ _ _ _ _ T1.out HB.out hi).mono ?_
  rintro e w' ⟨rfl, rfl⟩
  rw [HP.out]
  go_wp2_with fail
  refine (rparse_any _ _ _ _ _ _ S1.out HB.out hi).mono ?_
  rintro e w' ⟨rfl, rfl⟩
  rw [HP.out]
  go_wp2_with fail
  refine (eq_any _ _ _ _ _ _ l l _ T1.out.row S1.out.row (by rw [HL.out]; unfold maxLen; omega)).mono ?_
  rintro e w3 ⟨rfl, q, rfl⟩
  rw [show decide (l = l) = true from decide_eq_true rfl]
  go_wp2_with fail
  refine (awake_true _ (T.out.below (below_drewN hb1 q))).mono ?_
  rintro e w4 ⟨rfl, hb4⟩
  go_wp2
  go_ret
  exact ⟨rfl, ext_trans (below_drewN hb1 q) hb4⟩

theorem walk_DigitsParses (A0 : Option Addr) (n0 c0 : Nat) (l0 : List Int) (a1 : Int) (w : World) (s0 : Sl .u8 w A0 n0 c0 l0) (b0 : ∀ x ∈ l0, (Lit.int .u8 x).wf = true) (z0 : c0 * 1 ≤ 140737488351232) (w1 : (Lit.int .i64 a1).wf = true) (tab : It.Tab w) :
    Calls Tryd.prog 4 #[.slice A0 n0 c0, .int .i64 a1] w fun e w' => e = .returned (.bool true) ∧ Below w.heap.size w w' := by
  have hle := s0.le
  exact core_DigitsParses _ _ _ _ _ _ s0 (isB_of b0) (by omega) (i64_of w1).2 tab
end Go.Proofs.YtcidicelmncipaaDoor
