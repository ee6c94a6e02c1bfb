/-
  The walk of HeadParses.
-/
import Derived.Test.YtcjpdkhbcbpafaaDoorHi
import Derived.Test.YtcjpdkhbcbpafaaDoorWp
namespace Go.Proofs.YtcjpdkhbcbpafaaDoor
set_option linter.unusedVariables false
open Go.RowKit Go.ChangeShapes Go.WideShapes
open Wd We Dm Dc Dd Hm Hb Hc Hd He Hg Hf Hh Hi

set_option maxRecDepth 100000 in
set_option maxHeartbeats 1600000 in
theorem core_HeadParses (A : Option Addr) (n c : Nat) (l : List Int) (w : World) (s : Sl .u8 w A n c l) (hb : IsB l) (hn : n ≤ 140737488351232) (env : Hb.Env w) :
    Calls Tryd.prog 3 #[.slice A n c] w fun e w' => e = .returned (.bool true) ∧ Below w.heap.size w w' := by
  have hlen := s.len
  have S := Lib.hid s
  have HL := Lib.hid hlen
  have HB := Lib.hid hb
  have E := Lib.hid env
  clear s hlen hb env
  go_enter Tryd.func3, Tryd.ntmps3
  go_wp2_with fail
  refine (copy_any _ _ _ _ _ S.out (by omega)).mono ?_
  rintro e w1 ⟨v1, rfl, o1, hb1⟩
  obtain ⟨A1, c1, rfl, t1, -⟩ := o1.sl
  rw [HL.out] at t1 ⊢
  have T1 := Lib.hid t1
  have S1 := Lib.hid (S.out.below hb1)
  have E1 := Lib.hid (E.out.below hb1)
  have HB1 := Lib.hid hb1
  clear o1 t1 hb1
  go_wp2_with fail
  refine (He.parse_any _ _ _ _ _ T1.out HB.out E1.out).mono ?_
  rintro e w2 ⟨rfl, hb2⟩
  have T2 := Lib.hid (T1.out.below hb2)
  have S2 := Lib.hid (S1.out.below hb2)
  have E2 := Lib.hid (E1.out.below hb2)
  have HB2 := Lib.hid (ext_trans HB1.out hb2)
  clear hb2
  go_wp2_with fail
  refine (rparse6_any _ _ _ _ _ S2.out HB.out).mono ?_
  rintro e w3 ⟨rfl, hb3⟩
  have T3 := Lib.hid (T2.out.below hb3)
  have S3 := Lib.hid (S2.out.below hb3)
  have E3 := Lib.hid (E2.out.below hb3)
  have HB3 := Lib.hid (ext_trans HB2.out hb3)
  clear hb3
  generalize (prs l).1 = p1
  generalize (prs l).2.1 = p2
  generalize (prs l).2.2 = p3
  have q1 : (p1 == p1) = true := by simp
  have q2 : (p2 == p2) = true := by simp
  have q3 : (p3 == p3) = true := by simp
  go_wp2_with fail
  refine (eq_any _ _ _ _ _ _ l l _ T3.out.row S3.out.row (by unfold maxLen; omega)).mono ?_
  rintro e w4 ⟨rfl, q, rfl⟩
  rw [show decide (l = l) = true from decide_eq_true rfl]
  go_wp2_with fail
  refine (awake_ok _ (E3.out.drewN q)).mono ?_
  rintro e w5 ⟨rfl, hb5⟩
  go_wp2
  go_ret
  exact ⟨rfl, ext_trans (Wd.below_drewN HB3.out q) hb5⟩

theorem walk_HeadParses (A0 : Option Addr) (n0 c0 : Nat) (l0 : List Int) (w : World) (s0 : Sl .u8 w A0 n0 c0 l0) (b0 : ∀ x ∈ l0, (Lit.int .u8 x).wf = true) (z0 : c0 * 1 ≤ 140737488351232) (env : Hb.Env w) :
    Calls Tryd.prog 3 #[.slice A0 n0 c0] w fun e w' => e = .returned (.bool true) ∧ Below w.heap.size w w' := by
  exact core_HeadParses A0 n0 c0 l0 w s0 (isB_of b0) (by have := s0.le; omega) env
end Go.Proofs.YtcjpdkhbcbpafaaDoor
