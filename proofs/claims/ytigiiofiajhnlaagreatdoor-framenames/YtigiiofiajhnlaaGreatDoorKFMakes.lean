/-
  The walk of FrameMakes.
-/
import Derived.Test.YtigiiofiajhnlaaGreatDoorFg
import Derived.Test.YtigiiofiajhnlaaGreatDoorFh
import Derived.Test.YtigiiofiajhnlaaGreatDoorWp
namespace Go.Proofs.YtigiiofiajhnlaaGreatDoor
set_option linter.unusedVariables false
open Go.RowKit Go.ChangeShapes Go.WideShapes
open Wd We Dm Dc Dd Hm Hb He Hg Fm Fa

set_option maxRecDepth 100000 in
set_option maxHeartbeats 1600000 in
theorem core_FrameMakes (A : Option Addr) (n c : Nat) (l : List Int) (w : World) (s : Sl .u8 w A n c l) (hl : IsB l) (hn : n ≤ 140737488351232) (tab : It.Tab w) (env : Env w) :
    Calls Tryz.prog 11 #[.slice A n c] w fun e w' => e = .returned (.bool true) ∧ Below w.heap.size w w' := by
  have hlen := s.len
  have T := Lib.hid tab
  have E := Lib.hid env
  have S := Lib.hid s
  clear s tab env
  go_enter Tryz.func11, Tryz.ntmps11
  go_wp2_with fail
  refine (copy_any _ _ _ _ _ S.out (by omega)).mono ?_
  rintro e w1 ⟨v1, rfl, o1, b1⟩
  obtain ⟨A1, c1, rfl, t1, _⟩ := o1.sl
  rw [hlen] at t1
  have T1 := Lib.hid t1
  have S1 := Lib.hid (S.out.below b1)
  have B1 := Lib.hid b1
  have Tb1 := Lib.hid (T.out.below b1)
  have E1 := Lib.hid (E.out.below b1)
  rw [hlen]
  clear o1 t1 b1 hlen
  have q0 : ((0 : Int) == 0) = true := by decide
  by_cases hb : n ≤ 65536
  · have hhl : (hd n).length ≤ 39 := by rw [hd_length]; have := decs_five hb; omega
    go_wp2_with fail
    refine (frame_ok _ _ _ _ _ T1.out hb Tb1.out).mono ?_
    rintro e w2 ⟨A2, c2, rfl, t2, b2⟩
    have T2 := Lib.hid t2
    have T1' := Lib.hid (T1.out.below b2)
    have S2 := Lib.hid (S1.out.below b2)
    have B2 := Lib.hid (ext_trans B1.out b2)
    have E2 := Lib.hid (E1.out.below b2)
    clear t2 b2
    go_wp2_with fail
    refine (rframe_ok _ _ _ _ _ S2.out hb).mono ?_
    rintro e w3 ⟨A3, c3, rfl, t3, b3⟩
    have T3 := Lib.hid t3
    have T2' := Lib.hid (T2.out.below b3)
    have T1'' := Lib.hid (T1'.out.below b3)
    have S3 := Lib.hid (S2.out.below b3)
    have B3 := Lib.hid (ext_trans B2.out b3)
    have E3 := Lib.hid (E2.out.below b3)
    clear t3 b3
    go_wp2_with fail
    refine (eq_any _ _ _ _ _ _ _ _ _ T2'.out.row T3.out.row (by unfold maxLen; omega)).mono ?_
    rintro e w4 ⟨rfl, q, rfl⟩
    simp only [decide_true]
    go_wp2_with fail
    refine (eq_any _ _ _ _ _ _ _ _ _ (T1''.out.drewN q).row (S3.out.drewN q).row (by have := S3.out.max; have := S3.out.le; omega)).mono ?_
    rintro e w4 ⟨rfl, q', rfl⟩
    simp only [decide_true]
    go_wp2_with fail
    refine (awake7 _ (E3.out.drewN (q + q'))).mono ?_
    rintro e w6 ⟨rfl, hb6⟩
    go_wp2
    go_ret
    exact ⟨rfl, ext_trans (Wd.below_drewN B3.out (q + q')) hb6⟩
  · go_wp2_with fail
    refine (frame_big _ _ _ _ (by omega)).mono ?_
    rintro e w2 ⟨rfl, rfl⟩
    go_wp2_with fail
    refine (rframe_big _ _ _ _ (by omega)).mono ?_
    rintro e w2 ⟨rfl, rfl⟩
    have q5 : ((5 : Int) == 5) = true := by decide
    go_wp2_with fail
    refine (eq_any _ _ _ _ _ _ _ _ _ (Row.nil (k := .u8) (w := w1)) Row.nil (by omega)).mono ?_
    rintro e w4 ⟨rfl, q, rfl⟩
    simp only [decide_true]
    go_wp2_with fail
    refine (eq_any _ _ _ _ _ _ _ _ _ (T1.out.drewN q).row (S1.out.drewN q).row (by have := S1.out.max; have := S1.out.le; omega)).mono ?_
    rintro e w4 ⟨rfl, q', rfl⟩
    simp only [decide_true]
    go_wp2_with fail
    refine (awake7 _ (E1.out.drewN (q + q'))).mono ?_
    rintro e w6 ⟨rfl, hb6⟩
    go_wp2
    go_ret
    exact ⟨rfl, ext_trans (Wd.below_drewN B1.out (q + q')) hb6⟩

theorem walk_FrameMakes (A0 : Option Addr) (n0 c0 : Nat) (l0 : List Int) (w : World) (s0 : Sl .u8 w A0 n0 c0 l0) (b0 : ∀ x ∈ l0, (Lit.int .u8 x).wf = true) (z0 : c0 * 1 ≤ 140737488351232) (tab : It.Tab w) (env : Hb.Env w) :
    Calls Tryz.prog 11 #[.slice A0 n0 c0] w fun e w' => e = .returned (.bool true) ∧ Below w.heap.size w w' := by
  exact core_FrameMakes A0 n0 c0 l0 w s0 (isB_of b0) (by have := s0.le; omega) tab env
end Go.Proofs.YtigiiofiajhnlaaGreatDoor
