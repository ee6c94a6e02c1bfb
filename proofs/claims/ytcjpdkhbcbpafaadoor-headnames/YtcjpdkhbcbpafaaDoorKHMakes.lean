/-
  The walk of HeadMakes.
-/
import Derived.Test.YtcjpdkhbcbpafaaDoorHg
import Derived.Test.YtcjpdkhbcbpafaaDoorWp
namespace Go.Proofs.YtcjpdkhbcbpafaaDoor
set_option linter.unusedVariables false
open Go.RowKit Go.ChangeShapes Go.WideShapes
open Wd We Dm Dc Dd Hm Hb Hc Hd He Hg

set_option maxRecDepth 100000 in
set_option maxHeartbeats 1600000 in
theorem core_HeadMakes (n : Int) (w : World) (tab : It.Tab w) (env : Hb.Env w) :
    Calls Tryd.prog 4 #[.int .i64 n] w fun e w' => e = .returned (.bool true) ∧ Below w.heap.size w w' := by
  have T := Lib.hid tab
  have E := Lib.hid env
  clear tab env
  by_cases h : n < 0 ∨ 65536 < n
  · have H := Lib.hid h
    clear h
    go_enter Tryd.func4, Tryd.ntmps4
    go_wp2_with fail
    refine (make_no _ H.out _).mono ?_
    rintro e w' ⟨rfl, rfl⟩
    go_wp2_with fail
    refine (rmake_no _ H.out _).mono ?_
    rintro e w' ⟨rfl, rfl⟩
    go_wp2_with fail
    refine (eq_any _ _ _ _ _ _ [] [] _ Row.nil Row.nil (by decide)).mono ?_
    rintro e w3 ⟨rfl, q, rfl⟩
    rw [show decide (([] : List Int) = []) = true from rfl]
    go_wp2_with fail
    refine (awake_ok _ (E.out.drewN q)).mono ?_
    rintro e w4 ⟨rfl, hb4⟩
    go_wp2
    go_ret
    exact ⟨rfl, ext_trans (Wd.below_drewN (Below.refl _ _) q) hb4⟩
  · obtain ⟨v, rfl⟩ := Int.eq_ofNat_of_zero_le (a := n) (by omega)
    have hv : v ≤ 65536 := by omega
    have h5 := decs_five hv
    have hhl : (hd v).length ≤ 39 := by rw [hd_length]; omega
    clear h h5
    go_enter Tryd.func4, Tryd.ntmps4
    go_wp2_with fail
    refine (make_ok _ hv _ T.out).mono ?_
    rintro e w1 ⟨A1, c1, rfl, s1, hb1⟩
    have S1 := Lib.hid s1
    have HB1 := Lib.hid hb1
    clear s1 hb1
    generalize hL : (hd v).length = L at *
    have HLL := Lib.hid hL
    clear hL
    go_wp2_with fail
    refine (rmake_ok _ hv _).mono ?_
    rintro e w2 ⟨A2, c2, rfl, s2, hb2⟩
    have S1' := Lib.hid (S1.out.below hb2)
    have HB2 := Lib.hid (ext_trans HB1.out hb2)
    rw [HLL.out] at s2 ⊢
    have S2 := Lib.hid s2
    clear s2 hb2
    go_wp2_with fail
    refine (eq_any _ _ _ _ _ _ (hd v) (hd v) _ S1'.out.row S2.out.row (by unfold maxLen; omega)).mono ?_
    rintro e w3 ⟨rfl, q, rfl⟩
    rw [show decide (hd v = hd v) = true from decide_eq_true rfl]
    go_wp2_with fail
    refine (awake_ok _ ((E.out.below HB2.out).drewN q)).mono ?_
    rintro e w4 ⟨rfl, hb4⟩
    go_wp2
    go_ret
    exact ⟨rfl, ext_trans (Wd.below_drewN HB2.out q) hb4⟩

theorem walk_HeadMakes (a0 : Int) (w : World) (w0 : (Lit.int .i64 a0).wf = true) (tab : It.Tab w) (env : Hb.Env w) :
    Calls Tryd.prog 4 #[.int .i64 a0] w fun e w' => e = .returned (.bool true) ∧ Below w.heap.size w w' := by
  exact core_HeadMakes a0 w tab env
end Go.Proofs.YtcjpdkhbcbpafaaDoor
