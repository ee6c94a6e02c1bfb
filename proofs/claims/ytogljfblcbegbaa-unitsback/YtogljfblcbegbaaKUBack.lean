/-
  The walk of UnitsBack.
-/
import Derived.Test.YtogljfblcbegbaaUl
import Derived.Test.YtogljfblcbegbaaWp
namespace Go.Proofs.Ytogljfblcbegbaa
set_option linter.unusedVariables false
open Go.RowKit Go.ChangeShapes Go.WideShapes
open Utf Wd Wr We Wi Uw

set_option maxRecDepth 100000 in
set_option maxHeartbeats 1600000 in
theorem walk_UnitsBack (A0 : Option Addr) (n0 c0 : Nat) (l0 : List Int) (w : World) (s0 : Sl .i64 w A0 n0 c0 l0) (b0 : ∀ x ∈ l0, (Lit.int .i64 x).wf = true) (z0 : c0 * 8 ≤ 140737488351232) :
    Calls Try.prog 6 #[.slice A0 n0 c0] w fun e w' => e = .returned (.bool true) ∧ Below w.heap.size w w' := by
  have S := Lib.hid s0
  clear s0 b0 z0
  go_enter Try.func6, Try.ntmps6
  go_wp2_with fail
  refine (works_true w).mono ?_
  rintro e w1 ⟨rfl, hb1⟩
  go_wp2_with fail
  refine (ltext_any _ _ _ _ _ (S.out.below hb1)).mono ?_
  rintro e w2 ⟨v2, cs, rfl, hc, hl, o2, hb2⟩
  obtain ⟨A2, c2, rfl, t2, _⟩ := o2.sl
  have B2 := Lib.hid (ext_trans hb1 hb2)
  have T2 := Lib.hid t2
  have HC := Lib.hid hc
  have hu := uns_len hc
  have U16 := Lib.hid (uns_u16 hc)
  have HCH := Lib.hid (ch_uns hc)
  clear hb1 hb2 o2 t2 hc
  go_wp2_with fail
  refine (of16_txt _ _ _ _ _ HC.out T2.out (by omega)).mono ?_
  rintro e w3 ⟨v3, rfl, o3, hb3⟩
  obtain ⟨A3, c3, rfl, t3, _⟩ := o3.sl
  have T3 := Lib.hid t3
  have T2' := Lib.hid (T2.out.below hb3)
  have B3 := Lib.hid (ext_trans B2.out hb3)
  clear o3 hb3 t3
  go_wp2_with fail
  refine (text_ok _ _ _ _ _ T3.out U16.out (by omega) (by rw [HCH.out]; exact HC.out)).mono ?_
  rintro e w4 ⟨v4, rfl, o4, hb4⟩
  rw [HCH.out] at o4
  obtain ⟨A4, c4, rfl, t4, _⟩ := o4.sl
  have T4 := Lib.hid t4
  have T24 := Lib.hid (T2'.out.below hb4)
  have B4 := Lib.hid (ext_trans B3.out hb4)
  clear o4 hb4 t4
  go_wp2_with fail
  refine (of_txt _ _ _ _ _ HC.out T24.out).mono ?_
  rintro e w' ⟨rfl, rfl⟩
  go_wp2_with fail
  refine (eq_any _ _ _ _ _ _ (encs cs) (encs cs) _ T4.out.row T24.out.row (by unfold maxLen; omega)).mono ?_
  rintro e w5 ⟨rfl, q, rfl⟩
  rw [show decide (encs cs = encs cs) = true from decide_eq_true rfl]
  generalize (encs cs).length = x at *
  generalize (uns cs).length = y at *
  have q1 : ((y : Int) == (y : Int)) = true := by simp
  have q2 : decide (y ≤ x) = true := by simp; omega
  have q3 : decide ((x : Int) ≤ 3 * (y : Int)) = true := by simp; omega
  go_wp2
  go_ret
  exact ⟨rfl, below_drewN B4.out q⟩
end Go.Proofs.Ytogljfblcbegbaa
