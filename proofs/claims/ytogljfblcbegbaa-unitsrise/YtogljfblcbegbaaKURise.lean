/-
  The walk of UnitsRise.
-/
import Derived.Test.YtogljfblcbegbaaUl
import Derived.Test.YtogljfblcbegbaaWp
namespace Go.Proofs.Ytogljfblcbegbaa
set_option linter.unusedVariables false
open Go.RowKit Go.ChangeShapes Go.WideShapes
open Utf Wd Wr We Wi Uw

set_option maxRecDepth 100000 in
set_option maxHeartbeats 1600000 in
theorem walk_UnitsRise (A0 : Option Addr) (n0 c0 : Nat) (l0 : List Int) (a1 : Int) (a2 : Int) (w : World) (s0 : Sl .i64 w A0 n0 c0 l0) (b0 : ∀ x ∈ l0, (Lit.int .i64 x).wf = true) (z0 : c0 * 8 ≤ 140737488351232) (w1 : (Lit.int .i64 a1).wf = true) (w2 : (Lit.int .i64 a2).wf = true) :
    Calls Try.prog 10 #[.slice A0 n0 c0, .int .i64 a1, .int .i64 a2] w fun e w' => e = .returned (.bool true) ∧ Below w.heap.size w w' := by
  have hx1 := i64_of w1
  have hx2 := i64_of w2
  have S := Lib.hid s0
  clear s0 b0 z0 w1 w2
  obtain ⟨m, hm⟩ := Int.eq_ofNat_of_zero_le (Int.emod_nonneg a1 (b := 1000) (by omega))
  obtain ⟨k, hk⟩ := Int.eq_ofNat_of_zero_le (Int.emod_nonneg a2 (b := 1000) (by omega))
  have hm1 := Int.emod_lt_of_pos a1 (b := 1000) (by omega)
  have hk1 := Int.emod_lt_of_pos a2 (b := 1000) (by omega)
  rw [hm] at hm1
  rw [hk] at hk1
  have HM := Lib.hid hm
  have HK := Lib.hid hk
  clear hm hk
  go_enter Try.func10, Try.ntmps10
  go_wp2_with fail
  refine (works_true w).mono ?_
  rintro e w1 ⟨rfl, hb1⟩
  go_wp2_with fail
  refine (ltext_any _ _ _ _ _ (S.out.below hb1)).mono ?_
  rintro e w2 ⟨v2, cs, rfl, hc, hl, o2, hb2⟩
  obtain ⟨A2, c2, rfl, t2, _⟩ := o2.sl
  have B2 := Lib.hid (ext_trans hb1 hb2)
  have T2 := Lib.hid t2
  have HC := Lib.hid hc
  have hu := uns_len hc
  have EA := Lib.hid (ends_all (cs := cs) (n := 9223372036854775807) (by omega))
  clear hb1 hb2 o2 t2 hc
  go_wp2_with fail
  refine (bring_at a1 1000 (by omega) (by omega) hx1.1 hx1.2 _ HM.out).mono ?_
  rintro e w' ⟨rfl, rfl⟩
  go_wp2_with fail
  refine (bring_at a2 1000 (by omega) (by omega) hx2.1 hx2.2 _ HK.out).mono ?_
  rintro e w' ⟨rfl, rfl⟩
  have hord : (k < m ∧ ¬ m < k) ∨ (m < k ∧ ¬ k < m) ∨ (m = k) := by omega
  rcases hord with ⟨h1, h2⟩ | ⟨h1, h2⟩ | h1
  · have R := Lib.hid (ends_rise cs (Nat.le_of_lt h1))
    have hr := R.out
    go_wp2_with fail
    refine (offset_txt _ _ _ _ _ HC.out T2.out k (by omega)).mono ?_
    rintro e w' ⟨rfl, rfl⟩
    go_wp2_with fail
    refine (offset_txt _ _ _ _ _ HC.out T2.out m (by omega)).mono ?_
    rintro e w' ⟨rfl, rfl⟩
    go_wp2_with fail
    refine (offset_txt _ _ _ _ _ HC.out T2.out 9223372036854775807 (by omega)).mono ?_
    rintro e w' ⟨rfl, rfl⟩
    rw [EA.out]
    dsimp only
    generalize (encs cs).length = x at *
    generalize (ends cs k).1 = y at *
    generalize (ends cs m).1 = z at *
    have q1 : ((x : Int) == (x : Int)) = true := by simp
    have q2 : decide (y ≤ z) = true := by simpa using hr
    go_wp2
    go_ret
    exact ⟨rfl, B2.out⟩
  · have R := Lib.hid (ends_rise cs (Nat.le_of_lt h1))
    have hr := R.out
    go_wp2_with fail
    refine (offset_txt _ _ _ _ _ HC.out T2.out m (by omega)).mono ?_
    rintro e w' ⟨rfl, rfl⟩
    go_wp2_with fail
    refine (offset_txt _ _ _ _ _ HC.out T2.out k (by omega)).mono ?_
    rintro e w' ⟨rfl, rfl⟩
    go_wp2_with fail
    refine (offset_txt _ _ _ _ _ HC.out T2.out 9223372036854775807 (by omega)).mono ?_
    rintro e w' ⟨rfl, rfl⟩
    rw [EA.out]
    dsimp only
    generalize (encs cs).length = x at *
    generalize (ends cs m).1 = y at *
    generalize (ends cs k).1 = z at *
    have q1 : ((x : Int) == (x : Int)) = true := by simp
    have q2 : decide (y ≤ z) = true := by simpa using hr
    go_wp2
    go_ret
    exact ⟨rfl, B2.out⟩
  · subst h1
    go_wp2_with fail
    refine (offset_txt _ _ _ _ _ HC.out T2.out m (by omega)).mono ?_
    rintro e w' ⟨rfl, rfl⟩
    go_wp2_with fail
    refine (offset_txt _ _ _ _ _ HC.out T2.out m (by omega)).mono ?_
    rintro e w' ⟨rfl, rfl⟩
    go_wp2_with fail
    refine (offset_txt _ _ _ _ _ HC.out T2.out 9223372036854775807 (by omega)).mono ?_
    rintro e w' ⟨rfl, rfl⟩
    rw [EA.out]
    dsimp only
    generalize (encs cs).length = x at *
    generalize (ends cs m).1 = y at *
    have q1 : ((x : Int) == (x : Int)) = true := by simp
    have q2 : decide (y ≤ y) = true := by simp
    go_wp2
    go_ret
    exact ⟨rfl, B2.out⟩
end Go.Proofs.Ytogljfblcbegbaa
