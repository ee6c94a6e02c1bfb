/-
  The walk of UnitsPrefix.
-/
import Derived.Test.YtogljfblcbegbaaUl
import Derived.Test.YtogljfblcbegbaaWp
namespace Go.Proofs.Ytogljfblcbegbaa
set_option linter.unusedVariables false
open Go.RowKit Go.ChangeShapes Go.WideShapes
open Utf Wd Wr We Wi Uw

set_option maxRecDepth 100000 in
set_option maxHeartbeats 1600000 in
theorem walk_UnitsPrefix (A0 : Option Addr) (n0 c0 : Nat) (l0 : List Int) (A1 : Option Addr) (n1 c1 : Nat) (l1 : List Int) (w : World) (s0 : Sl .i64 w A0 n0 c0 l0) (b0 : ∀ x ∈ l0, (Lit.int .i64 x).wf = true) (z0 : c0 * 8 ≤ 140737488351232) (s1 : Sl .i64 w A1 n1 c1 l1) (b1 : ∀ x ∈ l1, (Lit.int .i64 x).wf = true) (z1 : c1 * 8 ≤ 140737488351232) :
    Calls Try.prog 9 #[.slice A0 n0 c0, .slice A1 n1 c1] w fun e w' => e = .returned (.bool true) ∧ Below w.heap.size w w' := by
  obtain ⟨i0, hi, hz0, hz1, hz2⟩ := info_parts u8_info
  have S := Lib.hid s0
  have S1 := Lib.hid s1
  clear s0 b0 z0 s1 b1 z1
  go_enter Try.func9, Try.ntmps9
  go_wp2_with fail
  refine (works_true w).mono ?_
  rintro e w1 ⟨rfl, hb1⟩
  go_wp2_with fail
  refine (ltext_any _ _ _ _ _ (S.out.below hb1)).mono ?_
  rintro e w2 ⟨v2, cs, rfl, hc, hl, o2, hb2⟩
  obtain ⟨A2, c2, rfl, t2, _⟩ := o2.sl
  have B2 := Lib.hid (ext_trans hb1 hb2)
  have T2 := Lib.hid t2
  have HC := Lib.hid hc
  have hu := uns_len hc
  clear hb1 hb2 o2 t2 hc
  go_wp2_with fail
  refine (ltext_any _ _ _ _ _ (S1.out.below B2.out)).mono ?_
  rintro e w3 ⟨v3, ds, rfl, hd, hl', o3, hb3⟩
  obtain ⟨A3, c3, rfl, t3, _⟩ := o3.sl
  have B3 := Lib.hid (ext_trans B2.out hb3)
  have T23 := Lib.hid (T2.out.below hb3)
  have T3 := Lib.hid t3
  have HD := Lib.hid hd
  have hv := uns_len hd
  clear hb3 o3 t3 hd
  go_wp2_with fail
  refine (of_txt _ _ _ _ _ HC.out T23.out).mono ?_
  rintro e w' ⟨rfl, rfl⟩
  go_wp2_with fail
  refine (copy_any _ _ _ _ _ T23.out (by omega)).mono ?_
  rintro e w4 ⟨v4, rfl, o4, hb4⟩
  go_wp2_with (at_builtin; refine wp_app rfl _ _ _ rfl _ Try.underlying22 hi hz0 hz1 hz2 rfl rfl o4 rfl (T3.out.below hb4) (by omega) (by unfold maxLen; omega) hb4.size ?_; intro v5 w5 o5 hb5 _)
  obtain ⟨A5, c5, rfl, t5, _⟩ := o5.sl
  have B5 := Lib.hid (hb4.trans hb5)
  rw [← encs_append] at t5 ⊢
  have T5 := Lib.hid t5
  have HCD := Lib.hid (HC.out.append HD.out)
  have EP := Lib.hid (ends_pre cs (post := ds) (Nat.le_refl _))
  rw [Nat.sub_self, show ends ds 0 = (0, 0) from by cases ds with
    | nil => rfl
    | cons d ds => exact ends_stop (by rcases us_len d with g | g <;> omega)] at EP
  clear o4 hb4 o5 hb5 t5
  generalize hy : (uns cs).length = y at *
  have HY := Lib.hid hy
  clear hy
  refine (offset_txt _ _ _ _ _ HCD.out T5.out y (by omega)).mono ?_
  rintro e w' ⟨rfl, rfl⟩
  rw [EP.out]
  dsimp only [Nat.add_zero]
  generalize (encs cs).length = x at *
  have q1 : ((x : Int) == (x : Int)) = true := by simp
  go_wp2
  go_ret
  exact ⟨rfl, ext_trans B3.out B5.out⟩
end Go.Proofs.Ytogljfblcbegbaa
