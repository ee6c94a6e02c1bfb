/-
  The walk of UnitsBad.
-/
import Derived.Test.YtogljfblcbegbaaUl
import Derived.Test.YtogljfblcbegbaaWp
namespace Go.Proofs.Ytogljfblcbegbaa
set_option linter.unusedVariables false
open Go.RowKit Go.ChangeShapes Go.WideShapes
open Utf Wd Wr We Wi Uw

set_option maxRecDepth 100000 in
set_option maxHeartbeats 1600000 in
theorem walk_UnitsBad (A0 : Option Addr) (n0 c0 : Nat) (l0 : List Int) (a1 : Int) (w : World) (s0 : Sl .u8 w A0 n0 c0 l0) (b0 : ∀ x ∈ l0, (Lit.int .u8 x).wf = true) (z0 : c0 * 1 ≤ 140737488351232) (w1 : (Lit.int .i64 a1).wf = true) :
    Calls Try.prog 12 #[.slice A0 n0 c0, .int .i64 a1] w fun e w' => e = .returned (.bool true) ∧ Below w.heap.size w w' := by
  have hx1 := i64_of w1
  have hB := isB_of b0
  have hle := s0.le
  have hlen := s0.len
  obtain ⟨m, hm⟩ := Int.eq_ofNat_of_zero_le (Int.emod_nonneg a1 (b := 1099511627776) (by omega))
  have hm1 := Int.emod_lt_of_pos a1 (b := 1099511627776) (by omega)
  rw [hm] at hm1
  have HM := Lib.hid hm
  clear b0 w1 hm
  rcases txt_or hB with ⟨cs, hc, rfl⟩ | ⟨x, y, er, he, hk⟩
  · have S := Lib.hid s0
    have HC := Lib.hid hc
    have hu := uns_len hc
    rw [hlen] at hu
    have hy : (uns cs).length ≤ 140737488355328 := by omega
    have K := Lib.hid (chk_encs hc)
    clear s0 hc hB z0 hlen
    go_enter Try.func12, Try.ntmps12
    go_wp2_with fail
    refine (works_true w).mono ?_
    rintro e w1 ⟨rfl, hb1⟩
    have S1 := Lib.hid (S.out.below hb1)
    go_wp2_with fail
    refine (check_at _ _ _ _ _ S1.out (encs_byte _) K.out).mono ?_
    rintro e w' ⟨rfl, rfl⟩
    go_wp2_with fail
    refine (of_txt _ _ _ _ _ HC.out S1.out).mono ?_
    rintro e w' ⟨rfl, rfl⟩
    go_wp2_with fail
    refine (of16_txt _ _ _ _ _ HC.out S1.out hy).mono ?_
    rintro e w2 ⟨v2, rfl, o2, hb2⟩
    have S2 := Lib.hid (S1.out.below hb2)
    go_wp2_with fail
    refine (bring_at a1 1099511627776 (by omega) (by omega) hx1.1 hx1.2 _ HM.out).mono ?_
    rintro e w' ⟨rfl, rfl⟩
    go_wp2_with fail
    refine (offset_txt _ _ _ _ _ HC.out S2.out m (by omega)).mono ?_
    rintro e w' ⟨rfl, rfl⟩
    go_wp2
    go_ret
    exact ⟨rfl, ext_trans hb1 hb2⟩
  · have S := Lib.hid s0
    have HB := Lib.hid hB
    have K := Lib.hid hk
    have HE := Lib.hid he
    have q1 : (er == er) = true := by simp
    have q2 : (er == 0) = false := by simpa using he
    clear s0 hB z0 hlen hk he
    go_enter Try.func12, Try.ntmps12
    go_wp2_with fail
    refine (works_true w).mono ?_
    rintro e w1 ⟨rfl, hb1⟩
    have S1 := Lib.hid (S.out.below hb1)
    go_wp2_with fail
    refine (check_at _ _ _ _ _ S1.out HB.out K.out).mono ?_
    rintro e w' ⟨rfl, rfl⟩
    go_wp2_with fail
    refine (of_bad _ _ _ _ _ S1.out HB.out K.out HE.out).mono ?_
    rintro e w' ⟨rfl, rfl⟩
    go_wp2_with fail
    refine (of16_bad _ _ _ _ _ S1.out HB.out K.out HE.out).mono ?_
    rintro e w' ⟨rfl, rfl⟩
    go_wp2_with fail
    refine (bring_at a1 1099511627776 (by omega) (by omega) hx1.1 hx1.2 _ HM.out).mono ?_
    rintro e w' ⟨rfl, rfl⟩
    go_wp2_with fail
    refine (offset_bad _ _ _ _ _ S1.out HB.out _ K.out HE.out).mono ?_
    rintro e w' ⟨rfl, rfl⟩
    go_wp2
    go_ret
    exact ⟨rfl, hb1⟩
end Go.Proofs.Ytogljfblcbegbaa
