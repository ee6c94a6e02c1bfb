/-
  The walk of LinesFind.
-/
import Derived.Test.YtlicfeepmhaemaaRc
import Derived.Test.YtlicfeepmhaemaaWp
namespace Go.Proofs.Ytlicfeepmhaemaa
set_option linter.unusedVariables false
set_option linter.unusedSimpArgs false
open Go.RowKit Go.ChangeShapes Go.WideShapes
open Utf Wd Wr We Wi Lm Lc

set_option maxRecDepth 100000 in
set_option maxHeartbeats 1600000 in
theorem walk_LinesFind (A0 : Option Addr) (n0 c0 : Nat) (l0 : List Int) (a1 : Int) (w : World) (s0 : Sl .u8 w A0 n0 c0 l0) (b0 : ∀ x ∈ l0, (Lit.int .u8 x).wf = true) (z0 : c0 * 1 ≤ 140737488351232) (u0 : c0 ≤ 1048576) (w1 : (Lit.int .i64 a1).wf = true) :
    Calls Try.prog 4 #[.slice A0 n0 c0, .int .i64 a1] w fun e w' => e = .returned (.bool true) ∧ Below w.heap.size w w' := by
  have hx1 := i64_of w1
  have S := Lib.hid s0
  have hB := isB_of b0
  have hnle := s0.le
  have hlen := s0.len
  clear s0 b0 z0 w1
  obtain ⟨x, y, e, hch⟩ : ∃ x y e, chk l0 = (x, y, e) := ⟨_, _, _, rfl⟩
  have HC := Lib.hid hch
  clear hch
  go_enter Try.func4, Try.ntmps4
  go_wp2_with fail
  by_cases he : e = 0
  · subst he
    refine (new_ok _ _ _ _ _ S.out hB HC.out (by omega)).mono ?_
    rintro e w2 ⟨P, rfl, hI, hb2⟩
    have B2 := Lib.hid hb2
    have I2 := Lib.hid hI
    have OK := Lib.hid (ok_lns l0 (by omega))
    have S2 := Lib.hid (S.out.below hb2)
    clear hb2 hI
    go_wp2_with fail
    refine (rnew_ok _ _ _ _ _ S2.out hB HC.out (by omega)).mono ?_
    rintro e w3 ⟨X, vw, vp, rfl, hbi, hb3⟩
    have B3 := Lib.hid (ext_trans B2.out hb3)
    have I3 := Lib.hid (I2.out.ext hb3)
    have BI := Lib.hid hbi
    clear hb3 hbi
    by_cases hin : 0 ≤ a1 ∧ a1 ≤ (n0 : Int)
    · obtain ⟨k, rfl⟩ := Int.eq_ofNat_of_zero_le hin.1
      go_wp2_with fail
      refine (find_ok _ P (lns l0) l0.length k w3 I3.out OK.out (by omega)).mono ?_
      rintro e w4 ⟨r, rfl, hp, hb4⟩
      have B4 := Lib.hid (ext_trans B3.out hb4)
      have BI4 := Lib.hid (BI.out.ext hb4)
      have PR := Lib.hid hp
      clear hb4 hp
      go_wp2_with fail
      refine (rfind_ok l0 k w4 BI4.out (by omega) (by omega)).mono ?_
      rintro e w' ⟨s, rfl, hrf, rfl⟩
      obtain rfl : r = s := rfnd_same (by omega) hrf PR.out
      clear hrf
      have q1 : ((r : Int) == (r : Int)) = true := by simp
      go_wp2_with fail
      refine (works_true w4).mono ?_
      rintro e' w5 ⟨rfl, hb5⟩
      have B5 := Lib.hid (ext_trans B4.out hb5)
      clear hb5
      go_wp2_with fail
      go_ret
      exact ⟨rfl, B5.out⟩
    · have hout : a1 < 0 ∨ (l0.length : Int) < a1 := by omega
      have HO := Lib.hid hout
      clear hin hout
      go_wp2_with fail
      refine (find_out _ P (lns l0) l0.length a1 w3 I3.out OK.out HO.out).mono ?_
      rintro e w4 ⟨rfl, hb4⟩
      have B4 := Lib.hid (ext_trans B3.out hb4)
      have BI4 := Lib.hid (BI.out.ext hb4)
      clear hb4
      go_wp2_with fail
      refine (rfind_out l0 a1 w4 BI4.out HO.out (by omega)).mono ?_
      rintro e w' ⟨rfl, rfl⟩
      go_wp2_with fail
      refine (works_true w4).mono ?_
      rintro e' w5 ⟨rfl, hb5⟩
      have B5 := Lib.hid (ext_trans B4.out hb5)
      clear hb5
      go_wp2_with fail
      go_ret
      exact ⟨rfl, B5.out⟩
  · refine (new_bad _ _ _ _ _ S.out hB HC.out he).mono ?_
    rintro e' w2 ⟨rfl, rfl⟩
    go_wp2_with fail
    refine (rnew_bad _ _ _ _ _ S.out hB HC.out he).mono ?_
    rintro e' w2 ⟨rfl, hb2⟩
    have d : (e != 0) = true := by simpa using he
    have d2 : (e != e) = false := by simp
    have HB := Lib.hid hb2
    clear hb2 he
    go_wp2_with fail
    refine (works_true w2).mono ?_
    rintro e' w5 ⟨rfl, hb5⟩
    have B5 := Lib.hid (ext_trans HB.out hb5)
    clear hb5
    go_wp2_with fail
    go_ret
    exact ⟨rfl, B5.out⟩
end Go.Proofs.Ytlicfeepmhaemaa
