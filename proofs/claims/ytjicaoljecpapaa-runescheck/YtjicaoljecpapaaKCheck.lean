/-
  The walk of RunesCheck.
-/
import Derived.Test.YtjicaoljecpapaaWq
import Derived.Test.YtjicaoljecpapaaWp
namespace Go.Proofs.Ytjicaoljecpapaa
set_option linter.unusedVariables false
open Go.RowKit Go.ChangeShapes Go.WideShapes
open Utf Wd Wr We Wi Wf

set_option maxHeartbeats 800000 in
theorem walk_RunesCheck (A0 : Option Addr) (n0 c0 : Nat) (l0 : List Int) (w : World) (s0 : Sl .u8 w A0 n0 c0 l0) (b0 : ∀ x ∈ l0, (Lit.int .u8 x).wf = true) (z0 : c0 * 1 ≤ 140737488351232) :
    Calls Try.prog 5 #[.slice A0 n0 c0] w fun e w' => e = .returned (.bool true) ∧ Below w.heap.size w w' := by
  have hB := isB_of b0
  have hle := s0.le
  obtain ⟨x, y, e, hd⟩ : ∃ x y e, chk l0 = (x, y, e) := ⟨_, _, _, rfl⟩
  have S := Lib.hid s0
  have HB := Lib.hid hB
  have HD := Lib.hid hd
  have q1 : ((x : Int) == (x : Int)) = true := by simp
  have q2 : (cnt y e == cnt y e) = true := by simp
  have q3 : (e == e) = true := by simp
  have hx : n0 ≤ 140737488351232 := by omega
  clear s0 b0 hB hd z0
  go_enter Try.func5, Try.ntmps5
  go_wp2_with fail
  refine (copy_any _ _ _ l0 _ S.out (by omega)).mono ?_
  rintro r w1 ⟨v1, rfl, ho1, hb1⟩
  obtain ⟨A1, c1, rfl, t1, _⟩ := ho1.sl
  have T1 := Lib.hid t1
  have HL := Lib.hid S.out.len
  clear t1 ho1
  go_wp2_with fail
  refine (check_at _ _ _ l0 _ T1.out HB.out HD.out).mono ?_
  rintro r w2 ⟨rfl, rfl⟩
  go_wp2_with fail
  refine (rcheck_at _ _ _ l0 _ (S.out.below hb1) HB.out HD.out).mono ?_
  rintro r w2 ⟨rfl, hb2⟩
  have T2 := Lib.hid (T1.out.below hb2)
  have S2 := Lib.hid (S.out.below (ext_trans hb1 hb2))
  go_wp2_with fail
  refine (count_at _ _ _ l0 _ T2.out HB.out HD.out).mono ?_
  rintro r w3 ⟨rfl, rfl⟩
  go_wp2_with fail
  refine (rcount_at _ _ _ l0 _ S2.out HB.out HD.out).mono ?_
  rintro r w3 ⟨rfl, hb3⟩
  have T3 := Lib.hid (T2.out.below hb3)
  have S3 := Lib.hid (S2.out.below hb3)
  generalize cnt y e = K at *
  go_wp2_with fail
  refine (eq_any _ _ _ _ _ _ l0 l0 _ T3.out.row S3.out.row (by unfold maxLen; rw [HL.out]; omega)).mono ?_
  rintro r w4 ⟨rfl, q, rfl⟩
  rw [decide_eq_true rfl]
  go_wp2_with fail
  refine (works_true _).mono ?_
  rintro r w5 ⟨rfl, hb5⟩
  go_wp2
  go_ret
  exact ⟨rfl, ext_trans (below_drewN (ext_trans (ext_trans hb1 hb2) hb3) q) hb5⟩
end Go.Proofs.Ytjicaoljecpapaa
