/-
  The walk of UnitsEnds.
-/
import Derived.Test.YtogljfblcbegbaaUl
import Derived.Test.YtogljfblcbegbaaWp
namespace Go.Proofs.Ytogljfblcbegbaa
set_option linter.unusedVariables false
open Go.RowKit Go.ChangeShapes Go.WideShapes
open Utf Wd Wr We Wi Uw

theorem take_encs (pre post : List Int) : (encs (pre ++ post)).take (encs pre).length = encs pre := by rw [encs_append, List.take_left]

set_option maxRecDepth 100000 in
set_option maxHeartbeats 1600000 in
theorem walk_UnitsEnds (A0 : Option Addr) (n0 c0 : Nat) (l0 : List Int) (a1 : Int) (w : World) (s0 : Sl .i64 w A0 n0 c0 l0) (b0 : ∀ x ∈ l0, (Lit.int .i64 x).wf = true) (z0 : c0 * 8 ≤ 140737488351232) (w1 : (Lit.int .i64 a1).wf = true) :
    Calls Try.prog 8 #[.slice A0 n0 c0, .int .i64 a1] w fun e w' => e = .returned (.bool true) ∧ Below w.heap.size w w' := by
  have hx := i64_of w1
  have S := Lib.hid s0
  clear s0 b0 z0 w1
  go_enter Try.func8, Try.ntmps8
  go_wp2_with fail
  refine (works_true w).mono ?_
  rintro e w1 ⟨rfl, hb1⟩
  go_wp2_with fail
  refine (ltext_any _ _ _ _ _ (S.out.below hb1)).mono ?_
  rintro e w2 ⟨v2, cs, rfl, hc, hl, o2, hb2⟩
  obtain ⟨A2, c2, rfl, t2, _⟩ := o2.sl
  have B2 := Lib.hid (ext_trans hb1 hb2)
  have T2 := Lib.hid t2
  have HC := Lib.hid hc
  have hu := uns_len hc
  clear hb1 hb2 o2 t2 hc
  by_cases hneg : a1 < 0
  · have q1 : decide (a1 < 0) = true := by simpa using hneg
    go_wp2_with fail
    refine (offset_neg _ _ _ _ _ HC.out T2.out a1 hneg).mono ?_
    rintro e w' ⟨rfl, rfl⟩
    go_wp2
    go_ret
    exact ⟨rfl, B2.out⟩
  · obtain ⟨n, rfl⟩ := Int.eq_ofNat_of_zero_le (a := a1) (by omega)
    have q1 : decide ((n : Int) < 0) = false := by simp
    obtain ⟨pre, post, hcs, hen, hpn, hpost⟩ := ends_cut cs n
    have EN := Lib.hid hen
    have hpre : Chars pre := by have := HC.out; rw [hcs] at this; exact this.left
    have HP := Lib.hid hpre
    have hpu := uns_len hpre
    have hxl : (encs pre).length ≤ (encs cs).length := by rw [hcs, encs_append, List.length_append]; omega
    have TP := Lib.hid (by have := T2.out.cut0 (encs pre).length hxl; rw [show (encs cs).take (encs pre).length = encs pre from by rw [hcs]; exact take_encs _ _] at this; exact this : Sl .u8 w2 A2 (encs pre).length c2 (encs pre))
    have q2 : decide ((encs pre).length > (encs cs).length) = false := by simp; omega
    have q3 : decide ((uns pre).length > n) = false := by simp; omega
    have HCS := Lib.hid hcs
    clear hneg hen hpre hcs
    have hle := T2.out.le
    have hmax : c2 ≤ 9223372036854775807 := by have := T2.out.max; unfold maxLen at this; omega
    go_wp2_with fail
    refine (offset_txt _ _ _ _ _ HC.out T2.out n (by omega)).mono ?_
    rintro e w' ⟨rfl, rfl⟩
    rw [EN.out]
    dsimp only
    generalize hX : (encs cs).length = X at *
    have HX := Lib.hid hX
    clear hX
    generalize hP : (encs pre).length = P at *
    have HPl := Lib.hid hP
    clear hP
    cases post with
    | nil =>
      have hXP : X = P := by have := HX.out; rw [HCS.out, List.append_nil, HPl.out] at this; exact this.symm
      subst hXP
      have q4 : ((X : Int) == (X : Int)) = true := by simp
      go_wp2_with fail
      refine (of_txt _ _ _ _ _ HP.out TP.out).mono ?_
      rintro e w' ⟨rfl, rfl⟩
      go_wp2
      go_ret
      exact ⟨rfl, B2.out⟩
    | cons c post =>
      have hcs := HCS.out
      have hlt := hpost c post rfl
      have hf : Utf.form c ≠ 0 := HC.out c (by rw [hcs]; simp)
      have HD := Lib.hid (at_here0 hf hcs)
      rw [HPl.out] at HD
      have hp : 0 < (enc c).length := List.length_pos_iff.2 (enc_ne hf)
      have hq : P + (enc c).length ≤ X := by rw [← HX.out, ← HPl.out, hcs, encs_append, encs_cons, List.length_append, List.length_append]; omega
      have HQ := Lib.hid (HP.out.snoc hf)
      have hcs' : cs = (pre ++ [c]) ++ post := by rw [hcs]; simp
      have hq2 : (encs (pre ++ [c])).length = P + (enc c).length := by rw [encs_snoc, List.length_append, HPl.out]
      have TQ := Lib.hid (by have := T2.out.cut0 (P + (enc c).length) hq; rw [← hq2, show (encs cs).take (encs (pre ++ [c])).length = encs (pre ++ [c]) from by rw [hcs']; exact take_encs _ _, hq2] at this; exact this : Sl .u8 w2 A2 (P + (enc c).length) c2 (encs (pre ++ [c])))
      have q4 : ((P : Int) == (X : Int)) = false := by simp; omega
      have q5 : decide (((uns pre).length : Int) + ((us c).length : Int) > (n : Int)) = true := by simp; omega
      have HUS := Lib.hid (show (((uns (pre ++ [c])).length : Nat) : Int) = ((uns pre).length : Int) + ((us c).length : Int) from by rw [uns_snoc, List.length_append]; rfl)
      have HB := Lib.hid (encs_byte cs)
      clear hpost hcs hcs' hf hq2
      generalize (enc c).length = z at *
      go_wp2_with fail
      refine (of_txt _ _ _ _ _ HP.out TP.out).mono ?_
      rintro e w' ⟨rfl, rfl⟩
      go_wp2_with fail
      refine (decode_at _ _ _ _ _ _ T2.out HB.out HD.out).mono ?_
      rintro e w' ⟨rfl, rfl⟩
      go_wp2_with fail
      refine (of_txt _ _ _ _ _ HQ.out TQ.out).mono ?_
      rintro e w' ⟨rfl, rfl⟩
      rw [HUS.out]
      go_wp2
      go_ret
      exact ⟨rfl, B2.out⟩
end Go.Proofs.Ytogljfblcbegbaa
