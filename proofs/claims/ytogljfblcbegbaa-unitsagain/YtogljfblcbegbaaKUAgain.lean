/-
  The walk of UnitsAgain.
-/
import Derived.Test.YtogljfblcbegbaaUl
import Derived.Test.YtogljfblcbegbaaWp
namespace Go.Proofs.Ytogljfblcbegbaa
set_option linter.unusedVariables false
open Go.RowKit Go.ChangeShapes Go.WideShapes
open Utf Wd Wr We Wi Uw

theorem is16_of {l : List Int} (h : ∀ x ∈ l, (Lit.int .u16 x).wf = true) : Is16 l := fun x hx => by
  have := h x hx
  simpa [Lit.wf, IntKind.min, IntKind.max, IntKind.signed, IntKind.bits] using this

set_option maxRecDepth 100000 in
set_option maxHeartbeats 1600000 in
theorem walk_UnitsAgain (A0 : Option Addr) (n0 c0 : Nat) (l0 : List Int) (w : World) (s0 : Sl .u16 w A0 n0 c0 l0) (b0 : ∀ x ∈ l0, (Lit.int .u16 x).wf = true) (z0 : c0 * 2 ≤ 140737488351232) :
    Calls Try.prog 7 #[.slice A0 n0 c0] w fun e w' => e = .returned (.bool true) ∧ Below w.heap.size w w' := by
  have h16 := is16_of b0
  have hle := s0.le
  have hun := uns_ch l0.length l0 h16 (Nat.le_refl _)
  have hlen := s0.len
  have S := Lib.hid s0
  have H16 := Lib.hid h16
  have HU := Lib.hid hun
  have HL := Lib.hid hlen
  have hn : n0 ≤ 70368744175616 := by omega
  clear s0 b0 z0 h16 hun hlen
  cases hok : okB (ch l0)
  · have OK := Lib.hid hok
    clear hok
    go_enter Try.func7, Try.ntmps7
    go_wp2_with fail
    refine (works_true w).mono ?_
    rintro e w1 ⟨rfl, hb1⟩
    go_wp2_with fail
    refine (text_no _ _ _ _ _ (S.out.below hb1) H16.out hn OK.out).mono ?_
    rintro e w2 ⟨rfl, hb2⟩
    go_wp2
    go_ret
    exact ⟨rfl, ext_trans hb1 hb2⟩
  · have hc := okB_true.1 hok
    have HC := Lib.hid hc
    have hul := uns_len hc
    rw [HU.out, HL.out] at hul
    have K := Lib.hid (chk_encs hc)
    clear hok hc
    go_enter Try.func7, Try.ntmps7
    go_wp2_with fail
    refine (works_true w).mono ?_
    rintro e w1 ⟨rfl, hb1⟩
    go_wp2_with fail
    refine (text_ok _ _ _ _ _ (S.out.below hb1) H16.out hn HC.out).mono ?_
    rintro e w2 ⟨v2, rfl, o2, hb2⟩
    obtain ⟨A2, c2, rfl, t2, _⟩ := o2.sl
    have B2 := Lib.hid (ext_trans hb1 hb2)
    have T2 := Lib.hid t2
    clear hb1 hb2 o2 t2
    go_wp2_with fail
    refine (of16_txt _ _ _ _ _ HC.out T2.out (by rw [HU.out, HL.out]; omega)).mono ?_
    rintro e w3 ⟨v3, rfl, o3, hb3⟩
    rw [HU.out] at o3
    obtain ⟨A3, c3, rfl, t3, _⟩ := o3.sl
    have T3 := Lib.hid t3
    have T2' := Lib.hid (T2.out.below hb3)
    have B3 := Lib.hid (ext_trans B2.out hb3)
    clear o3 hb3 t3
    go_wp2_with fail
    refine (check_at _ _ _ _ _ T2'.out (encs_byte _) K.out).mono ?_
    rintro e w' ⟨rfl, rfl⟩
    go_wp2_with fail
    refine (same_any _ _ _ _ _ _ l0 l0 _ T3.out.row (S.out.below B3.out).row (by rw [HL.out]; unfold maxLen; omega)).mono ?_
    rintro e w' ⟨rfl, q, rfl⟩
    rw [show decide (l0 = l0) = true from decide_eq_true rfl]
    go_wp2
    go_ret
    exact ⟨rfl, below_drewN B3.out q⟩
end Go.Proofs.Ytogljfblcbegbaa
