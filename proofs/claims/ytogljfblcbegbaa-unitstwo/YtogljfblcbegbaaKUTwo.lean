/-
  The walk of UnitsTwo.
-/
import Derived.Test.YtogljfblcbegbaaUl
import Derived.Test.YtogljfblcbegbaaWp
namespace Go.Proofs.Ytogljfblcbegbaa
set_option linter.unusedVariables false
open Go.RowKit Go.ChangeShapes Go.WideShapes
open Utf Wd Wr We Wi Uw

set_option maxRecDepth 100000 in
set_option maxHeartbeats 1600000 in
theorem walk_UnitsTwo (A0 : Option Addr) (n0 c0 : Nat) (l0 : List Int) (A1 : Option Addr) (n1 c1 : Nat) (l1 : List Int) (w : World) (s0 : Sl .i64 w A0 n0 c0 l0) (b0 : ∀ x ∈ l0, (Lit.int .i64 x).wf = true) (z0 : c0 * 8 ≤ 140737488351232) (s1 : Sl .i64 w A1 n1 c1 l1) (b1 : ∀ x ∈ l1, (Lit.int .i64 x).wf = true) (z1 : c1 * 8 ≤ 140737488351232) :
    Calls Try.prog 11 #[.slice A0 n0 c0, .slice A1 n1 c1] w fun e w' => e = .returned (.bool true) ∧ Below w.heap.size w w' := by
  obtain ⟨i0, hi, hz0, hz1, hz2⟩ := info_parts u8_info
  obtain ⟨j0, ji, jz0, jz1, jz2⟩ := info_parts u16_info
  have S := Lib.hid s0
  have S1 := Lib.hid s1
  clear s0 b0 z0 s1 b1 z1
  go_enter Try.func11, Try.ntmps11
  go_wp2_with fail
  refine (works_true w).mono ?_
  rintro e w1 ⟨rfl, hb1⟩
  go_wp2_with fail
  refine (ltext_any _ _ _ _ _ (S.out.below hb1)).mono ?_
  rintro e w2 ⟨v2, cs, rfl, hc, hl, o2, hb2⟩
  obtain ⟨A2, c2, rfl, t2, _⟩ := o2.sl
  have B2 := Lib.hid (ext_trans hb1 hb2)
  have T2 := Lib.hid t2
  have HC := Lib.hid hc
  have hu := uns_len hc
  clear hb1 hb2 o2 t2 hc
  go_wp2_with fail
  refine (ltext_any _ _ _ _ _ (S1.out.below B2.out)).mono ?_
  rintro e w3 ⟨v3, ds, rfl, hd, hl', o3, hb3⟩
  obtain ⟨A3, c3, rfl, t3, _⟩ := o3.sl
  have B3 := Lib.hid (ext_trans B2.out hb3)
  have T23 := Lib.hid (T2.out.below hb3)
  have T3 := Lib.hid t3
  have HD := Lib.hid hd
  have hv := uns_len hd
  clear hb3 o3 t3 hd
  go_wp2_with fail
  refine (of16_txt _ _ _ _ _ HC.out T23.out (by omega)).mono ?_
  rintro e w4 ⟨v4, rfl, o4, hb4⟩
  have O4 := Lib.hid o4
  have B4 := Lib.hid hb4
  have T24 := Lib.hid (T23.out.below hb4)
  have T34 := Lib.hid (T3.out.below hb4)
  clear o4 hb4
  go_wp2_with fail
  refine (of16_txt _ _ _ _ _ HD.out T34.out (by omega)).mono ?_
  rintro e w5 ⟨v5, rfl, o5, hb5⟩
  obtain ⟨A5, c5, rfl, t5, _⟩ := o5.sl
  have T5 := Lib.hid t5
  have O45 := Lib.hid (O4.out.below hb5 (fun g hg => (O4.out.lt hg).2))
  have B5 := Lib.hid (ext_trans B4.out hb5)
  have T25 := Lib.hid (T24.out.below hb5)
  have T35 := Lib.hid (T34.out.below hb5)
  have L4 := Lib.hid (fun g (hg : v4.ownBlock = some g) => Nat.lt_of_lt_of_le (O4.out.lt hg).2 hb5.size)
  clear o5 t5 hb5
  go_wp2_with fail
  refine (copy_any _ _ _ _ _ T25.out (by omega)).mono ?_
  rintro e w6 ⟨v6, rfl, o6, hb6⟩
  go_wp2_with (at_builtin; refine wp_app rfl _ _ _ rfl _ Try.underlying22 hi hz0 hz1 hz2 rfl rfl o6 rfl (T35.out.below hb6) (by omega) (by unfold maxLen; omega) hb6.size ?_; intro v7 w7 o7 hb7 _)
  obtain ⟨A7, c7, rfl, t7, _⟩ := o7.sl
  have hb57 := hb6.trans hb7
  rw [← encs_append] at t7 ⊢
  have T7 := Lib.hid t7
  have O47 := Lib.hid (O45.out.below hb57 (fun g hg => L4.out g hg))
  have T57 := Lib.hid (T5.out.below hb57)
  have B7 := Lib.hid (ext_trans B5.out hb57)
  have L47 := Lib.hid (fun g (hg : v4.ownBlock = some g) => Nat.lt_of_lt_of_le (L4.out g hg) hb57.size)
  have HCD := Lib.hid (HC.out.append HD.out)
  have hcd := uns_len HCD.out
  rw [encs_append, uns_append, List.length_append, List.length_append] at hcd
  clear o6 hb6 o7 hb7 t7 hb57
  refine (of16_txt _ _ _ _ _ HCD.out T7.out (by rw [uns_append, List.length_append]; omega)).mono ?_
  rintro e w8 ⟨v8, rfl, o8, hb8⟩
  have O8 := Lib.hid o8
  have O48 := Lib.hid (O47.out.below hb8 (fun g hg => L47.out g hg))
  have T58 := Lib.hid (T57.out.below hb8)
  have B8 := Lib.hid (ext_trans B7.out hb8)
  have hs38 := B8.out.size
  clear o8 hb8
  go_wp2_with (at_builtin; refine wp_unguard (by rfl) ?_; refine wp_app rfl _ _ _ rfl _ Try.underlying27 ji jz0 jz1 jz2 rfl rfl O48.out rfl T58.out (by omega) (by unfold maxLen; omega) hs38 ?_; intro v9 w9 o9 hb9 hg9)
  have O89 : Own .u16 31 w9 w7.heap.size v8 (uns (cs ++ ds)) := by
    cases g8 : v8.ownBlock with
    | none => exact O8.out.below hb9 (fun g hg => by rw [g8] at hg; cases hg)
    | some g =>
      refine O8.out.kept hg9 (fun h => ?_)
      have h1 := (O8.out.lt g8).1
      rw [g8] at h
      have h2 := L47.out g h.symm
      omega
  obtain ⟨A8, c8, rfl, t8, _⟩ := O89.sl
  obtain ⟨A9, c9, rfl, t9, _⟩ := o9.sl
  have T8 := Lib.hid t8
  have T9 := Lib.hid t9
  have hl8 : (uns (cs ++ ds)).length ≤ 4800 := by rw [uns_append, List.length_append]; omega
  have B9 := Lib.hid (B8.out.trans hb9)
  clear t8 t9 o9 hb9 hg9 O89
  refine (same_any _ _ _ _ _ _ (uns (cs ++ ds)) (uns cs ++ uns ds) _ T8.out.row T9.out.row (by unfold maxLen; omega)).mono ?_
  rintro e w' ⟨rfl, q, rfl⟩
  rw [show decide (uns (cs ++ ds) = uns cs ++ uns ds) = true from decide_eq_true (uns_append _ _)]
  go_wp2
  go_ret
  exact ⟨rfl, below_drewN (ext_trans B3.out B9.out) q⟩
end Go.Proofs.Ytogljfblcbegbaa
