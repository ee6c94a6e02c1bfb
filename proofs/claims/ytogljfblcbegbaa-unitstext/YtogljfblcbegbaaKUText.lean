/-
  The walk of UnitsText.
-/
import Derived.Test.YtogljfblcbegbaaUt
import Derived.Test.YtogljfblcbegbaaWp
namespace Go.Proofs.Ytogljfblcbegbaa
set_option linter.unusedVariables false
open Go.RowKit Go.ChangeShapes Go.WideShapes
open Utf Wd Wr We Wi Wf Uw

theorem is16_wf {l : List Int} (h : ∀ x ∈ l, (Lit.int .u16 x).wf = true) : Is16 l := fun x hx => by
  have := h x hx
  simpa [Lit.wf, IntKind.min, IntKind.max, IntKind.signed, IntKind.bits] using this

/-- what Text answers, as a slice and an error -/
def TextSl (w : World) (r : List Int) (er : Int) (e : Ending) (w' : World) : Prop := ∃ A n c, e = .returned (.tuple #[.slice A n c, .int .i64 er]) ∧ Sl .u8 w' A n c r ∧ Below w.heap.size w w'
/-- both answer the same, whatever the units -/
theorem both_text (l : List Int) (h16 : Is16 l) : ∃ (r : List Int) (er : Int),
    (∀ A n cp (w : World), Sl .u16 w A n cp l → n ≤ 70368744175616 → Calls Try.prog 24 #[.slice A n cp] w (TextSl w r er)) ∧
    (∀ A n cp (w : World), Sl .u16 w A n cp l → n ≤ 70368744175616 → Calls Try.prog 25 #[.slice A n cp] w (TextSl w r er)) := by
  cases hok : okB (ch l)
  · refine ⟨[], 10, fun A n cp w s hn => (text_any A n cp l w s h16 hn).mono ?_, fun A n cp w s hn => (rtext_any A n cp l w s h16 hn).mono ?_⟩
    all_goals
      rintro e w' ⟨hb, ⟨h, _⟩ | ⟨_, h⟩⟩
      · rw [hok] at h; cases h
      · exact ⟨none, 0, 0, h, Sl.none_, hb⟩
  · refine ⟨encs (ch l), 0, fun A n cp w s hn => (text_any A n cp l w s h16 hn).mono ?_, fun A n cp w s hn => (rtext_any A n cp l w s h16 hn).mono ?_⟩
    all_goals
      rintro e w' ⟨hb, ⟨_, v, he, ho⟩ | ⟨h, _⟩⟩
      · obtain ⟨A, c, rfl, t, _⟩ := ho.sl
        exact ⟨A, _, c, he, t, hb⟩
      · rw [hok] at h; cases h

set_option maxRecDepth 100000 in
set_option maxHeartbeats 1600000 in
theorem walk_UnitsText (A0 : Option Addr) (n0 c0 : Nat) (l0 : List Int) (w : World) (s0 : Sl .u16 w A0 n0 c0 l0) (b0 : ∀ x ∈ l0, (Lit.int .u16 x).wf = true) (z0 : c0 * 2 ≤ 140737488351232) :
    Calls Try.prog 5 #[.slice A0 n0 c0] w fun e w' => e = .returned (.bool true) ∧ Below w.heap.size w w' := by
  obtain ⟨i0, hi, hz0, hz1, hz2⟩ := info_parts u16_info
  obtain ⟨r, er, h1, h2⟩ := both_text l0 (is16_wf b0)
  have hle := s0.le
  have hlen := s0.len
  have S := Lib.hid s0
  have H1 := Lib.hid h1
  have H2 := Lib.hid h2
  have HL := Lib.hid hlen
  have hn : n0 ≤ 70368744175616 := by omega
  have q2 : (er == er) = true := by simp
  clear s0 b0 z0 h1 h2 hlen
  go_enter Try.func5, Try.ntmps5
  go_wp2_with (at_builtin; refine wp_app rfl _ _ _ rfl w.heap.size Try.underlying27 hi hz0 hz1 hz2 rfl (v := .slice none 0 0) (l := []) rfl Own.nil rfl S.out (by simp; omega) (by simp [maxLen]; omega) (Nat.le_refl _) ?_; intro v1 w1 o1 hb1 _)
  rw [List.nil_append] at o1
  obtain ⟨A1, c1, rfl, t1, _⟩ := o1.sl
  rw [HL.out] at t1
  rw [HL.out]
  have T1 := Lib.hid t1
  have S1 := Lib.hid (S.out.below hb1)
  clear t1 o1
  go_wp2_with fail
  refine (H1.out _ _ _ _ T1.out hn).mono ?_
  rintro e w2 ⟨A2, n2, c2, rfl, t2, hb2⟩
  have T2 := Lib.hid t2
  have T12 := Lib.hid (T1.out.below hb2)
  have S2 := Lib.hid (S1.out.below hb2)
  have B2 := Lib.hid (ext_trans hb1 hb2)
  clear t2 hb2 hb1
  go_wp2_with fail
  refine (H2.out _ _ _ _ S2.out hn).mono ?_
  rintro e w3 ⟨A3, n3, c3, rfl, t3, hb3⟩
  have T23 := Lib.hid (T2.out.below hb3)
  have T13 := Lib.hid (T12.out.below hb3)
  have S3 := Lib.hid (S2.out.below hb3)
  have B3 := Lib.hid (ext_trans B2.out hb3)
  have T3 := Lib.hid t3
  clear t3 hb3
  go_wp2_with fail
  refine (eq_any _ _ _ _ _ _ r r _ T23.out.row T3.out.row (by have := T2.out.le; have := T2.out.max; omega)).mono ?_
  rintro e w4 ⟨rfl, q, rfl⟩
  rw [show decide (r = r) = true from decide_eq_true rfl]
  go_wp2_with fail
  refine (same_any _ _ _ _ _ _ l0 l0 _ (T13.out.drewN q).row (S3.out.drewN q).row (by unfold maxLen; omega)).mono ?_
  rintro e w5 ⟨rfl, q', rfl⟩
  rw [show decide (l0 = l0) = true from decide_eq_true rfl]
  go_wp2_with fail
  refine (works_true _).mono ?_
  rintro e w6 ⟨rfl, hb6⟩
  go_wp2
  go_ret
  exact ⟨rfl, ext_trans (below_drewN B3.out (q + q')) hb6⟩
end Go.Proofs.Ytogljfblcbegbaa
