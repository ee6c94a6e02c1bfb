/-
  The walk of RunesTwo.
-/
import Derived.Test.YtjicaoljecpapaaWc
import Derived.Test.YtjicaoljecpapaaWp
namespace Go.Proofs.Ytjicaoljecpapaa
set_option linter.unusedVariables false
open Go.RowKit Go.ChangeShapes Go.WideShapes
open Utf Wd Wr We Wi

set_option maxRecDepth 100000 in
set_option maxHeartbeats 1600000 in
theorem walk_RunesTwo (A0 : Option Addr) (n0 c0 : Nat) (l0 : List Int) (A1 : Option Addr) (n1 c1 : Nat) (l1 : List Int) (w : World) (s0 : Sl .u8 w A0 n0 c0 l0) (b0 : ∀ x ∈ l0, (Lit.int .u8 x).wf = true) (z0 : c0 * 1 ≤ 140737488351232) (s1 : Sl .u8 w A1 n1 c1 l1) (b1 : ∀ x ∈ l1, (Lit.int .u8 x).wf = true) (z1 : c1 * 1 ≤ 140737488351232) :
    Calls Try.prog 10 #[.slice A0 n0 c0, .slice A1 n1 c1] w fun e w' => e = .returned (.bool true) ∧ Below w.heap.size w w' := by
  obtain ⟨i0, hi, hz0, hz1, hz2⟩ := info_parts u8_info
  have hB1 := (isB_of b0).take 1000
  have hB2 := (isB_of b1).take 1000
  have hle0 := s0.le
  have hle1 := s1.le
  obtain ⟨m0, t0, g0, k0, hm0⟩ := s0.most 1000
  obtain ⟨m1, t1, g1, k1, hm1⟩ := s1.most 1000
  have hl0 := t0.len
  have T0 := Lib.hid t0
  have T1 := Lib.hid t1
  have HB0 := Lib.hid hB1
  have HB1 := Lib.hid hB2
  have HBB := Lib.hid (hB1.append hB2)
  have hx0 : c0 ≤ 140737488351232 := by omega
  have hx1 : c1 ≤ 140737488351232 := by omega
  have L0 := List.length_take_le 1000 l0
  have L1 := List.length_take_le 1000 l1
  have HL0 := Lib.hid hl0
  have la := chk_append (l0.take 1000).length (l0.take 1000) (l1.take 1000) hB1 hB2 (Nat.le_refl _)
  have lb := chk_le _ (l1.take 1000) hB2 (Nat.le_refl _)
  have lc := chk_le _ (l0.take 1000) hB1 (Nat.le_refl _)
  have ld := chk_le _ (l0.take 1000 ++ l1.take 1000) HBB.out (Nat.le_refl _)
  obtain ⟨x0, y0, e0, h0⟩ : ∃ x y e, chk (l0.take 1000) = (x, y, e) := ⟨_, _, _, rfl⟩
  obtain ⟨x1, y1, e1, h1⟩ : ∃ x y e, chk (l1.take 1000) = (x, y, e) := ⟨_, _, _, rfl⟩
  obtain ⟨x2, y2, e2, h2⟩ : ∃ x y e, chk (l0.take 1000 ++ l1.take 1000) = (x, y, e) := ⟨_, _, _, rfl⟩
  rw [h0, h1, h2, hl0] at la
  rw [h1] at lb
  rw [h0] at lc
  rw [h2, List.length_append] at ld
  simp only [Prod.mk.injEq] at la lb lc ld
  have hy0 : y0 ≤ 1000 := by omega
  have hy1 : y1 ≤ 1000 := by omega
  have hx1' : x1 ≤ 1000 := by omega
  have hx2' : x2 ≤ 2000 := by omega
  have H0 := Lib.hid h0
  have H1 := Lib.hid h1
  have H2 := Lib.hid h2
  clear s0 s1 b0 b1 z0 z1 hB1 hB2 t0 t1 hl0 lb lc ld h0 h1 h2
  by_cases he0 : e0 = 0
  · obtain ⟨rfl, rfl, rfl⟩ := la he0
    subst he0
    clear la
    have f1 : (((m0 + x1 : Nat) : Int) == (m0 : Int) + (x1 : Int)) = true := by simp
    have f2 : ((m0 : Int) + (x1 : Int) == (m0 : Int) + (x1 : Int)) = true := by simp
    have f3 : (e2 == e2) = true := by simp
    have hcase : (e2 = 0) ∨ (e2 != 0) = true := by
      by_cases g : e2 = 0
      · exact .inl g
      · exact .inr (by simpa using g)
    rcases hm0 with ⟨p0, rfl⟩ | ⟨p0, rfl⟩
    all_goals rcases hm1 with ⟨p1, rfl⟩ | ⟨p1, rfl⟩
    all_goals rcases hcase with rfl | f4
    all_goals
      go_enter Try.func10, Try.ntmps10
      go_wp2_with fail
      refine (works_true w).mono ?_
      rintro e w1 ⟨rfl, hb1⟩
      go_wp2_with fail
      go_quiet (fail)
      go_wp2_with fail
      have S0 := Lib.hid ((T0.out.below hb1).drewN nq)
      have S1 := Lib.hid ((T1.out.below hb1).drewN nq)
      refine (check_at _ _ _ _ _ S0.out HB0.out H0.out).mono ?_
      rintro e w2 ⟨rfl, rfl⟩
      go_wp2_with fail
      refine (check_at _ _ _ _ _ S1.out HB1.out H1.out).mono ?_
      rintro e w2 ⟨rfl, rfl⟩
      go_wp2_with fail
      refine (copy_any _ _ _ _ _ S0.out (by omega)).mono ?_
      rintro e w3 ⟨v3, rfl, ho3, hb3⟩
      go_wp2_with (at_builtin; refine wp_app rfl _ _ _ rfl _ Try.underlying22 hi hz0 hz1 hz2 rfl rfl ho3 rfl (S1.out.below hb3) (by omega) (by unfold maxLen; omega) hb3.size ?_; intro v4 w4 ho4 hb4 _)
      obtain ⟨A4, c4, hv4, t4, _⟩ := ho4.sl
      rw [hv4]
      clear hv4
      refine (check_at _ _ _ _ _ t4 HBB.out H2.out).mono ?_
      rintro e w5 ⟨rfl, rfl⟩
      have HB4 := Lib.hid (hb3.trans hb4)
      clear t4 ho4 ho3 hb3 hb4
      have S0' := Lib.hid (S0.out.below HB4.out)
      have S1' := Lib.hid (S1.out.below HB4.out)
      go_wp2_with fail
      refine (count_at _ _ _ _ _ S0'.out HB0.out H0.out).mono ?_
      rintro e w5 ⟨rfl, rfl⟩
      rw [show cnt y0 0 = (y0 : Int) from rfl]
      go_wp2_with fail
      refine (count_at _ _ _ _ _ S1'.out HB1.out H1.out).mono ?_
      rintro e w5 ⟨rfl, rfl⟩
      go_wp2_with fail
      refine (copy_any _ _ _ _ _ S0'.out (by omega)).mono ?_
      rintro e w6 ⟨v6, rfl, ho6, hb6⟩
      go_wp2_with (at_builtin; refine wp_app rfl _ _ _ rfl _ Try.underlying22 hi hz0 hz1 hz2 rfl rfl ho6 rfl (S1'.out.below hb6) (by omega) (by unfold maxLen; omega) hb6.size ?_; intro v7 w7 ho7 hb7 _)
      obtain ⟨A7, c7, hv7, t7, _⟩ := ho7.sl
      rw [hv7]
      clear hv7
      refine (count_at _ _ _ _ _ t7 HBB.out H2.out).mono ?_
      rintro e w8 ⟨rfl, rfl⟩
      have HB7 := Lib.hid (hb6.trans hb7)
      clear t7 ho7 ho6 hb6 hb7
      first
        | (rw [show cnt y1 0 = (y1 : Int) from rfl, show cnt (y0 + y1) 0 = (y0 : Int) + (y1 : Int) from rfl]; go_wp2)
        | go_wp2
      go_ret
      exact ⟨rfl, ext_trans (below_drewN hb1 nq) (ext_trans HB4.out HB7.out)⟩
  · have f4 : (e0 != 0) = true := by simpa using he0
    clear la he0
    rcases hm0 with ⟨p0, rfl⟩ | ⟨p0, rfl⟩
    all_goals rcases hm1 with ⟨p1, rfl⟩ | ⟨p1, rfl⟩
    all_goals
      go_enter Try.func10, Try.ntmps10
      go_wp2_with fail
      refine (works_true w).mono ?_
      rintro e w1 ⟨rfl, hb1⟩
      go_wp2_with fail
      go_quiet (fail)
      go_wp2_with fail
      have S0 := Lib.hid ((T0.out.below hb1).drewN nq)
      have S1 := Lib.hid ((T1.out.below hb1).drewN nq)
      refine (check_at _ _ _ _ _ S0.out HB0.out H0.out).mono ?_
      rintro e w2 ⟨rfl, rfl⟩
      go_wp2_with fail
      refine (check_at _ _ _ _ _ S1.out HB1.out H1.out).mono ?_
      rintro e w2 ⟨rfl, rfl⟩
      go_wp2_with fail
      refine (copy_any _ _ _ _ _ S0.out (by omega)).mono ?_
      rintro e w3 ⟨v3, rfl, ho3, hb3⟩
      go_wp2_with (at_builtin; refine wp_app rfl _ _ _ rfl _ Try.underlying22 hi hz0 hz1 hz2 rfl rfl ho3 rfl (S1.out.below hb3) (by omega) (by unfold maxLen; omega) hb3.size ?_; intro v4 w4 ho4 hb4 _)
      obtain ⟨A4, c4, hv4, t4, _⟩ := ho4.sl
      rw [hv4]
      clear hv4
      refine (check_at _ _ _ _ _ t4 HBB.out H2.out).mono ?_
      rintro e w5 ⟨rfl, rfl⟩
      go_wp2
      go_ret
      exact ⟨rfl, ext_trans (below_drewN hb1 nq) (hb3.trans hb4)⟩
end Go.Proofs.Ytjicaoljecpapaa
