/-
  The walk of PlaceOrder.
-/
import Derived.Test.YtfpgnnjkojpmdaaPi
import Derived.Test.YtfpgnnjkojpmdaaWe
import Derived.Test.YtfpgnnjkojpmdaaWp
namespace Go.Proofs.Ytfpgnnjkojpmdaa
set_option linter.unusedVariables false
set_option linter.unusedSimpArgs false
open Go.RowKit Go.ChangeShapes Go.WideShapes
open Utf Wd Wr We Wi Lm Lc Pc

set_option maxRecDepth 100000 in
set_option maxHeartbeats 3200000 in
theorem walk_PlaceOrder (A0 : Option Addr) (n0 c0 : Nat) (l0 : List Int) (a1 : Int) (a2 : Int) (w : World) (s0 : Sl .u8 w A0 n0 c0 l0) (b0 : ∀ x ∈ l0, (Lit.int .u8 x).wf = true) (z0 : c0 * 1 ≤ 140737488351232) (u0 : c0 ≤ 1048576) (w1 : (Lit.int .i64 a1).wf = true) (w2 : (Lit.int .i64 a2).wf = true) :
    Calls Try.prog 7 #[.slice A0 n0 c0, .int .i64 a1, .int .i64 a2] w fun e w' => e = .returned (.bool true) ∧ Below w.heap.size w w' := by
  have hx1 := i64_of w1
  have hx2 := i64_of w2
  clear w1 w2
  have S := Lib.hid s0
  have hB := isB_of b0
  have hnle := s0.le
  have hlen := s0.len
  clear s0 b0 z0
  rcases txt_or hB with ⟨cs, hc, rfl⟩ | ⟨x, y, e, he, hch⟩
  · have hfew : ((Lm.ends 0 (encs cs)).length + 1) * 16 ≤ 140737488355328 := by have := Lm.ends_le (encs cs) 0; omega
    have HC := Lib.hid hc
    have HL := Lib.hid hlen
    obtain ⟨m1, hm1⟩ := Int.eq_ofNat_of_zero_le (Int.emod_nonneg a1 (b := (n0 : Int) + 1) (by omega))
    have hl1 := Int.emod_lt_of_pos a1 (b := (n0 : Int) + 1) (by omega)
    obtain ⟨m2, hm2⟩ := Int.eq_ofNat_of_zero_le (Int.emod_nonneg a2 (b := (n0 : Int) + 1) (by omega))
    have hl2 := Int.emod_lt_of_pos a2 (b := (n0 : Int) + 1) (by omega)
    rw [hm1] at hl1
    rw [hm2] at hl2
    have HM1 := Lib.hid hm1
    have HM2 := Lib.hid hm2
    rcases (show m1 < m2 ∨ m2 < m1 ∨ m1 = m2 by omega) with hmm | hmm | hmm
    · have g1 : (m1 : Int) ≤ (m2 : Int) := by omega
      have g2 : ¬ (m2 : Int) ≤ (m1 : Int) := by omega
      obtain ⟨x1, y1, h1⟩ : ∃ x y, plc cs m1 = (x, y) := ⟨_, _, rfl⟩
      obtain ⟨x2, y2, h2⟩ : ∃ x y, plc cs m2 = (x, y) := ⟨_, _, rfl⟩
      have hr := plc_rise hc (show m1 ≤ m2 by omega)
      rw [h1, h2] at hr
      simp only at hr
      have H1 := Lib.hid h1
      have H2 := Lib.hid h2
      clear hm1 hm2 h1 h2 hc hlen hB
      go_enter Try.func7, Try.ntmps7
      go_wp2_with fail
      refine (works_true w).mono ?_
      rintro e' w1 ⟨rfl, hb1⟩
      have B1 := Lib.hid hb1
      have S1 := Lib.hid (S.out.below hb1)
      clear hb1
      go_wp2_with fail
      refine (made_ok _ _ _ _ _ HC.out S1.out hfew (by omega)).mono ?_
      rintro e' w2 ⟨M, P, A, c, rfl, hM, hb⟩
      have HM := Lib.hid hM
      have B2 := Lib.hid (ext_trans B1.out hb)
      have S2 := Lib.hid (S1.out.below hb)
      clear hM hb
      clear hfew
      go_wp2_with fail
      refine (bring_at a1 ((n0 : Int) + 1) (by omega) (by omega) hx1.1 hx1.2 _ HM1.out).mono ?_
      rintro e w' ⟨rfl, rfl⟩
      go_wp2_with fail
      refine (bring_at a2 ((n0 : Int) + 1) (by omega) (by omega) hx2.1 hx2.2 _ HM2.out).mono ?_
      rintro e w' ⟨rfl, rfl⟩
      go_wp2_with fail
      refine (pos_ok _ _ _ _ _ _ HM.out m1 (by rw [HL.out]; omega) H1.out).mono ?_
      rintro r w3 ⟨rfl, hb⟩
      replace hb := ext_trans hb (below_alloc w3 (.cells #[.int .i64 (x1 : Nat), .int .i64 (y1 : Nat)] 24))
      have BN3 := Lib.hid (Blk.new w3 24 #[.int .i64 (x1 : Nat), .int .i64 (y1 : Nat)])
      have B3 := Lib.hid (ext_trans B2.out hb)
      have HM3 := Lib.hid (HM.out.ext hb)
      clear hb
      go_wp2_with fail
      refine (pos_ok _ _ _ _ _ _ HM3.out m2 (by rw [HL.out]; omega) H2.out).mono ?_
      rintro r w4 ⟨rfl, hb⟩
      replace hb := ext_trans hb (below_alloc w4 (.cells #[.int .i64 (x2 : Nat), .int .i64 (y2 : Nat)] 24))
      have BN4 := Lib.hid (Blk.new w4 24 #[.int .i64 (x2 : Nat), .int .i64 (y2 : Nat)])
      have B4 := Lib.hid (ext_trans B3.out hb)
      have BN34 := Lib.hid (BN3.out.ext hb)
      clear hb
      have c0 := BN34.out.at_ 0 rfl
      have c1 := BN34.out.at_ 1 rfl
      have hlt := BN34.out.lt
      rcases hr with hr | ⟨rfl, hr⟩
      · have i1 : (x1 : Int) < (x2 : Int) := by omega
        go_wp2_with fail
        go_ret
        exact ⟨rfl, B4.out⟩
      · have i1 : ¬ (x1 : Int) < (x1 : Int) := by omega
        have i2 : (y1 : Int) ≤ (y2 : Int) := by omega
        go_wp2_with fail
        go_ret
        exact ⟨rfl, B4.out⟩
    · have g1 : ¬ (m1 : Int) ≤ (m2 : Int) := by omega
      have g2 : (m2 : Int) < (m1 : Int) := by omega
      obtain ⟨x1, y1, h1⟩ : ∃ x y, plc cs m2 = (x, y) := ⟨_, _, rfl⟩
      obtain ⟨x2, y2, h2⟩ : ∃ x y, plc cs m1 = (x, y) := ⟨_, _, rfl⟩
      have hr := plc_rise hc (show m2 ≤ m1 by omega)
      rw [h1, h2] at hr
      simp only at hr
      have H1 := Lib.hid h1
      have H2 := Lib.hid h2
      clear hm1 hm2 h1 h2 hc hlen hB
      go_enter Try.func7, Try.ntmps7
      go_wp2_with fail
      refine (works_true w).mono ?_
      rintro e' w1 ⟨rfl, hb1⟩
      have B1 := Lib.hid hb1
      have S1 := Lib.hid (S.out.below hb1)
      clear hb1
      go_wp2_with fail
      refine (made_ok _ _ _ _ _ HC.out S1.out hfew (by omega)).mono ?_
      rintro e' w2 ⟨M, P, A, c, rfl, hM, hb⟩
      have HM := Lib.hid hM
      have B2 := Lib.hid (ext_trans B1.out hb)
      have S2 := Lib.hid (S1.out.below hb)
      clear hM hb
      clear hfew
      go_wp2_with fail
      refine (bring_at a1 ((n0 : Int) + 1) (by omega) (by omega) hx1.1 hx1.2 _ HM1.out).mono ?_
      rintro e w' ⟨rfl, rfl⟩
      go_wp2_with fail
      refine (bring_at a2 ((n0 : Int) + 1) (by omega) (by omega) hx2.1 hx2.2 _ HM2.out).mono ?_
      rintro e w' ⟨rfl, rfl⟩
      go_wp2_with fail
      refine (pos_ok _ _ _ _ _ _ HM.out m2 (by rw [HL.out]; omega) H1.out).mono ?_
      rintro r w3 ⟨rfl, hb⟩
      replace hb := ext_trans hb (below_alloc w3 (.cells #[.int .i64 (x1 : Nat), .int .i64 (y1 : Nat)] 24))
      have BN3 := Lib.hid (Blk.new w3 24 #[.int .i64 (x1 : Nat), .int .i64 (y1 : Nat)])
      have B3 := Lib.hid (ext_trans B2.out hb)
      have HM3 := Lib.hid (HM.out.ext hb)
      clear hb
      go_wp2_with fail
      refine (pos_ok _ _ _ _ _ _ HM3.out m1 (by rw [HL.out]; omega) H2.out).mono ?_
      rintro r w4 ⟨rfl, hb⟩
      replace hb := ext_trans hb (below_alloc w4 (.cells #[.int .i64 (x2 : Nat), .int .i64 (y2 : Nat)] 24))
      have BN4 := Lib.hid (Blk.new w4 24 #[.int .i64 (x2 : Nat), .int .i64 (y2 : Nat)])
      have B4 := Lib.hid (ext_trans B3.out hb)
      have BN34 := Lib.hid (BN3.out.ext hb)
      clear hb
      have c0 := BN34.out.at_ 0 rfl
      have c1 := BN34.out.at_ 1 rfl
      have hlt := BN34.out.lt
      rcases hr with hr | ⟨rfl, hr⟩
      · have i1 : (x1 : Int) < (x2 : Int) := by omega
        go_wp2_with fail
        go_ret
        exact ⟨rfl, B4.out⟩
      · have i1 : ¬ (x1 : Int) < (x1 : Int) := by omega
        have i2 : (y1 : Int) ≤ (y2 : Int) := by omega
        go_wp2_with fail
        go_ret
        exact ⟨rfl, B4.out⟩
    · subst hmm
      obtain ⟨x1, y1, h1⟩ : ∃ x y, plc cs m1 = (x, y) := ⟨_, _, rfl⟩
      have h2 := h1
      have hr := plc_rise hc (show m1 ≤ m1 by omega)
      clear hr
      have H1 := Lib.hid h1
      have H2 := Lib.hid h2
      clear hm1 hm2 h1 h2 hc hlen hB
      go_enter Try.func7, Try.ntmps7
      go_wp2_with fail
      refine (works_true w).mono ?_
      rintro e' w1 ⟨rfl, hb1⟩
      have B1 := Lib.hid hb1
      have S1 := Lib.hid (S.out.below hb1)
      clear hb1
      go_wp2_with fail
      refine (made_ok _ _ _ _ _ HC.out S1.out hfew (by omega)).mono ?_
      rintro e' w2 ⟨M, P, A, c, rfl, hM, hb⟩
      have HM := Lib.hid hM
      have B2 := Lib.hid (ext_trans B1.out hb)
      have S2 := Lib.hid (S1.out.below hb)
      clear hM hb
      clear hfew
      go_wp2_with fail
      refine (bring_at a1 ((n0 : Int) + 1) (by omega) (by omega) hx1.1 hx1.2 _ HM1.out).mono ?_
      rintro e w' ⟨rfl, rfl⟩
      go_wp2_with fail
      refine (bring_at a2 ((n0 : Int) + 1) (by omega) (by omega) hx2.1 hx2.2 _ HM2.out).mono ?_
      rintro e w' ⟨rfl, rfl⟩
      go_wp2_with fail
      refine (pos_ok _ _ _ _ _ _ HM.out m1 (by rw [HL.out]; omega) H1.out).mono ?_
      rintro r w3 ⟨rfl, hb⟩
      replace hb := ext_trans hb (below_alloc w3 (.cells #[.int .i64 (x1 : Nat), .int .i64 (y1 : Nat)] 24))
      have BN3 := Lib.hid (Blk.new w3 24 #[.int .i64 (x1 : Nat), .int .i64 (y1 : Nat)])
      have B3 := Lib.hid (ext_trans B2.out hb)
      have HM3 := Lib.hid (HM.out.ext hb)
      clear hb
      go_wp2_with fail
      refine (pos_ok _ _ _ _ _ _ HM3.out m1 (by rw [HL.out]; omega) H2.out).mono ?_
      rintro r w4 ⟨rfl, hb⟩
      replace hb := ext_trans hb (below_alloc w4 (.cells #[.int .i64 (x1 : Nat), .int .i64 (y1 : Nat)] 24))
      have BN4 := Lib.hid (Blk.new w4 24 #[.int .i64 (x1 : Nat), .int .i64 (y1 : Nat)])
      have B4 := Lib.hid (ext_trans B3.out hb)
      have BN34 := Lib.hid (BN3.out.ext hb)
      clear hb
      have c0 := BN34.out.at_ 0 rfl
      have c1 := BN34.out.at_ 1 rfl
      have hlt := BN34.out.lt
      have i1 : ¬ (x1 : Int) < (x1 : Int) := by omega
      have i2 : (y1 : Int) ≤ (y1 : Int) := by omega
      go_wp2_with fail
      go_ret
      exact ⟨rfl, B4.out⟩
  · have K := Lib.hid hch
    clear hch
    go_enter Try.func7, Try.ntmps7
    go_wp2_with fail
    refine (works_true w).mono ?_
    rintro e' w1 ⟨rfl, hb1⟩
    have B1 := Lib.hid hb1
    have S1 := Lib.hid (S.out.below hb1)
    clear hb1
    go_wp2_with fail
    refine (made_bad _ _ _ _ _ S1.out hB K.out he).mono ?_
    rintro e' w2 ⟨rfl, rfl⟩
    go_wp2_with fail
    go_ret
    exact ⟨rfl, B1.out⟩
end Go.Proofs.Ytfpgnnjkojpmdaa
