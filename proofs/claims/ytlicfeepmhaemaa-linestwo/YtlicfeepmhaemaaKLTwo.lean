/-
  The walk of LinesTwo.
-/
import Derived.Test.YtlicfeepmhaemaaLs
import Derived.Test.YtlicfeepmhaemaaLu
import Derived.Test.YtlicfeepmhaemaaWe
import Derived.Test.YtlicfeepmhaemaaWp
namespace Go.Proofs.Ytlicfeepmhaemaa
set_option linter.unusedVariables false
set_option linter.unusedSimpArgs false
open Go.RowKit Go.ChangeShapes Go.WideShapes
open Utf Wd Wr We Wi Lm Lc

theorem last_some {a : List Int} {j : Nat} {x : Int} (h : a.length = j + 1) (hx : a[j]? = some x) : a.getLast? = some x := by
  rw [List.getLast?_eq_getElem?, h, Nat.add_sub_cancel]; exact hx
theorem meet_yes {a b : List Int} {j : Nat} (h : a.length = j + 1) (hx : a[j]? = some 13) (hy : b[0]? = some 10) : meet a b = 1 := by
  unfold meet; rw [last_some h hx, List.head?_eq_getElem?, hy]; simp
theorem meet_no1 {a b : List Int} {j : Nat} {x : Int} (h : a.length = j + 1) (hx : a[j]? = some x) (hn : x ≠ 13) : meet a b = 0 := by
  unfold meet; rw [last_some h hx]; simp [hn]
theorem meet_no2 {a b : List Int} {y : Int} (hy : b[0]? = some y) (hn : y ≠ 10) : meet a b = 0 := by
  unfold meet; rw [List.head?_eq_getElem?, hy]; simp [hn]
theorem meet_end (a : List Int) : meet a [] = 0 := by simp [meet]

set_option maxRecDepth 100000 in
set_option maxHeartbeats 8000000 in
theorem walk_LinesTwo (A0 : Option Addr) (n0 c0 : Nat) (l0 : List Int) (A1 : Option Addr) (n1 c1 : Nat) (l1 : List Int) (w : World) (s0 : Sl .u8 w A0 n0 c0 l0) (b0 : ∀ x ∈ l0, (Lit.int .u8 x).wf = true) (z0 : c0 * 1 ≤ 140737488351232) (s1 : Sl .u8 w A1 n1 c1 l1) (b1 : ∀ x ∈ l1, (Lit.int .u8 x).wf = true) (z1 : c1 * 1 ≤ 140737488351232) :
    Calls Try.prog 8 #[.slice A0 n0 c0, .slice A1 n1 c1] w fun e w' => e = .returned (.bool true) ∧ Below w.heap.size w w' := by
  obtain ⟨i0, hi, hz0, hz1, hz2⟩ := info_parts u8_info
  have hB1 := (isB_of b0).take 1000
  have hB2 := (isB_of b1).take 1000
  have hle0 := s0.le
  have hle1 := s1.le
  obtain ⟨m0, t0, g0, k0, hm0⟩ := s0.most 1000
  obtain ⟨m1, t1, g1, k1, hm1⟩ := s1.most 1000
  have hl0 := t0.len
  have hl1 := t1.len
  have T0 := Lib.hid t0
  have T1 := Lib.hid t1
  have HB0 := Lib.hid hB1
  have HB1 := Lib.hid hB2
  have HBB := Lib.hid (hB1.append hB2)
  have hx0 : c0 ≤ 140737488351232 := by omega
  have hx1 : c1 ≤ 140737488351232 := by omega
  have la := chk_append (l0.take 1000).length (l0.take 1000) (l1.take 1000) hB1 hB2 (Nat.le_refl _)
  obtain ⟨x0, y0, e0, h0⟩ : ∃ x y e, chk (l0.take 1000) = (x, y, e) := ⟨_, _, _, rfl⟩
  obtain ⟨x1, y1, e1, h1⟩ : ∃ x y e, chk (l1.take 1000) = (x, y, e) := ⟨_, _, _, rfl⟩
  obtain ⟨x2, y2, e2, h2⟩ : ∃ x y e, chk (l0.take 1000 ++ l1.take 1000) = (x, y, e) := ⟨_, _, _, rfl⟩
  rw [h0, h1, h2] at la
  simp only [Prod.mk.injEq] at la
  have hee : e0 = 0 → e2 = e1 := fun h => (la h).2.2
  have hla := lns_le (l0.take 1000)
  have hlb := lns_le (l1.take 1000)
  have hlc := lns_append (l0.take 1000) (l1.take 1000)
  have hna := lns_ne (l0.take 1000)
  have hnb := lns_ne (l1.take 1000)
  have H0 := Lib.hid h0
  have H1 := Lib.hid h1
  have H2 := Lib.hid h2
  clear s0 s1 b0 b1 z0 z1 hB1 hB2 t0 t1 h0 h1 h2 la
  generalize l0.take 1000 = a at *
  generalize l1.take 1000 = b at *
  obtain ⟨na, ena⟩ : ∃ na, (lns a).length = na := ⟨_, rfl⟩
  obtain ⟨nb, enb⟩ : ∃ nb, (lns b).length = nb := ⟨_, rfl⟩
  obtain ⟨nz, enz⟩ : ∃ nz, (lns (a ++ b)).length = nz := ⟨_, rfl⟩
  rw [ena, enb, enz] at hlc
  rw [ena] at hla hna
  rw [enb] at hlb hnb
  rw [hl0] at hla
  rw [hl1] at hlb
  have ENA := Lib.hid ena
  have ENB := Lib.hid enb
  have ENZ := Lib.hid enz
  have HL0 := Lib.hid hl0
  have HL1 := Lib.hid hl1
  have hna' : na ≤ 1001 := by omega
  have hnb' : nb ≤ 1001 := by omega
  clear ena enb enz hl0 hl1 hla hlb
  have w1' : IntKind.i64.wrap ((na : Int) + (nb : Int)) = (na : Int) + (nb : Int) := by rw [IntKind.wrap_i64]; omega
  have w2' : IntKind.i64.wrap ((na : Int) + (nb : Int) - 1) = (na : Int) + (nb : Int) - 1 := by rw [IntKind.wrap_i64]; omega
  have w3' : IntKind.i64.wrap ((na : Int) + (nb : Int) - 1 - 1) = (na : Int) + (nb : Int) - 1 - 1 := by rw [IntKind.wrap_i64]; omega
  have w4' : IntKind.i64.wrap ((na : Int) + (nb : Int) - 2) = (na : Int) + (nb : Int) - 2 := by rw [IntKind.wrap_i64]; omega
  rcases hm0 with ⟨p0, rfl⟩ | ⟨p0, rfl⟩
  all_goals rcases hm1 with ⟨p1, rfl⟩ | ⟨p1, rfl⟩
  · go_enter Try.func8, Try.ntmps8
    go_wp2_with fail
    refine (works_true w).mono ?_
    rintro e w1 ⟨rfl, hb1⟩
    go_wp2_with fail
    go_quiet (fail)
    go_wp2_with fail
    have S0 := Lib.hid ((T0.out.below hb1).drewN nq)
    have S1 := Lib.hid ((T1.out.below hb1).drewN nq)
    have B1 := Lib.hid (below_drewN hb1 nq)
    clear hb1
    by_cases he0 : e0 = 0
    · obtain rfl := hee he0
      subst he0
      refine (new_ok _ _ _ _ _ S0.out HB0.out H0.out (by omega)).mono ?_
      rintro e w2 ⟨P0, rfl, hI, hb2⟩
      have B2 := Lib.hid (ext_trans B1.out hb2)
      have I2 := Lib.hid hI
      have S02 := Lib.hid (S0.out.below hb2)
      have S12 := Lib.hid (S1.out.below hb2)
      clear hb2 hI
      go_wp2_with fail
      by_cases he1 : e2 = 0
      · subst he1
        refine (new_ok _ _ _ _ _ S12.out HB1.out H1.out (by omega)).mono ?_
        rintro e w3 ⟨P1, rfl, hI, hb3⟩
        have B3 := Lib.hid (ext_trans B2.out hb3)
        have I3 := Lib.hid hI
        have I23 := Lib.hid (I2.out.ext hb3)
        have S03 := Lib.hid (S02.out.below hb3)
        have S13 := Lib.hid (S12.out.below hb3)
        clear hb3 hI
        go_wp2_with fail
        refine (copy_any _ _ _ _ _ S03.out (by omega)).mono ?_
        rintro e w4 ⟨v4, rfl, ho4, hb4⟩
        go_wp2_with (at_builtin; refine wp_app rfl _ _ _ rfl _ Try.underlying22 hi hz0 hz1 hz2 rfl rfl ho4 rfl (S13.out.below hb4) (by rw [HL0.out]; omega) (by rw [HL0.out]; unfold maxLen; omega) hb4.size ?_; intro v5 w5 ho5 hb5 _)
        obtain ⟨A5, c5, hv5, t5, _⟩ := ho5.sl
        rw [hv5]
        clear hv5
        have B5 := Lib.hid (hb4.trans hb5)
        refine (new_ok _ _ _ _ _ t5 HBB.out H2.out (by rw [List.length_append, HL0.out, HL1.out]; omega)).mono ?_
        rintro e w6 ⟨P2, rfl, hI, hb6⟩
        have B6 := Lib.hid (ext_trans B5.out hb6)
        have BB := Lib.hid (ext_trans B3.out B6.out)
        have I6 := Lib.hid hI
        have I26 := Lib.hid (I23.out.ext B6.out)
        have I36 := Lib.hid (I3.out.ext B6.out)
        have S06 := Lib.hid (S03.out.below B6.out)
        have S16 := Lib.hid (S13.out.below B6.out)
        clear hI hb6 t5 ho5 ho4 hb4 hb5
        go_wp2_with fail
        refine (count_txt _ P0 a w6 I26.out).mono ?_
        rintro e w' ⟨rfl, rfl⟩
        rw [ENA.out]
        go_wp2_with fail
        refine (count_txt _ P1 b w6 I36.out).mono ?_
        rintro e w' ⟨rfl, rfl⟩
        rw [ENB.out]
        by_cases hj : m0 = 0
        · subst hj
          have hae : a = [] := List.eq_nil_of_length_eq_zero HL0.out
          have hmt : meet a b = 0 := by rw [hae]; exact meet_nil b
          rw [hmt] at hlc
          have q1 : ((nz : Int) == (na : Int) + (nb : Int) - 1) = true := by simp; omega
          go_wp2_with fail
          refine (count_txt _ P2 (a ++ b) w6 I6.out).mono ?_
          rintro e w' ⟨rfl, rfl⟩
          rw [ENZ.out]
          go_wp2_with fail
          go_ret
          exact ⟨rfl, BB.out⟩
        · obtain ⟨j, rfl⟩ : ∃ j, m0 = j + 1 := ⟨m0 - 1, by omega⟩
          have wj : IntKind.i64.wrap (j : Int) = (j : Int) := by rw [IntKind.wrap_i64]; omega
          have ij : (j : Int) < (j : Int) + 1 := by omega
          have ip : 0 < (j : Int) + 1 := by omega
          obtain ⟨bb, off, x, hAe, hx, hcx, _⟩ := S06.out.row.look (j := j) (by omega)
          subst hAe
          have hlast : a.length = j + 1 := HL0.out
          by_cases hn1 : m1 = 0
          · subst hn1
            have hbe : b = [] := List.eq_nil_of_length_eq_zero HL1.out
            have hmt : meet a b = 0 := by rw [hbe]; exact meet_end a
            rw [hmt] at hlc
            clear hx hlast
            have q1 : ((nz : Int) == (na : Int) + (nb : Int) - 1) = true := by simp; omega
            go_wp2_with fail
            refine (count_txt _ P2 (a ++ b) w6 I6.out).mono ?_
            rintro e w' ⟨rfl, rfl⟩
            rw [ENZ.out]
            go_wp2_with fail
            go_ret
            exact ⟨rfl, BB.out⟩
          · have in1 : 0 < (m1 : Int) := by omega
            have HX := Lib.hid hx
            have HLA := Lib.hid hlast
            clear hx hlast
            by_cases h13 : x = 13
            · subst h13
              obtain ⟨bc, of2, y, hAe, hy, hcy, _⟩ := S16.out.row.look (j := 0) (by omega)
              subst hAe
              rw [Nat.add_zero] at hcy
              by_cases h10 : y = 10
              · subst h10
                have hmt := meet_yes HLA.out HX.out hy
                rw [hmt] at hlc
                clear hy
                have q1 : ((nz : Int) == (na : Int) + (nb : Int) - 1 - 1) = true := by simp; omega
                have q2 : ((nz : Int) == (na : Int) + (nb : Int) - 2) = true := by simp; omega
                go_wp2_with fail
                refine (count_txt _ P2 (a ++ b) w6 I6.out).mono ?_
                rintro e w' ⟨rfl, rfl⟩
                rw [ENZ.out]
                go_wp2_with fail
                go_ret
                exact ⟨rfl, BB.out⟩
              · have hmt : meet a b = 0 := meet_no2 hy h10
                rw [hmt] at hlc
                have d10 : (y == 10) = false := by simpa using h10
                clear hy h10
                have q1 : ((nz : Int) == (na : Int) + (nb : Int) - 1) = true := by simp; omega
                go_wp2_with fail
                refine (count_txt _ P2 (a ++ b) w6 I6.out).mono ?_
                rintro e w' ⟨rfl, rfl⟩
                rw [ENZ.out]
                go_wp2_with fail
                go_ret
                exact ⟨rfl, BB.out⟩
            · have hmt : meet a b = 0 := meet_no1 HLA.out HX.out h13
              rw [hmt] at hlc
              have d13 : (x == 13) = false := by simpa using h13
              clear h13
              have q1 : ((nz : Int) == (na : Int) + (nb : Int) - 1) = true := by simp; omega
              go_wp2_with fail
              refine (count_txt _ P2 (a ++ b) w6 I6.out).mono ?_
              rintro e w' ⟨rfl, rfl⟩
              rw [ENZ.out]
              go_wp2_with fail
              go_ret
              exact ⟨rfl, BB.out⟩
      · refine (new_bad _ _ _ _ _ S12.out HB1.out H1.out he1).mono ?_
        rintro e' w3 ⟨rfl, rfl⟩
        have d : (e2 != 0) = true := by simpa using he1
        clear he1
        go_wp2_with fail
        go_ret
        exact ⟨rfl, B2.out⟩
    · refine (new_bad _ _ _ _ _ S0.out HB0.out H0.out he0).mono ?_
      rintro e' w2 ⟨rfl, rfl⟩
      have d : (e0 != 0) = true := by simpa using he0
      clear he0 hee
      go_wp2_with fail
      by_cases he1 : e1 = 0
      · subst he1
        refine (new_ok _ _ _ _ _ S1.out HB1.out H1.out (by omega)).mono ?_
        rintro e w3 ⟨P1, rfl, hI, hb3⟩
        have B3 := Lib.hid (ext_trans B1.out hb3)
        clear hI hb3
        go_wp2_with fail
        go_ret
        exact ⟨rfl, B3.out⟩
      · refine (new_bad _ _ _ _ _ S1.out HB1.out H1.out he1).mono ?_
        rintro e' w3 ⟨rfl, rfl⟩
        clear he1
        go_wp2_with fail
        go_ret
        exact ⟨rfl, B1.out⟩
  · go_enter Try.func8, Try.ntmps8
    go_wp2_with fail
    refine (works_true w).mono ?_
    rintro e w1 ⟨rfl, hb1⟩
    go_wp2_with fail
    go_quiet (fail)
    go_wp2_with fail
    have S0 := Lib.hid ((T0.out.below hb1).drewN nq)
    have S1 := Lib.hid ((T1.out.below hb1).drewN nq)
    have B1 := Lib.hid (below_drewN hb1 nq)
    clear hb1
    by_cases he0 : e0 = 0
    · obtain rfl := hee he0
      subst he0
      refine (new_ok _ _ _ _ _ S0.out HB0.out H0.out (by omega)).mono ?_
      rintro e w2 ⟨P0, rfl, hI, hb2⟩
      have B2 := Lib.hid (ext_trans B1.out hb2)
      have I2 := Lib.hid hI
      have S02 := Lib.hid (S0.out.below hb2)
      have S12 := Lib.hid (S1.out.below hb2)
      clear hb2 hI
      go_wp2_with fail
      by_cases he1 : e2 = 0
      · subst he1
        refine (new_ok _ _ _ _ _ S12.out HB1.out H1.out (by omega)).mono ?_
        rintro e w3 ⟨P1, rfl, hI, hb3⟩
        have B3 := Lib.hid (ext_trans B2.out hb3)
        have I3 := Lib.hid hI
        have I23 := Lib.hid (I2.out.ext hb3)
        have S03 := Lib.hid (S02.out.below hb3)
        have S13 := Lib.hid (S12.out.below hb3)
        clear hb3 hI
        go_wp2_with fail
        refine (copy_any _ _ _ _ _ S03.out (by omega)).mono ?_
        rintro e w4 ⟨v4, rfl, ho4, hb4⟩
        go_wp2_with (at_builtin; refine wp_app rfl _ _ _ rfl _ Try.underlying22 hi hz0 hz1 hz2 rfl rfl ho4 rfl (S13.out.below hb4) (by rw [HL0.out]; omega) (by rw [HL0.out]; unfold maxLen; omega) hb4.size ?_; intro v5 w5 ho5 hb5 _)
        obtain ⟨A5, c5, hv5, t5, _⟩ := ho5.sl
        rw [hv5]
        clear hv5
        have B5 := Lib.hid (hb4.trans hb5)
        refine (new_ok _ _ _ _ _ t5 HBB.out H2.out (by rw [List.length_append, HL0.out, HL1.out]; omega)).mono ?_
        rintro e w6 ⟨P2, rfl, hI, hb6⟩
        have B6 := Lib.hid (ext_trans B5.out hb6)
        have BB := Lib.hid (ext_trans B3.out B6.out)
        have I6 := Lib.hid hI
        have I26 := Lib.hid (I23.out.ext B6.out)
        have I36 := Lib.hid (I3.out.ext B6.out)
        have S06 := Lib.hid (S03.out.below B6.out)
        have S16 := Lib.hid (S13.out.below B6.out)
        clear hI hb6 t5 ho5 ho4 hb4 hb5
        go_wp2_with fail
        refine (count_txt _ P0 a w6 I26.out).mono ?_
        rintro e w' ⟨rfl, rfl⟩
        rw [ENA.out]
        go_wp2_with fail
        refine (count_txt _ P1 b w6 I36.out).mono ?_
        rintro e w' ⟨rfl, rfl⟩
        rw [ENB.out]
        by_cases hj : m0 = 0
        · subst hj
          have hae : a = [] := List.eq_nil_of_length_eq_zero HL0.out
          have hmt : meet a b = 0 := by rw [hae]; exact meet_nil b
          rw [hmt] at hlc
          have q1 : ((nz : Int) == (na : Int) + (nb : Int) - 1) = true := by simp; omega
          go_wp2_with fail
          refine (count_txt _ P2 (a ++ b) w6 I6.out).mono ?_
          rintro e w' ⟨rfl, rfl⟩
          rw [ENZ.out]
          go_wp2_with fail
          go_ret
          exact ⟨rfl, BB.out⟩
        · obtain ⟨j, rfl⟩ : ∃ j, m0 = j + 1 := ⟨m0 - 1, by omega⟩
          have wj : IntKind.i64.wrap (j : Int) = (j : Int) := by rw [IntKind.wrap_i64]; omega
          have ij : (j : Int) < (j : Int) + 1 := by omega
          have ip : 0 < (j : Int) + 1 := by omega
          obtain ⟨bb, off, x, hAe, hx, hcx, _⟩ := S06.out.row.look (j := j) (by omega)
          subst hAe
          have hlast : a.length = j + 1 := HL0.out
          have HX := Lib.hid hx
          have HLA := Lib.hid hlast
          clear hx hlast
          by_cases h13 : x = 13
          · subst h13
            obtain ⟨bc, of2, y, hAe, hy, hcy, _⟩ := S16.out.row.look (j := 0) (by omega)
            subst hAe
            rw [Nat.add_zero] at hcy
            by_cases h10 : y = 10
            · subst h10
              have hmt := meet_yes HLA.out HX.out hy
              rw [hmt] at hlc
              clear hy
              have q1 : ((nz : Int) == (na : Int) + (nb : Int) - 1 - 1) = true := by simp; omega
              have q2 : ((nz : Int) == (na : Int) + (nb : Int) - 2) = true := by simp; omega
              go_wp2_with fail
              refine (count_txt _ P2 (a ++ b) w6 I6.out).mono ?_
              rintro e w' ⟨rfl, rfl⟩
              rw [ENZ.out]
              go_wp2_with fail
              go_ret
              exact ⟨rfl, BB.out⟩
            · have hmt : meet a b = 0 := meet_no2 hy h10
              rw [hmt] at hlc
              have d10 : (y == 10) = false := by simpa using h10
              clear hy h10
              have q1 : ((nz : Int) == (na : Int) + (nb : Int) - 1) = true := by simp; omega
              go_wp2_with fail
              refine (count_txt _ P2 (a ++ b) w6 I6.out).mono ?_
              rintro e w' ⟨rfl, rfl⟩
              rw [ENZ.out]
              go_wp2_with fail
              go_ret
              exact ⟨rfl, BB.out⟩
          · have hmt : meet a b = 0 := meet_no1 HLA.out HX.out h13
            rw [hmt] at hlc
            have d13 : (x == 13) = false := by simpa using h13
            clear h13
            have q1 : ((nz : Int) == (na : Int) + (nb : Int) - 1) = true := by simp; omega
            go_wp2_with fail
            refine (count_txt _ P2 (a ++ b) w6 I6.out).mono ?_
            rintro e w' ⟨rfl, rfl⟩
            rw [ENZ.out]
            go_wp2_with fail
            go_ret
            exact ⟨rfl, BB.out⟩
      · refine (new_bad _ _ _ _ _ S12.out HB1.out H1.out he1).mono ?_
        rintro e' w3 ⟨rfl, rfl⟩
        have d : (e2 != 0) = true := by simpa using he1
        clear he1
        go_wp2_with fail
        go_ret
        exact ⟨rfl, B2.out⟩
    · refine (new_bad _ _ _ _ _ S0.out HB0.out H0.out he0).mono ?_
      rintro e' w2 ⟨rfl, rfl⟩
      have d : (e0 != 0) = true := by simpa using he0
      clear he0 hee
      go_wp2_with fail
      by_cases he1 : e1 = 0
      · subst he1
        refine (new_ok _ _ _ _ _ S1.out HB1.out H1.out (by omega)).mono ?_
        rintro e w3 ⟨P1, rfl, hI, hb3⟩
        have B3 := Lib.hid (ext_trans B1.out hb3)
        clear hI hb3
        go_wp2_with fail
        go_ret
        exact ⟨rfl, B3.out⟩
      · refine (new_bad _ _ _ _ _ S1.out HB1.out H1.out he1).mono ?_
        rintro e' w3 ⟨rfl, rfl⟩
        clear he1
        go_wp2_with fail
        go_ret
        exact ⟨rfl, B1.out⟩
  · go_enter Try.func8, Try.ntmps8
    go_wp2_with fail
    refine (works_true w).mono ?_
    rintro e w1 ⟨rfl, hb1⟩
    go_wp2_with fail
    go_quiet (fail)
    go_wp2_with fail
    have S0 := Lib.hid ((T0.out.below hb1).drewN nq)
    have S1 := Lib.hid ((T1.out.below hb1).drewN nq)
    have B1 := Lib.hid (below_drewN hb1 nq)
    clear hb1
    by_cases he0 : e0 = 0
    · obtain rfl := hee he0
      subst he0
      refine (new_ok _ _ _ _ _ S0.out HB0.out H0.out (by omega)).mono ?_
      rintro e w2 ⟨P0, rfl, hI, hb2⟩
      have B2 := Lib.hid (ext_trans B1.out hb2)
      have I2 := Lib.hid hI
      have S02 := Lib.hid (S0.out.below hb2)
      have S12 := Lib.hid (S1.out.below hb2)
      clear hb2 hI
      go_wp2_with fail
      by_cases he1 : e2 = 0
      · subst he1
        refine (new_ok _ _ _ _ _ S12.out HB1.out H1.out (by omega)).mono ?_
        rintro e w3 ⟨P1, rfl, hI, hb3⟩
        have B3 := Lib.hid (ext_trans B2.out hb3)
        have I3 := Lib.hid hI
        have I23 := Lib.hid (I2.out.ext hb3)
        have S03 := Lib.hid (S02.out.below hb3)
        have S13 := Lib.hid (S12.out.below hb3)
        clear hb3 hI
        go_wp2_with fail
        refine (copy_any _ _ _ _ _ S03.out (by omega)).mono ?_
        rintro e w4 ⟨v4, rfl, ho4, hb4⟩
        go_wp2_with (at_builtin; refine wp_app rfl _ _ _ rfl _ Try.underlying22 hi hz0 hz1 hz2 rfl rfl ho4 rfl (S13.out.below hb4) (by rw [HL0.out]; omega) (by rw [HL0.out]; unfold maxLen; omega) hb4.size ?_; intro v5 w5 ho5 hb5 _)
        obtain ⟨A5, c5, hv5, t5, _⟩ := ho5.sl
        rw [hv5]
        clear hv5
        have B5 := Lib.hid (hb4.trans hb5)
        refine (new_ok _ _ _ _ _ t5 HBB.out H2.out (by rw [List.length_append, HL0.out, HL1.out]; omega)).mono ?_
        rintro e w6 ⟨P2, rfl, hI, hb6⟩
        have B6 := Lib.hid (ext_trans B5.out hb6)
        have BB := Lib.hid (ext_trans B3.out B6.out)
        have I6 := Lib.hid hI
        have I26 := Lib.hid (I23.out.ext B6.out)
        have I36 := Lib.hid (I3.out.ext B6.out)
        have S06 := Lib.hid (S03.out.below B6.out)
        have S16 := Lib.hid (S13.out.below B6.out)
        clear hI hb6 t5 ho5 ho4 hb4 hb5
        go_wp2_with fail
        refine (count_txt _ P0 a w6 I26.out).mono ?_
        rintro e w' ⟨rfl, rfl⟩
        rw [ENA.out]
        go_wp2_with fail
        refine (count_txt _ P1 b w6 I36.out).mono ?_
        rintro e w' ⟨rfl, rfl⟩
        rw [ENB.out]
        have hj0 : True := trivial
        obtain ⟨bb, off, x, hAe, hx, hcx, _⟩ := S06.out.row.look (j := 999) (by omega)
        subst hAe
        have hlast : a.length = 999 + 1 := HL0.out
        by_cases hn1 : m1 = 0
        · subst hn1
          have hbe : b = [] := List.eq_nil_of_length_eq_zero HL1.out
          have hmt : meet a b = 0 := by rw [hbe]; exact meet_end a
          rw [hmt] at hlc
          clear hx hlast
          have q1 : ((nz : Int) == (na : Int) + (nb : Int) - 1) = true := by simp; omega
          go_wp2_with fail
          refine (count_txt _ P2 (a ++ b) w6 I6.out).mono ?_
          rintro e w' ⟨rfl, rfl⟩
          rw [ENZ.out]
          go_wp2_with fail
          go_ret
          exact ⟨rfl, BB.out⟩
        · have in1 : 0 < (m1 : Int) := by omega
          have HX := Lib.hid hx
          have HLA := Lib.hid hlast
          clear hx hlast
          by_cases h13 : x = 13
          · subst h13
            obtain ⟨bc, of2, y, hAe, hy, hcy, _⟩ := S16.out.row.look (j := 0) (by omega)
            subst hAe
            rw [Nat.add_zero] at hcy
            by_cases h10 : y = 10
            · subst h10
              have hmt := meet_yes HLA.out HX.out hy
              rw [hmt] at hlc
              clear hy
              have q1 : ((nz : Int) == (na : Int) + (nb : Int) - 1 - 1) = true := by simp; omega
              have q2 : ((nz : Int) == (na : Int) + (nb : Int) - 2) = true := by simp; omega
              go_wp2_with fail
              refine (count_txt _ P2 (a ++ b) w6 I6.out).mono ?_
              rintro e w' ⟨rfl, rfl⟩
              rw [ENZ.out]
              go_wp2_with fail
              go_ret
              exact ⟨rfl, BB.out⟩
            · have hmt : meet a b = 0 := meet_no2 hy h10
              rw [hmt] at hlc
              have d10 : (y == 10) = false := by simpa using h10
              clear hy h10
              have q1 : ((nz : Int) == (na : Int) + (nb : Int) - 1) = true := by simp; omega
              go_wp2_with fail
              refine (count_txt _ P2 (a ++ b) w6 I6.out).mono ?_
              rintro e w' ⟨rfl, rfl⟩
              rw [ENZ.out]
              go_wp2_with fail
              go_ret
              exact ⟨rfl, BB.out⟩
          · have hmt : meet a b = 0 := meet_no1 HLA.out HX.out h13
            rw [hmt] at hlc
            have d13 : (x == 13) = false := by simpa using h13
            clear h13
            have q1 : ((nz : Int) == (na : Int) + (nb : Int) - 1) = true := by simp; omega
            go_wp2_with fail
            refine (count_txt _ P2 (a ++ b) w6 I6.out).mono ?_
            rintro e w' ⟨rfl, rfl⟩
            rw [ENZ.out]
            go_wp2_with fail
            go_ret
            exact ⟨rfl, BB.out⟩
      · refine (new_bad _ _ _ _ _ S12.out HB1.out H1.out he1).mono ?_
        rintro e' w3 ⟨rfl, rfl⟩
        have d : (e2 != 0) = true := by simpa using he1
        clear he1
        go_wp2_with fail
        go_ret
        exact ⟨rfl, B2.out⟩
    · refine (new_bad _ _ _ _ _ S0.out HB0.out H0.out he0).mono ?_
      rintro e' w2 ⟨rfl, rfl⟩
      have d : (e0 != 0) = true := by simpa using he0
      clear he0 hee
      go_wp2_with fail
      by_cases he1 : e1 = 0
      · subst he1
        refine (new_ok _ _ _ _ _ S1.out HB1.out H1.out (by omega)).mono ?_
        rintro e w3 ⟨P1, rfl, hI, hb3⟩
        have B3 := Lib.hid (ext_trans B1.out hb3)
        clear hI hb3
        go_wp2_with fail
        go_ret
        exact ⟨rfl, B3.out⟩
      · refine (new_bad _ _ _ _ _ S1.out HB1.out H1.out he1).mono ?_
        rintro e' w3 ⟨rfl, rfl⟩
        clear he1
        go_wp2_with fail
        go_ret
        exact ⟨rfl, B1.out⟩
  · go_enter Try.func8, Try.ntmps8
    go_wp2_with fail
    refine (works_true w).mono ?_
    rintro e w1 ⟨rfl, hb1⟩
    go_wp2_with fail
    go_quiet (fail)
    go_wp2_with fail
    have S0 := Lib.hid ((T0.out.below hb1).drewN nq)
    have S1 := Lib.hid ((T1.out.below hb1).drewN nq)
    have B1 := Lib.hid (below_drewN hb1 nq)
    clear hb1
    by_cases he0 : e0 = 0
    · obtain rfl := hee he0
      subst he0
      refine (new_ok _ _ _ _ _ S0.out HB0.out H0.out (by omega)).mono ?_
      rintro e w2 ⟨P0, rfl, hI, hb2⟩
      have B2 := Lib.hid (ext_trans B1.out hb2)
      have I2 := Lib.hid hI
      have S02 := Lib.hid (S0.out.below hb2)
      have S12 := Lib.hid (S1.out.below hb2)
      clear hb2 hI
      go_wp2_with fail
      by_cases he1 : e2 = 0
      · subst he1
        refine (new_ok _ _ _ _ _ S12.out HB1.out H1.out (by omega)).mono ?_
        rintro e w3 ⟨P1, rfl, hI, hb3⟩
        have B3 := Lib.hid (ext_trans B2.out hb3)
        have I3 := Lib.hid hI
        have I23 := Lib.hid (I2.out.ext hb3)
        have S03 := Lib.hid (S02.out.below hb3)
        have S13 := Lib.hid (S12.out.below hb3)
        clear hb3 hI
        go_wp2_with fail
        refine (copy_any _ _ _ _ _ S03.out (by omega)).mono ?_
        rintro e w4 ⟨v4, rfl, ho4, hb4⟩
        go_wp2_with (at_builtin; refine wp_app rfl _ _ _ rfl _ Try.underlying22 hi hz0 hz1 hz2 rfl rfl ho4 rfl (S13.out.below hb4) (by rw [HL0.out]; omega) (by rw [HL0.out]; unfold maxLen; omega) hb4.size ?_; intro v5 w5 ho5 hb5 _)
        obtain ⟨A5, c5, hv5, t5, _⟩ := ho5.sl
        rw [hv5]
        clear hv5
        have B5 := Lib.hid (hb4.trans hb5)
        refine (new_ok _ _ _ _ _ t5 HBB.out H2.out (by rw [List.length_append, HL0.out, HL1.out]; omega)).mono ?_
        rintro e w6 ⟨P2, rfl, hI, hb6⟩
        have B6 := Lib.hid (ext_trans B5.out hb6)
        have BB := Lib.hid (ext_trans B3.out B6.out)
        have I6 := Lib.hid hI
        have I26 := Lib.hid (I23.out.ext B6.out)
        have I36 := Lib.hid (I3.out.ext B6.out)
        have S06 := Lib.hid (S03.out.below B6.out)
        have S16 := Lib.hid (S13.out.below B6.out)
        clear hI hb6 t5 ho5 ho4 hb4 hb5
        go_wp2_with fail
        refine (count_txt _ P0 a w6 I26.out).mono ?_
        rintro e w' ⟨rfl, rfl⟩
        rw [ENA.out]
        go_wp2_with fail
        refine (count_txt _ P1 b w6 I36.out).mono ?_
        rintro e w' ⟨rfl, rfl⟩
        rw [ENB.out]
        have hj0 : True := trivial
        obtain ⟨bb, off, x, hAe, hx, hcx, _⟩ := S06.out.row.look (j := 999) (by omega)
        subst hAe
        have hlast : a.length = 999 + 1 := HL0.out
        have HX := Lib.hid hx
        have HLA := Lib.hid hlast
        clear hx hlast
        by_cases h13 : x = 13
        · subst h13
          obtain ⟨bc, of2, y, hAe, hy, hcy, _⟩ := S16.out.row.look (j := 0) (by omega)
          subst hAe
          rw [Nat.add_zero] at hcy
          by_cases h10 : y = 10
          · subst h10
            have hmt := meet_yes HLA.out HX.out hy
            rw [hmt] at hlc
            clear hy
            have q1 : ((nz : Int) == (na : Int) + (nb : Int) - 1 - 1) = true := by simp; omega
            have q2 : ((nz : Int) == (na : Int) + (nb : Int) - 2) = true := by simp; omega
            go_wp2_with fail
            refine (count_txt _ P2 (a ++ b) w6 I6.out).mono ?_
            rintro e w' ⟨rfl, rfl⟩
            rw [ENZ.out]
            go_wp2_with fail
            go_ret
            exact ⟨rfl, BB.out⟩
          · have hmt : meet a b = 0 := meet_no2 hy h10
            rw [hmt] at hlc
            have d10 : (y == 10) = false := by simpa using h10
            clear hy h10
            have q1 : ((nz : Int) == (na : Int) + (nb : Int) - 1) = true := by simp; omega
            go_wp2_with fail
            refine (count_txt _ P2 (a ++ b) w6 I6.out).mono ?_
            rintro e w' ⟨rfl, rfl⟩
            rw [ENZ.out]
            go_wp2_with fail
            go_ret
            exact ⟨rfl, BB.out⟩
        · have hmt : meet a b = 0 := meet_no1 HLA.out HX.out h13
          rw [hmt] at hlc
          have d13 : (x == 13) = false := by simpa using h13
          clear h13
          have q1 : ((nz : Int) == (na : Int) + (nb : Int) - 1) = true := by simp; omega
          go_wp2_with fail
          refine (count_txt _ P2 (a ++ b) w6 I6.out).mono ?_
          rintro e w' ⟨rfl, rfl⟩
          rw [ENZ.out]
          go_wp2_with fail
          go_ret
          exact ⟨rfl, BB.out⟩
      · refine (new_bad _ _ _ _ _ S12.out HB1.out H1.out he1).mono ?_
        rintro e' w3 ⟨rfl, rfl⟩
        have d : (e2 != 0) = true := by simpa using he1
        clear he1
        go_wp2_with fail
        go_ret
        exact ⟨rfl, B2.out⟩
    · refine (new_bad _ _ _ _ _ S0.out HB0.out H0.out he0).mono ?_
      rintro e' w2 ⟨rfl, rfl⟩
      have d : (e0 != 0) = true := by simpa using he0
      clear he0 hee
      go_wp2_with fail
      by_cases he1 : e1 = 0
      · subst he1
        refine (new_ok _ _ _ _ _ S1.out HB1.out H1.out (by omega)).mono ?_
        rintro e w3 ⟨P1, rfl, hI, hb3⟩
        have B3 := Lib.hid (ext_trans B1.out hb3)
        clear hI hb3
        go_wp2_with fail
        go_ret
        exact ⟨rfl, B3.out⟩
      · refine (new_bad _ _ _ _ _ S1.out HB1.out H1.out he1).mono ?_
        rintro e' w3 ⟨rfl, rfl⟩
        clear he1
        go_wp2_with fail
        go_ret
        exact ⟨rfl, B1.out⟩
end Go.Proofs.Ytlicfeepmhaemaa
