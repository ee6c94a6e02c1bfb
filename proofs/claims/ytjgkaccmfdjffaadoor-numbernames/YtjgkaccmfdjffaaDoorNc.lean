/-
  What the document's Check of layer 9 computes.
-/
import Derived.Test.YtjgkaccmfdjffaaDoorNb
namespace Go.Proofs.YtjgkaccmfdjffaaDoor
set_option linter.unusedVariables false
set_option linter.unusedSimpArgs false
open Go.RowKit
namespace Nu
open Wd We

theorem hd1_at {l : List Int} {p : Nat} {x : Int} (h : l[p]? = some x) (y z : Int) : hd1 y z (l.drop p) = decide (x = y ∨ x = z) := by
  have hp : p < l.length := (List.getElem?_eq_some_iff.1 h).1
  rw [List.getElem?_eq_getElem hp] at h
  injection h with h
  rw [List.drop_eq_getElem_cons hp, h]; rfl
theorem hdd_lt {l : List Int} {p : Nat} (h : hdd (l.drop p) = true) : p < l.length := by
  rcases Nat.lt_or_ge p l.length with g | g
  · exact g
  · rw [List.drop_of_length_le g] at h; cases h
theorem hd1_lt {l : List Int} {p : Nat} {x y : Int} (h : hd1 x y (l.drop p) = true) : p < l.length := by
  rcases Nat.lt_or_ge p l.length with g | g
  · exact g
  · rw [List.drop_of_length_le g] at h; cases h
theorem rn_to {l : List Int} {p : Nat} (hp : p ≤ l.length) : p + rn (l.drop p) ≤ l.length := by
  have := rn_le (l.drop p)
  rw [List.length_drop] at this
  omega
theorem rshort_sl {A : Option Addr} {n c : Nat} {l : List Int} {w : World} (s : Sl .u8 w A n c l) (i : Nat) :
    Calls Tryd.prog 32 #[.slice A n c, .int .i64 (i : Int)] w fun e w' => e = .returned (.int .i64 (sho (l.drop i))) ∧ w = w' := rshort_any _ n c l i w s.len
/-- what the document's Check answers -/
def CP (l : List Int) (a : Int) (w : World) (e : Ending) (w' : World) : Prop := e = .returned (.tuple #[.int .i64 (uc l a).1, .int .i64 (uc l a).2]) ∧ w = w'
set_option maxRecDepth 100000 in
set_option maxHeartbeats 8000000 in
theorem rcheck_any9 (A : Option Addr) (n c : Nat) (l : List Int) (a : Int) (w : World) (s : Sl .u8 w A n c l) (hb : IsB l) (hn : n ≤ 140737488351232) :
    Calls Tryd.prog 14 #[.slice A n c, .int .i64 a] w (CP l a w) := by
  have hlen := s.len
  have S := Lib.hid s
  have HB := Lib.hid hb
  clear s hb
  by_cases ha : a < 0 ∨ (n : Int) < a
  · have hE := Lib.hid (show uc l a = (0, 9) from uc_out (by rw [hlen]; exact ha))
    rcases ha with ha | ha
    · go_enter Tryd.func14, Tryd.ntmps14
      go_wp2
      go_ret2
      unfold CP; rw [hE.out]; exact ⟨rfl, rfl⟩
    · have ha' : ¬ a < 0 := by omega
      go_enter Tryd.func14, Tryd.ntmps14
      go_wp2
      go_ret2
      unfold CP; rw [hE.out]; exact ⟨rfl, rfl⟩
  obtain ⟨p0, rfl⟩ := Int.eq_ofNat_of_zero_le (a := a) (by omega)
  have hp0 : p0 ≤ n := by omega
  have j1 : ¬ (p0 : Int) < 0 := by omega
  have j2 : ¬ (n : Int) < (p0 : Int) := by omega
  clear ha
  go_enter Tryd.func14, Tryd.ntmps14
  cases hsp045 : hd1 45 45 (l.drop p0) with
  | true =>
    have CC := Lib.hid (rsign_any _ n c l p0 45 45 w S.out HB.out)
    rw [hsp045] at CC
    have hsp045H := Lib.hid hsp045
    clear hsp045
    go_wp2_with fail
    refine CC.out.mono ?_
    rintro e w' ⟨rfl, rfl⟩
    clear CC
    have ltp1 := hd1_lt hsp045H.out
    rw [hlen] at ltp1
    obtain ⟨p1, ep1⟩ : ∃ q, p0 + 1 = q := ⟨_, rfl⟩
    have cp1 : (p0 : Int) + 1 = (p1 : Int) := by omega
    have bp1 : p1 ≤ n := by omega
    cases hdp1 : hdd (l.drop p1) with
    | true =>
      have CC := Lib.hid (rdigit_any _ n c l p1 w S.out HB.out)
      rw [hdp1] at CC
      have hdp1H := Lib.hid hdp1
      clear hdp1
      go_wp2_with fail
      refine CC.out.mono ?_
      rintro e w' ⟨rfl, rfl⟩
      clear CC
      have ltp1 := hdd_lt hdp1H.out
      rw [hlen] at ltp1
      obtain ⟨bp1, offp1, xp1, hAp1, hxp1, hcp1, _⟩ := S.out.row.look ltp1
      subst hAp1
      have h48p1 := Lib.hid (hd1_at hxp1 48 48)
      have ip1 : (p1 : Int) < (n : Int) := by omega
      by_cases zp1 : xp1 = 48
      · have g48 : Hid (hd1 48 48 (l.drop p1) = true) := Lib.hid (by rw [h48p1.out]; simp [zp1])
        clear h48p1 hxp1
        obtain ⟨p2, ep2⟩ : ∃ q, p1 + 1 = q := ⟨_, rfl⟩
        have cp2 : (p1 : Int) + 1 = (p2 : Int) := by omega
        have bp2' : p2 ≤ n := by omega
        cases hsp246 : hd1 46 46 (l.drop p2) with
        | true =>
          have CC := Lib.hid (rsign_any _ n c l p2 46 46 w S.out HB.out)
          rw [hsp246] at CC
          have hsp246H := Lib.hid hsp246
          clear hsp246
          go_wp2_with fail
          refine CC.out.mono ?_
          rintro e w' ⟨rfl, rfl⟩
          clear CC
          have ltp3 := hd1_lt hsp246H.out
          rw [hlen] at ltp3
          obtain ⟨p3, ep3⟩ : ∃ q, p2 + 1 = q := ⟨_, rfl⟩
          have cp3 : (p2 : Int) + 1 = (p3 : Int) := by omega
          have bp3 : p3 ≤ n := by omega
          cases hdp3 : hdd (l.drop p3) with
          | true =>
            have CC := Lib.hid (rdigit_any _ n c l p3 w S.out HB.out)
            rw [hdp3] at CC
            have hdp3H := Lib.hid hdp3
            clear hdp3
            go_wp2_with fail
            refine CC.out.mono ?_
            rintro e w' ⟨rfl, rfl⟩
            clear CC
            obtain ⟨p4, ep4⟩ : ∃ q, p3 + rn (l.drop p3) = q := ⟨_, rfl⟩
            have bp4 : p4 ≤ n := by have := rn_to (l := l) (p := p3) (by omega); omega
            have CC := Lib.hid (rrun_any _ n c l p3 w S.out HB.out (by omega) (by omega))
            rw [ep4] at CC
            go_wp2_with fail
            refine CC.out.mono ?_
            rintro e w' ⟨rfl, rfl⟩
            clear CC
            cases hsp4101 : hd1 101 69 (l.drop p4) with
            | true =>
              have CC := Lib.hid (rsign_any _ n c l p4 101 69 w S.out HB.out)
              rw [hsp4101] at CC
              have hsp4101H := Lib.hid hsp4101
              clear hsp4101
              go_wp2_with fail
              refine CC.out.mono ?_
              rintro e w' ⟨rfl, rfl⟩
              clear CC
              have ltp5 := hd1_lt hsp4101H.out
              rw [hlen] at ltp5
              obtain ⟨p5, ep5⟩ : ∃ q, p4 + 1 = q := ⟨_, rfl⟩
              have cp5 : (p4 : Int) + 1 = (p5 : Int) := by omega
              have bp5 : p5 ≤ n := by omega
              cases hsp543 : hd1 43 45 (l.drop p5) with
              | true =>
                have CC := Lib.hid (rsign_any _ n c l p5 43 45 w S.out HB.out)
                rw [hsp543] at CC
                have hsp543H := Lib.hid hsp543
                clear hsp543
                go_wp2_with fail
                refine CC.out.mono ?_
                rintro e w' ⟨rfl, rfl⟩
                clear CC
                have ltp6 := hd1_lt hsp543H.out
                rw [hlen] at ltp6
                obtain ⟨p6, ep6⟩ : ∃ q, p5 + 1 = q := ⟨_, rfl⟩
                have cp6 : (p5 : Int) + 1 = (p6 : Int) := by omega
                have bp6 : p6 ≤ n := by omega
                cases hdp6 : hdd (l.drop p6) with
                | true =>
                  have CC := Lib.hid (rdigit_any _ n c l p6 w S.out HB.out)
                  rw [hdp6] at CC
                  have hdp6H := Lib.hid hdp6
                  clear hdp6
                  go_wp2_with fail
                  refine CC.out.mono ?_
                  rintro e w' ⟨rfl, rfl⟩
                  clear CC
                  obtain ⟨p7, ep7⟩ : ∃ q, p6 + rn (l.drop p6) = q := ⟨_, rfl⟩
                  have bp7 : p7 ≤ n := by have := rn_to (l := l) (p := p6) (by omega); omega
                  have CC := Lib.hid (rrun_any _ n c l p6 w S.out HB.out (by omega) (by omega))
                  rw [ep7] at CC
                  go_wp2_with fail
                  refine CC.out.mono ?_
                  rintro e w' ⟨rfl, rfl⟩
                  clear CC
                  have HE : Hid (uc l (p0 : Int) = ((p7 : Int), 0)) := Lib.hid (uc_in (by omega) ((((((ck_yes hsp045H.out).trans (by rw [ep1])).trans ((ckI_zero hdp1H.out g48.out).trans (by rw [ep2]))).trans ((ckF_run hsp246H.out (by rw [ep3]; exact hdp3H.out)).trans (by rw [ep3, ep4]))).trans ((ckE_sign hsp4101H.out (by rw [ep5]; exact hsp543H.out)).trans (by rw [show p4 + 2 = p6 by omega]))).trans ((ckP_run hdp6H.out).trans (by rw [ep7]))))
                  go_wp2
                  go_ret2
                  unfold CP; rw [HE.out]; exact ⟨rfl, rfl⟩
                | false =>
                  have CC := Lib.hid (rdigit_any _ n c l p6 w S.out HB.out)
                  rw [hdp6] at CC
                  have hdp6H := Lib.hid hdp6
                  clear hdp6
                  go_wp2_with fail
                  refine CC.out.mono ?_
                  rintro e w' ⟨rfl, rfl⟩
                  clear CC
                  have HE : Hid (uc l (p0 : Int) = (0, sho (l.drop p6))) := Lib.hid (uc_in (by omega) ((((((ck_yes hsp045H.out).trans (by rw [ep1])).trans ((ckI_zero hdp1H.out g48.out).trans (by rw [ep2]))).trans ((ckF_run hsp246H.out (by rw [ep3]; exact hdp3H.out)).trans (by rw [ep3, ep4]))).trans ((ckE_sign hsp4101H.out (by rw [ep5]; exact hsp543H.out)).trans (by rw [show p4 + 2 = p6 by omega]))).trans (ckP_bad hdp6H.out)))
                  have CC := Lib.hid (rshort_sl S.out p6)
                  go_wp2_with fail
                  refine CC.out.mono ?_
                  rintro e w' ⟨rfl, rfl⟩
                  clear CC
                  go_wp2
                  go_ret2
                  unfold CP; rw [HE.out]; exact ⟨rfl, rfl⟩
              | false =>
                have CC := Lib.hid (rsign_any _ n c l p5 43 45 w S.out HB.out)
                rw [hsp543] at CC
                have hsp543H := Lib.hid hsp543
                clear hsp543
                go_wp2_with fail
                refine CC.out.mono ?_
                rintro e w' ⟨rfl, rfl⟩
                clear CC
                cases hdp5 : hdd (l.drop p5) with
                | true =>
                  have CC := Lib.hid (rdigit_any _ n c l p5 w S.out HB.out)
                  rw [hdp5] at CC
                  have hdp5H := Lib.hid hdp5
                  clear hdp5
                  go_wp2_with fail
                  refine CC.out.mono ?_
                  rintro e w' ⟨rfl, rfl⟩
                  clear CC
                  obtain ⟨p8, ep8⟩ : ∃ q, p5 + rn (l.drop p5) = q := ⟨_, rfl⟩
                  have bp8 : p8 ≤ n := by have := rn_to (l := l) (p := p5) (by omega); omega
                  have CC := Lib.hid (rrun_any _ n c l p5 w S.out HB.out (by omega) (by omega))
                  rw [ep8] at CC
                  go_wp2_with fail
                  refine CC.out.mono ?_
                  rintro e w' ⟨rfl, rfl⟩
                  clear CC
                  have HE : Hid (uc l (p0 : Int) = ((p8 : Int), 0)) := Lib.hid (uc_in (by omega) ((((((ck_yes hsp045H.out).trans (by rw [ep1])).trans ((ckI_zero hdp1H.out g48.out).trans (by rw [ep2]))).trans ((ckF_run hsp246H.out (by rw [ep3]; exact hdp3H.out)).trans (by rw [ep3, ep4]))).trans ((ckE_plain hsp4101H.out (by rw [ep5]; exact hsp543H.out)).trans (by rw [ep5]))).trans ((ckP_run hdp5H.out).trans (by rw [ep8]))))
                  go_wp2
                  go_ret2
                  unfold CP; rw [HE.out]; exact ⟨rfl, rfl⟩
                | false =>
                  have CC := Lib.hid (rdigit_any _ n c l p5 w S.out HB.out)
                  rw [hdp5] at CC
                  have hdp5H := Lib.hid hdp5
                  clear hdp5
                  go_wp2_with fail
                  refine CC.out.mono ?_
                  rintro e w' ⟨rfl, rfl⟩
                  clear CC
                  have HE : Hid (uc l (p0 : Int) = (0, sho (l.drop p5))) := Lib.hid (uc_in (by omega) ((((((ck_yes hsp045H.out).trans (by rw [ep1])).trans ((ckI_zero hdp1H.out g48.out).trans (by rw [ep2]))).trans ((ckF_run hsp246H.out (by rw [ep3]; exact hdp3H.out)).trans (by rw [ep3, ep4]))).trans ((ckE_plain hsp4101H.out (by rw [ep5]; exact hsp543H.out)).trans (by rw [ep5]))).trans (ckP_bad hdp5H.out)))
                  have CC := Lib.hid (rshort_sl S.out p5)
                  go_wp2_with fail
                  refine CC.out.mono ?_
                  rintro e w' ⟨rfl, rfl⟩
                  clear CC
                  go_wp2
                  go_ret2
                  unfold CP; rw [HE.out]; exact ⟨rfl, rfl⟩
            | false =>
              have CC := Lib.hid (rsign_any _ n c l p4 101 69 w S.out HB.out)
              rw [hsp4101] at CC
              have hsp4101H := Lib.hid hsp4101
              clear hsp4101
              go_wp2_with fail
              refine CC.out.mono ?_
              rintro e w' ⟨rfl, rfl⟩
              clear CC
              have HE : Hid (uc l (p0 : Int) = ((p4 : Int), 0)) := Lib.hid (uc_in (by omega) (((((ck_yes hsp045H.out).trans (by rw [ep1])).trans ((ckI_zero hdp1H.out g48.out).trans (by rw [ep2]))).trans ((ckF_run hsp246H.out (by rw [ep3]; exact hdp3H.out)).trans (by rw [ep3, ep4]))).trans (ckE_no hsp4101H.out)))
              go_wp2
              go_ret2
              unfold CP; rw [HE.out]; exact ⟨rfl, rfl⟩
          | false =>
            have CC := Lib.hid (rdigit_any _ n c l p3 w S.out HB.out)
            rw [hdp3] at CC
            have hdp3H := Lib.hid hdp3
            clear hdp3
            go_wp2_with fail
            refine CC.out.mono ?_
            rintro e w' ⟨rfl, rfl⟩
            clear CC
            have HE : Hid (uc l (p0 : Int) = (0, sho (l.drop p3))) := Lib.hid (uc_in (by omega) ((((ck_yes hsp045H.out).trans (by rw [ep1])).trans ((ckI_zero hdp1H.out g48.out).trans (by rw [ep2]))).trans ((ckF_bad hsp246H.out (by rw [ep3]; exact hdp3H.out)).trans (by rw [ep3]))))
            have CC := Lib.hid (rshort_sl S.out p3)
            go_wp2_with fail
            refine CC.out.mono ?_
            rintro e w' ⟨rfl, rfl⟩
            clear CC
            go_wp2
            go_ret2
            unfold CP; rw [HE.out]; exact ⟨rfl, rfl⟩
        | false =>
          have CC := Lib.hid (rsign_any _ n c l p2 46 46 w S.out HB.out)
          rw [hsp246] at CC
          have hsp246H := Lib.hid hsp246
          clear hsp246
          go_wp2_with fail
          refine CC.out.mono ?_
          rintro e w' ⟨rfl, rfl⟩
          clear CC
          cases hsp2101 : hd1 101 69 (l.drop p2) with
          | true =>
            have CC := Lib.hid (rsign_any _ n c l p2 101 69 w S.out HB.out)
            rw [hsp2101] at CC
            have hsp2101H := Lib.hid hsp2101
            clear hsp2101
            go_wp2_with fail
            refine CC.out.mono ?_
            rintro e w' ⟨rfl, rfl⟩
            clear CC
            have ltp9 := hd1_lt hsp2101H.out
            rw [hlen] at ltp9
            obtain ⟨p9, ep9⟩ : ∃ q, p2 + 1 = q := ⟨_, rfl⟩
            have cp9 : (p2 : Int) + 1 = (p9 : Int) := by omega
            have bp9 : p9 ≤ n := by omega
            cases hsp943 : hd1 43 45 (l.drop p9) with
            | true =>
              have CC := Lib.hid (rsign_any _ n c l p9 43 45 w S.out HB.out)
              rw [hsp943] at CC
              have hsp943H := Lib.hid hsp943
              clear hsp943
              go_wp2_with fail
              refine CC.out.mono ?_
              rintro e w' ⟨rfl, rfl⟩
              clear CC
              have ltp10 := hd1_lt hsp943H.out
              rw [hlen] at ltp10
              obtain ⟨p10, ep10⟩ : ∃ q, p9 + 1 = q := ⟨_, rfl⟩
              have cp10 : (p9 : Int) + 1 = (p10 : Int) := by omega
              have bp10 : p10 ≤ n := by omega
              cases hdp10 : hdd (l.drop p10) with
              | true =>
                have CC := Lib.hid (rdigit_any _ n c l p10 w S.out HB.out)
                rw [hdp10] at CC
                have hdp10H := Lib.hid hdp10
                clear hdp10
                go_wp2_with fail
                refine CC.out.mono ?_
                rintro e w' ⟨rfl, rfl⟩
                clear CC
                obtain ⟨p11, ep11⟩ : ∃ q, p10 + rn (l.drop p10) = q := ⟨_, rfl⟩
                have bp11 : p11 ≤ n := by have := rn_to (l := l) (p := p10) (by omega); omega
                have CC := Lib.hid (rrun_any _ n c l p10 w S.out HB.out (by omega) (by omega))
                rw [ep11] at CC
                go_wp2_with fail
                refine CC.out.mono ?_
                rintro e w' ⟨rfl, rfl⟩
                clear CC
                have HE : Hid (uc l (p0 : Int) = ((p11 : Int), 0)) := Lib.hid (uc_in (by omega) ((((((ck_yes hsp045H.out).trans (by rw [ep1])).trans ((ckI_zero hdp1H.out g48.out).trans (by rw [ep2]))).trans (ckF_no hsp246H.out)).trans ((ckE_sign hsp2101H.out (by rw [ep9]; exact hsp943H.out)).trans (by rw [show p2 + 2 = p10 by omega]))).trans ((ckP_run hdp10H.out).trans (by rw [ep11]))))
                go_wp2
                go_ret2
                unfold CP; rw [HE.out]; exact ⟨rfl, rfl⟩
              | false =>
                have CC := Lib.hid (rdigit_any _ n c l p10 w S.out HB.out)
                rw [hdp10] at CC
                have hdp10H := Lib.hid hdp10
                clear hdp10
                go_wp2_with fail
                refine CC.out.mono ?_
                rintro e w' ⟨rfl, rfl⟩
                clear CC
                have HE : Hid (uc l (p0 : Int) = (0, sho (l.drop p10))) := Lib.hid (uc_in (by omega) ((((((ck_yes hsp045H.out).trans (by rw [ep1])).trans ((ckI_zero hdp1H.out g48.out).trans (by rw [ep2]))).trans (ckF_no hsp246H.out)).trans ((ckE_sign hsp2101H.out (by rw [ep9]; exact hsp943H.out)).trans (by rw [show p2 + 2 = p10 by omega]))).trans (ckP_bad hdp10H.out)))
                have CC := Lib.hid (rshort_sl S.out p10)
                go_wp2_with fail
                refine CC.out.mono ?_
                rintro e w' ⟨rfl, rfl⟩
                clear CC
                go_wp2
                go_ret2
                unfold CP; rw [HE.out]; exact ⟨rfl, rfl⟩
            | false =>
              have CC := Lib.hid (rsign_any _ n c l p9 43 45 w S.out HB.out)
              rw [hsp943] at CC
              have hsp943H := Lib.hid hsp943
              clear hsp943
              go_wp2_with fail
              refine CC.out.mono ?_
              rintro e w' ⟨rfl, rfl⟩
              clear CC
              cases hdp9 : hdd (l.drop p9) with
              | true =>
                have CC := Lib.hid (rdigit_any _ n c l p9 w S.out HB.out)
                rw [hdp9] at CC
                have hdp9H := Lib.hid hdp9
                clear hdp9
                go_wp2_with fail
                refine CC.out.mono ?_
                rintro e w' ⟨rfl, rfl⟩
                clear CC
                obtain ⟨p12, ep12⟩ : ∃ q, p9 + rn (l.drop p9) = q := ⟨_, rfl⟩
                have bp12 : p12 ≤ n := by have := rn_to (l := l) (p := p9) (by omega); omega
                have CC := Lib.hid (rrun_any _ n c l p9 w S.out HB.out (by omega) (by omega))
                rw [ep12] at CC
                go_wp2_with fail
                refine CC.out.mono ?_
                rintro e w' ⟨rfl, rfl⟩
                clear CC
                have HE : Hid (uc l (p0 : Int) = ((p12 : Int), 0)) := Lib.hid (uc_in (by omega) ((((((ck_yes hsp045H.out).trans (by rw [ep1])).trans ((ckI_zero hdp1H.out g48.out).trans (by rw [ep2]))).trans (ckF_no hsp246H.out)).trans ((ckE_plain hsp2101H.out (by rw [ep9]; exact hsp943H.out)).trans (by rw [ep9]))).trans ((ckP_run hdp9H.out).trans (by rw [ep12]))))
                go_wp2
                go_ret2
                unfold CP; rw [HE.out]; exact ⟨rfl, rfl⟩
              | false =>
                have CC := Lib.hid (rdigit_any _ n c l p9 w S.out HB.out)
                rw [hdp9] at CC
                have hdp9H := Lib.hid hdp9
                clear hdp9
                go_wp2_with fail
                refine CC.out.mono ?_
                rintro e w' ⟨rfl, rfl⟩
                clear CC
                have HE : Hid (uc l (p0 : Int) = (0, sho (l.drop p9))) := Lib.hid (uc_in (by omega) ((((((ck_yes hsp045H.out).trans (by rw [ep1])).trans ((ckI_zero hdp1H.out g48.out).trans (by rw [ep2]))).trans (ckF_no hsp246H.out)).trans ((ckE_plain hsp2101H.out (by rw [ep9]; exact hsp943H.out)).trans (by rw [ep9]))).trans (ckP_bad hdp9H.out)))
                have CC := Lib.hid (rshort_sl S.out p9)
                go_wp2_with fail
                refine CC.out.mono ?_
                rintro e w' ⟨rfl, rfl⟩
                clear CC
                go_wp2
                go_ret2
                unfold CP; rw [HE.out]; exact ⟨rfl, rfl⟩
          | false =>
            have CC := Lib.hid (rsign_any _ n c l p2 101 69 w S.out HB.out)
            rw [hsp2101] at CC
            have hsp2101H := Lib.hid hsp2101
            clear hsp2101
            go_wp2_with fail
            refine CC.out.mono ?_
            rintro e w' ⟨rfl, rfl⟩
            clear CC
            have HE : Hid (uc l (p0 : Int) = ((p2 : Int), 0)) := Lib.hid (uc_in (by omega) (((((ck_yes hsp045H.out).trans (by rw [ep1])).trans ((ckI_zero hdp1H.out g48.out).trans (by rw [ep2]))).trans (ckF_no hsp246H.out)).trans (ckE_no hsp2101H.out)))
            go_wp2
            go_ret2
            unfold CP; rw [HE.out]; exact ⟨rfl, rfl⟩
      · have g48 : Hid (hd1 48 48 (l.drop p1) = false) := Lib.hid (by rw [h48p1.out]; simp [zp1])
        clear h48p1 hxp1
        obtain ⟨p13, ep13⟩ : ∃ q, p1 + rn (l.drop p1) = q := ⟨_, rfl⟩
        have bp13 : p13 ≤ n := by have := rn_to (l := l) (p := p1) (by omega); omega
        have CC := Lib.hid (rrun_any _ n c l p1 w S.out HB.out (by omega) (by omega))
        rw [ep13] at CC
        go_wp2_with fail
        refine CC.out.mono ?_
        rintro e w' ⟨rfl, rfl⟩
        clear CC
        cases hsp1346 : hd1 46 46 (l.drop p13) with
        | true =>
          have CC := Lib.hid (rsign_any _ n c l p13 46 46 w S.out HB.out)
          rw [hsp1346] at CC
          have hsp1346H := Lib.hid hsp1346
          clear hsp1346
          go_wp2_with fail
          refine CC.out.mono ?_
          rintro e w' ⟨rfl, rfl⟩
          clear CC
          have ltp14 := hd1_lt hsp1346H.out
          rw [hlen] at ltp14
          obtain ⟨p14, ep14⟩ : ∃ q, p13 + 1 = q := ⟨_, rfl⟩
          have cp14 : (p13 : Int) + 1 = (p14 : Int) := by omega
          have bp14 : p14 ≤ n := by omega
          cases hdp14 : hdd (l.drop p14) with
          | true =>
            have CC := Lib.hid (rdigit_any _ n c l p14 w S.out HB.out)
            rw [hdp14] at CC
            have hdp14H := Lib.hid hdp14
            clear hdp14
            go_wp2_with fail
            refine CC.out.mono ?_
            rintro e w' ⟨rfl, rfl⟩
            clear CC
            obtain ⟨p15, ep15⟩ : ∃ q, p14 + rn (l.drop p14) = q := ⟨_, rfl⟩
            have bp15 : p15 ≤ n := by have := rn_to (l := l) (p := p14) (by omega); omega
            have CC := Lib.hid (rrun_any _ n c l p14 w S.out HB.out (by omega) (by omega))
            rw [ep15] at CC
            go_wp2_with fail
            refine CC.out.mono ?_
            rintro e w' ⟨rfl, rfl⟩
            clear CC
            cases hsp15101 : hd1 101 69 (l.drop p15) with
            | true =>
              have CC := Lib.hid (rsign_any _ n c l p15 101 69 w S.out HB.out)
              rw [hsp15101] at CC
              have hsp15101H := Lib.hid hsp15101
              clear hsp15101
              go_wp2_with fail
              refine CC.out.mono ?_
              rintro e w' ⟨rfl, rfl⟩
              clear CC
              have ltp16 := hd1_lt hsp15101H.out
              rw [hlen] at ltp16
              obtain ⟨p16, ep16⟩ : ∃ q, p15 + 1 = q := ⟨_, rfl⟩
              have cp16 : (p15 : Int) + 1 = (p16 : Int) := by omega
              have bp16 : p16 ≤ n := by omega
              cases hsp1643 : hd1 43 45 (l.drop p16) with
              | true =>
                have CC := Lib.hid (rsign_any _ n c l p16 43 45 w S.out HB.out)
                rw [hsp1643] at CC
                have hsp1643H := Lib.hid hsp1643
                clear hsp1643
                go_wp2_with fail
                refine CC.out.mono ?_
                rintro e w' ⟨rfl, rfl⟩
                clear CC
                have ltp17 := hd1_lt hsp1643H.out
                rw [hlen] at ltp17
                obtain ⟨p17, ep17⟩ : ∃ q, p16 + 1 = q := ⟨_, rfl⟩
                have cp17 : (p16 : Int) + 1 = (p17 : Int) := by omega
                have bp17 : p17 ≤ n := by omega
                cases hdp17 : hdd (l.drop p17) with
                | true =>
                  have CC := Lib.hid (rdigit_any _ n c l p17 w S.out HB.out)
                  rw [hdp17] at CC
                  have hdp17H := Lib.hid hdp17
                  clear hdp17
                  go_wp2_with fail
                  refine CC.out.mono ?_
                  rintro e w' ⟨rfl, rfl⟩
                  clear CC
                  obtain ⟨p18, ep18⟩ : ∃ q, p17 + rn (l.drop p17) = q := ⟨_, rfl⟩
                  have bp18 : p18 ≤ n := by have := rn_to (l := l) (p := p17) (by omega); omega
                  have CC := Lib.hid (rrun_any _ n c l p17 w S.out HB.out (by omega) (by omega))
                  rw [ep18] at CC
                  go_wp2_with fail
                  refine CC.out.mono ?_
                  rintro e w' ⟨rfl, rfl⟩
                  clear CC
                  have HE : Hid (uc l (p0 : Int) = ((p18 : Int), 0)) := Lib.hid (uc_in (by omega) ((((((ck_yes hsp045H.out).trans (by rw [ep1])).trans ((ckI_run hdp1H.out g48.out).trans (by rw [ep13]))).trans ((ckF_run hsp1346H.out (by rw [ep14]; exact hdp14H.out)).trans (by rw [ep14, ep15]))).trans ((ckE_sign hsp15101H.out (by rw [ep16]; exact hsp1643H.out)).trans (by rw [show p15 + 2 = p17 by omega]))).trans ((ckP_run hdp17H.out).trans (by rw [ep18]))))
                  go_wp2
                  go_ret2
                  unfold CP; rw [HE.out]; exact ⟨rfl, rfl⟩
                | false =>
                  have CC := Lib.hid (rdigit_any _ n c l p17 w S.out HB.out)
                  rw [hdp17] at CC
                  have hdp17H := Lib.hid hdp17
                  clear hdp17
                  go_wp2_with fail
                  refine CC.out.mono ?_
                  rintro e w' ⟨rfl, rfl⟩
                  clear CC
                  have HE : Hid (uc l (p0 : Int) = (0, sho (l.drop p17))) := Lib.hid (uc_in (by omega) ((((((ck_yes hsp045H.out).trans (by rw [ep1])).trans ((ckI_run hdp1H.out g48.out).trans (by rw [ep13]))).trans ((ckF_run hsp1346H.out (by rw [ep14]; exact hdp14H.out)).trans (by rw [ep14, ep15]))).trans ((ckE_sign hsp15101H.out (by rw [ep16]; exact hsp1643H.out)).trans (by rw [show p15 + 2 = p17 by omega]))).trans (ckP_bad hdp17H.out)))
                  have CC := Lib.hid (rshort_sl S.out p17)
                  go_wp2_with fail
                  refine CC.out.mono ?_
                  rintro e w' ⟨rfl, rfl⟩
                  clear CC
                  go_wp2
                  go_ret2
                  unfold CP; rw [HE.out]; exact ⟨rfl, rfl⟩
              | false =>
                have CC := Lib.hid (rsign_any _ n c l p16 43 45 w S.out HB.out)
                rw [hsp1643] at CC
                have hsp1643H := Lib.hid hsp1643
                clear hsp1643
                go_wp2_with fail
                refine CC.out.mono ?_
                rintro e w' ⟨rfl, rfl⟩
                clear CC
                cases hdp16 : hdd (l.drop p16) with
                | true =>
                  have CC := Lib.hid (rdigit_any _ n c l p16 w S.out HB.out)
                  rw [hdp16] at CC
                  have hdp16H := Lib.hid hdp16
                  clear hdp16
                  go_wp2_with fail
                  refine CC.out.mono ?_
                  rintro e w' ⟨rfl, rfl⟩
                  clear CC
                  obtain ⟨p19, ep19⟩ : ∃ q, p16 + rn (l.drop p16) = q := ⟨_, rfl⟩
                  have bp19 : p19 ≤ n := by have := rn_to (l := l) (p := p16) (by omega); omega
                  have CC := Lib.hid (rrun_any _ n c l p16 w S.out HB.out (by omega) (by omega))
                  rw [ep19] at CC
                  go_wp2_with fail
                  refine CC.out.mono ?_
                  rintro e w' ⟨rfl, rfl⟩
                  clear CC
                  have HE : Hid (uc l (p0 : Int) = ((p19 : Int), 0)) := Lib.hid (uc_in (by omega) ((((((ck_yes hsp045H.out).trans (by rw [ep1])).trans ((ckI_run hdp1H.out g48.out).trans (by rw [ep13]))).trans ((ckF_run hsp1346H.out (by rw [ep14]; exact hdp14H.out)).trans (by rw [ep14, ep15]))).trans ((ckE_plain hsp15101H.out (by rw [ep16]; exact hsp1643H.out)).trans (by rw [ep16]))).trans ((ckP_run hdp16H.out).trans (by rw [ep19]))))
                  go_wp2
                  go_ret2
                  unfold CP; rw [HE.out]; exact ⟨rfl, rfl⟩
                | false =>
                  have CC := Lib.hid (rdigit_any _ n c l p16 w S.out HB.out)
                  rw [hdp16] at CC
                  have hdp16H := Lib.hid hdp16
                  clear hdp16
                  go_wp2_with fail
                  refine CC.out.mono ?_
                  rintro e w' ⟨rfl, rfl⟩
                  clear CC
                  have HE : Hid (uc l (p0 : Int) = (0, sho (l.drop p16))) := Lib.hid (uc_in (by omega) ((((((ck_yes hsp045H.out).trans (by rw [ep1])).trans ((ckI_run hdp1H.out g48.out).trans (by rw [ep13]))).trans ((ckF_run hsp1346H.out (by rw [ep14]; exact hdp14H.out)).trans (by rw [ep14, ep15]))).trans ((ckE_plain hsp15101H.out (by rw [ep16]; exact hsp1643H.out)).trans (by rw [ep16]))).trans (ckP_bad hdp16H.out)))
                  have CC := Lib.hid (rshort_sl S.out p16)
                  go_wp2_with fail
                  refine CC.out.mono ?_
                  rintro e w' ⟨rfl, rfl⟩
                  clear CC
                  go_wp2
                  go_ret2
                  unfold CP; rw [HE.out]; exact ⟨rfl, rfl⟩
            | false =>
              have CC := Lib.hid (rsign_any _ n c l p15 101 69 w S.out HB.out)
              rw [hsp15101] at CC
              have hsp15101H := Lib.hid hsp15101
              clear hsp15101
              go_wp2_with fail
              refine CC.out.mono ?_
              rintro e w' ⟨rfl, rfl⟩
              clear CC
              have HE : Hid (uc l (p0 : Int) = ((p15 : Int), 0)) := Lib.hid (uc_in (by omega) (((((ck_yes hsp045H.out).trans (by rw [ep1])).trans ((ckI_run hdp1H.out g48.out).trans (by rw [ep13]))).trans ((ckF_run hsp1346H.out (by rw [ep14]; exact hdp14H.out)).trans (by rw [ep14, ep15]))).trans (ckE_no hsp15101H.out)))
              go_wp2
              go_ret2
              unfold CP; rw [HE.out]; exact ⟨rfl, rfl⟩
          | false =>
            have CC := Lib.hid (rdigit_any _ n c l p14 w S.out HB.out)
            rw [hdp14] at CC
            have hdp14H := Lib.hid hdp14
            clear hdp14
            go_wp2_with fail
            refine CC.out.mono ?_
            rintro e w' ⟨rfl, rfl⟩
            clear CC
            have HE : Hid (uc l (p0 : Int) = (0, sho (l.drop p14))) := Lib.hid (uc_in (by omega) ((((ck_yes hsp045H.out).trans (by rw [ep1])).trans ((ckI_run hdp1H.out g48.out).trans (by rw [ep13]))).trans ((ckF_bad hsp1346H.out (by rw [ep14]; exact hdp14H.out)).trans (by rw [ep14]))))
            have CC := Lib.hid (rshort_sl S.out p14)
            go_wp2_with fail
            refine CC.out.mono ?_
            rintro e w' ⟨rfl, rfl⟩
            clear CC
            go_wp2
            go_ret2
            unfold CP; rw [HE.out]; exact ⟨rfl, rfl⟩
        | false =>
          have CC := Lib.hid (rsign_any _ n c l p13 46 46 w S.out HB.out)
          rw [hsp1346] at CC
          have hsp1346H := Lib.hid hsp1346
          clear hsp1346
          go_wp2_with fail
          refine CC.out.mono ?_
          rintro e w' ⟨rfl, rfl⟩
          clear CC
          cases hsp13101 : hd1 101 69 (l.drop p13) with
          | true =>
            have CC := Lib.hid (rsign_any _ n c l p13 101 69 w S.out HB.out)
            rw [hsp13101] at CC
            have hsp13101H := Lib.hid hsp13101
            clear hsp13101
            go_wp2_with fail
            refine CC.out.mono ?_
            rintro e w' ⟨rfl, rfl⟩
            clear CC
            have ltp20 := hd1_lt hsp13101H.out
            rw [hlen] at ltp20
            obtain ⟨p20, ep20⟩ : ∃ q, p13 + 1 = q := ⟨_, rfl⟩
            have cp20 : (p13 : Int) + 1 = (p20 : Int) := by omega
            have bp20 : p20 ≤ n := by omega
            cases hsp2043 : hd1 43 45 (l.drop p20) with
            | true =>
              have CC := Lib.hid (rsign_any _ n c l p20 43 45 w S.out HB.out)
              rw [hsp2043] at CC
              have hsp2043H := Lib.hid hsp2043
              clear hsp2043
              go_wp2_with fail
              refine CC.out.mono ?_
              rintro e w' ⟨rfl, rfl⟩
              clear CC
              have ltp21 := hd1_lt hsp2043H.out
              rw [hlen] at ltp21
              obtain ⟨p21, ep21⟩ : ∃ q, p20 + 1 = q := ⟨_, rfl⟩
              have cp21 : (p20 : Int) + 1 = (p21 : Int) := by omega
              have bp21 : p21 ≤ n := by omega
              cases hdp21 : hdd (l.drop p21) with
              | true =>
                have CC := Lib.hid (rdigit_any _ n c l p21 w S.out HB.out)
                rw [hdp21] at CC
                have hdp21H := Lib.hid hdp21
                clear hdp21
                go_wp2_with fail
                refine CC.out.mono ?_
                rintro e w' ⟨rfl, rfl⟩
                clear CC
                obtain ⟨p22, ep22⟩ : ∃ q, p21 + rn (l.drop p21) = q := ⟨_, rfl⟩
                have bp22 : p22 ≤ n := by have := rn_to (l := l) (p := p21) (by omega); omega
                have CC := Lib.hid (rrun_any _ n c l p21 w S.out HB.out (by omega) (by omega))
                rw [ep22] at CC
                go_wp2_with fail
                refine CC.out.mono ?_
                rintro e w' ⟨rfl, rfl⟩
                clear CC
                have HE : Hid (uc l (p0 : Int) = ((p22 : Int), 0)) := Lib.hid (uc_in (by omega) ((((((ck_yes hsp045H.out).trans (by rw [ep1])).trans ((ckI_run hdp1H.out g48.out).trans (by rw [ep13]))).trans (ckF_no hsp1346H.out)).trans ((ckE_sign hsp13101H.out (by rw [ep20]; exact hsp2043H.out)).trans (by rw [show p13 + 2 = p21 by omega]))).trans ((ckP_run hdp21H.out).trans (by rw [ep22]))))
                go_wp2
                go_ret2
                unfold CP; rw [HE.out]; exact ⟨rfl, rfl⟩
              | false =>
                have CC := Lib.hid (rdigit_any _ n c l p21 w S.out HB.out)
                rw [hdp21] at CC
                have hdp21H := Lib.hid hdp21
                clear hdp21
                go_wp2_with fail
                refine CC.out.mono ?_
                rintro e w' ⟨rfl, rfl⟩
                clear CC
                have HE : Hid (uc l (p0 : Int) = (0, sho (l.drop p21))) := Lib.hid (uc_in (by omega) ((((((ck_yes hsp045H.out).trans (by rw [ep1])).trans ((ckI_run hdp1H.out g48.out).trans (by rw [ep13]))).trans (ckF_no hsp1346H.out)).trans ((ckE_sign hsp13101H.out (by rw [ep20]; exact hsp2043H.out)).trans (by rw [show p13 + 2 = p21 by omega]))).trans (ckP_bad hdp21H.out)))
                have CC := Lib.hid (rshort_sl S.out p21)
                go_wp2_with fail
                refine CC.out.mono ?_
                rintro e w' ⟨rfl, rfl⟩
                clear CC
                go_wp2
                go_ret2
                unfold CP; rw [HE.out]; exact ⟨rfl, rfl⟩
            | false =>
              have CC := Lib.hid (rsign_any _ n c l p20 43 45 w S.out HB.out)
              rw [hsp2043] at CC
              have hsp2043H := Lib.hid hsp2043
              clear hsp2043
              go_wp2_with fail
              refine CC.out.mono ?_
              rintro e w' ⟨rfl, rfl⟩
              clear CC
              cases hdp20 : hdd (l.drop p20) with
              | true =>
                have CC := Lib.hid (rdigit_any _ n c l p20 w S.out HB.out)
                rw [hdp20] at CC
                have hdp20H := Lib.hid hdp20
                clear hdp20
                go_wp2_with fail
                refine CC.out.mono ?_
                rintro e w' ⟨rfl, rfl⟩
                clear CC
                obtain ⟨p23, ep23⟩ : ∃ q, p20 + rn (l.drop p20) = q := ⟨_, rfl⟩
                have bp23 : p23 ≤ n := by have := rn_to (l := l) (p := p20) (by omega); omega
                have CC := Lib.hid (rrun_any _ n c l p20 w S.out HB.out (by omega) (by omega))
                rw [ep23] at CC
                go_wp2_with fail
                refine CC.out.mono ?_
                rintro e w' ⟨rfl, rfl⟩
                clear CC
                have HE : Hid (uc l (p0 : Int) = ((p23 : Int), 0)) := Lib.hid (uc_in (by omega) ((((((ck_yes hsp045H.out).trans (by rw [ep1])).trans ((ckI_run hdp1H.out g48.out).trans (by rw [ep13]))).trans (ckF_no hsp1346H.out)).trans ((ckE_plain hsp13101H.out (by rw [ep20]; exact hsp2043H.out)).trans (by rw [ep20]))).trans ((ckP_run hdp20H.out).trans (by rw [ep23]))))
                go_wp2
                go_ret2
                unfold CP; rw [HE.out]; exact ⟨rfl, rfl⟩
              | false =>
                have CC := Lib.hid (rdigit_any _ n c l p20 w S.out HB.out)
                rw [hdp20] at CC
                have hdp20H := Lib.hid hdp20
                clear hdp20
                go_wp2_with fail
                refine CC.out.mono ?_
                rintro e w' ⟨rfl, rfl⟩
                clear CC
                have HE : Hid (uc l (p0 : Int) = (0, sho (l.drop p20))) := Lib.hid (uc_in (by omega) ((((((ck_yes hsp045H.out).trans (by rw [ep1])).trans ((ckI_run hdp1H.out g48.out).trans (by rw [ep13]))).trans (ckF_no hsp1346H.out)).trans ((ckE_plain hsp13101H.out (by rw [ep20]; exact hsp2043H.out)).trans (by rw [ep20]))).trans (ckP_bad hdp20H.out)))
                have CC := Lib.hid (rshort_sl S.out p20)
                go_wp2_with fail
                refine CC.out.mono ?_
                rintro e w' ⟨rfl, rfl⟩
                clear CC
                go_wp2
                go_ret2
                unfold CP; rw [HE.out]; exact ⟨rfl, rfl⟩
          | false =>
            have CC := Lib.hid (rsign_any _ n c l p13 101 69 w S.out HB.out)
            rw [hsp13101] at CC
            have hsp13101H := Lib.hid hsp13101
            clear hsp13101
            go_wp2_with fail
            refine CC.out.mono ?_
            rintro e w' ⟨rfl, rfl⟩
            clear CC
            have HE : Hid (uc l (p0 : Int) = ((p13 : Int), 0)) := Lib.hid (uc_in (by omega) (((((ck_yes hsp045H.out).trans (by rw [ep1])).trans ((ckI_run hdp1H.out g48.out).trans (by rw [ep13]))).trans (ckF_no hsp1346H.out)).trans (ckE_no hsp13101H.out)))
            go_wp2
            go_ret2
            unfold CP; rw [HE.out]; exact ⟨rfl, rfl⟩
    | false =>
      have CC := Lib.hid (rdigit_any _ n c l p1 w S.out HB.out)
      rw [hdp1] at CC
      have hdp1H := Lib.hid hdp1
      clear hdp1
      go_wp2_with fail
      refine CC.out.mono ?_
      rintro e w' ⟨rfl, rfl⟩
      clear CC
      have HE : Hid (uc l (p0 : Int) = (0, sho (l.drop p1))) := Lib.hid (uc_in (by omega) (((ck_yes hsp045H.out).trans (by rw [ep1])).trans (ckI_bad hdp1H.out)))
      have CC := Lib.hid (rshort_sl S.out p1)
      go_wp2_with fail
      refine CC.out.mono ?_
      rintro e w' ⟨rfl, rfl⟩
      clear CC
      go_wp2
      go_ret2
      unfold CP; rw [HE.out]; exact ⟨rfl, rfl⟩
  | false =>
    have CC := Lib.hid (rsign_any _ n c l p0 45 45 w S.out HB.out)
    rw [hsp045] at CC
    have hsp045H := Lib.hid hsp045
    clear hsp045
    go_wp2_with fail
    refine CC.out.mono ?_
    rintro e w' ⟨rfl, rfl⟩
    clear CC
    cases hdp0 : hdd (l.drop p0) with
    | true =>
      have CC := Lib.hid (rdigit_any _ n c l p0 w S.out HB.out)
      rw [hdp0] at CC
      have hdp0H := Lib.hid hdp0
      clear hdp0
      go_wp2_with fail
      refine CC.out.mono ?_
      rintro e w' ⟨rfl, rfl⟩
      clear CC
      have ltp0 := hdd_lt hdp0H.out
      rw [hlen] at ltp0
      obtain ⟨bp0, offp0, xp0, hAp0, hxp0, hcp0, _⟩ := S.out.row.look ltp0
      subst hAp0
      have h48p0 := Lib.hid (hd1_at hxp0 48 48)
      have ip0 : (p0 : Int) < (n : Int) := by omega
      by_cases zp0 : xp0 = 48
      · have g48 : Hid (hd1 48 48 (l.drop p0) = true) := Lib.hid (by rw [h48p0.out]; simp [zp0])
        clear h48p0 hxp0
        obtain ⟨p24, ep24⟩ : ∃ q, p0 + 1 = q := ⟨_, rfl⟩
        have cp24 : (p0 : Int) + 1 = (p24 : Int) := by omega
        have bp24' : p24 ≤ n := by omega
        cases hsp2446 : hd1 46 46 (l.drop p24) with
        | true =>
          have CC := Lib.hid (rsign_any _ n c l p24 46 46 w S.out HB.out)
          rw [hsp2446] at CC
          have hsp2446H := Lib.hid hsp2446
          clear hsp2446
          go_wp2_with fail
          refine CC.out.mono ?_
          rintro e w' ⟨rfl, rfl⟩
          clear CC
          have ltp25 := hd1_lt hsp2446H.out
          rw [hlen] at ltp25
          obtain ⟨p25, ep25⟩ : ∃ q, p24 + 1 = q := ⟨_, rfl⟩
          have cp25 : (p24 : Int) + 1 = (p25 : Int) := by omega
          have bp25 : p25 ≤ n := by omega
          cases hdp25 : hdd (l.drop p25) with
          | true =>
            have CC := Lib.hid (rdigit_any _ n c l p25 w S.out HB.out)
            rw [hdp25] at CC
            have hdp25H := Lib.hid hdp25
            clear hdp25
            go_wp2_with fail
            refine CC.out.mono ?_
            rintro e w' ⟨rfl, rfl⟩
            clear CC
            obtain ⟨p26, ep26⟩ : ∃ q, p25 + rn (l.drop p25) = q := ⟨_, rfl⟩
            have bp26 : p26 ≤ n := by have := rn_to (l := l) (p := p25) (by omega); omega
            have CC := Lib.hid (rrun_any _ n c l p25 w S.out HB.out (by omega) (by omega))
            rw [ep26] at CC
            go_wp2_with fail
            refine CC.out.mono ?_
            rintro e w' ⟨rfl, rfl⟩
            clear CC
            cases hsp26101 : hd1 101 69 (l.drop p26) with
            | true =>
              have CC := Lib.hid (rsign_any _ n c l p26 101 69 w S.out HB.out)
              rw [hsp26101] at CC
              have hsp26101H := Lib.hid hsp26101
              clear hsp26101
              go_wp2_with fail
              refine CC.out.mono ?_
              rintro e w' ⟨rfl, rfl⟩
              clear CC
              have ltp27 := hd1_lt hsp26101H.out
              rw [hlen] at ltp27
              obtain ⟨p27, ep27⟩ : ∃ q, p26 + 1 = q := ⟨_, rfl⟩
              have cp27 : (p26 : Int) + 1 = (p27 : Int) := by omega
              have bp27 : p27 ≤ n := by omega
              cases hsp2743 : hd1 43 45 (l.drop p27) with
              | true =>
                have CC := Lib.hid (rsign_any _ n c l p27 43 45 w S.out HB.out)
                rw [hsp2743] at CC
                have hsp2743H := Lib.hid hsp2743
                clear hsp2743
                go_wp2_with fail
                refine CC.out.mono ?_
                rintro e w' ⟨rfl, rfl⟩
                clear CC
                have ltp28 := hd1_lt hsp2743H.out
                rw [hlen] at ltp28
                obtain ⟨p28, ep28⟩ : ∃ q, p27 + 1 = q := ⟨_, rfl⟩
                have cp28 : (p27 : Int) + 1 = (p28 : Int) := by omega
                have bp28 : p28 ≤ n := by omega
                cases hdp28 : hdd (l.drop p28) with
                | true =>
                  have CC := Lib.hid (rdigit_any _ n c l p28 w S.out HB.out)
                  rw [hdp28] at CC
                  have hdp28H := Lib.hid hdp28
                  clear hdp28
                  go_wp2_with fail
                  refine CC.out.mono ?_
                  rintro e w' ⟨rfl, rfl⟩
                  clear CC
                  obtain ⟨p29, ep29⟩ : ∃ q, p28 + rn (l.drop p28) = q := ⟨_, rfl⟩
                  have bp29 : p29 ≤ n := by have := rn_to (l := l) (p := p28) (by omega); omega
                  have CC := Lib.hid (rrun_any _ n c l p28 w S.out HB.out (by omega) (by omega))
                  rw [ep29] at CC
                  go_wp2_with fail
                  refine CC.out.mono ?_
                  rintro e w' ⟨rfl, rfl⟩
                  clear CC
                  have HE : Hid (uc l (p0 : Int) = ((p29 : Int), 0)) := Lib.hid (uc_in (by omega) (((((ck_no hsp045H.out).trans ((ckI_zero hdp0H.out g48.out).trans (by rw [ep24]))).trans ((ckF_run hsp2446H.out (by rw [ep25]; exact hdp25H.out)).trans (by rw [ep25, ep26]))).trans ((ckE_sign hsp26101H.out (by rw [ep27]; exact hsp2743H.out)).trans (by rw [show p26 + 2 = p28 by omega]))).trans ((ckP_run hdp28H.out).trans (by rw [ep29]))))
                  go_wp2
                  go_ret2
                  unfold CP; rw [HE.out]; exact ⟨rfl, rfl⟩
                | false =>
                  have CC := Lib.hid (rdigit_any _ n c l p28 w S.out HB.out)
                  rw [hdp28] at CC
                  have hdp28H := Lib.hid hdp28
                  clear hdp28
                  go_wp2_with fail
                  refine CC.out.mono ?_
                  rintro e w' ⟨rfl, rfl⟩
                  clear CC
                  have HE : Hid (uc l (p0 : Int) = (0, sho (l.drop p28))) := Lib.hid (uc_in (by omega) (((((ck_no hsp045H.out).trans ((ckI_zero hdp0H.out g48.out).trans (by rw [ep24]))).trans ((ckF_run hsp2446H.out (by rw [ep25]; exact hdp25H.out)).trans (by rw [ep25, ep26]))).trans ((ckE_sign hsp26101H.out (by rw [ep27]; exact hsp2743H.out)).trans (by rw [show p26 + 2 = p28 by omega]))).trans (ckP_bad hdp28H.out)))
                  have CC := Lib.hid (rshort_sl S.out p28)
                  go_wp2_with fail
                  refine CC.out.mono ?_
                  rintro e w' ⟨rfl, rfl⟩
                  clear CC
                  go_wp2
                  go_ret2
                  unfold CP; rw [HE.out]; exact ⟨rfl, rfl⟩
              | false =>
                have CC := Lib.hid (rsign_any _ n c l p27 43 45 w S.out HB.out)
                rw [hsp2743] at CC
                have hsp2743H := Lib.hid hsp2743
                clear hsp2743
                go_wp2_with fail
                refine CC.out.mono ?_
                rintro e w' ⟨rfl, rfl⟩
                clear CC
                cases hdp27 : hdd (l.drop p27) with
                | true =>
                  have CC := Lib.hid (rdigit_any _ n c l p27 w S.out HB.out)
                  rw [hdp27] at CC
                  have hdp27H := Lib.hid hdp27
                  clear hdp27
                  go_wp2_with fail
                  refine CC.out.mono ?_
                  rintro e w' ⟨rfl, rfl⟩
                  clear CC
                  obtain ⟨p30, ep30⟩ : ∃ q, p27 + rn (l.drop p27) = q := ⟨_, rfl⟩
                  have bp30 : p30 ≤ n := by have := rn_to (l := l) (p := p27) (by omega); omega
                  have CC := Lib.hid (rrun_any _ n c l p27 w S.out HB.out (by omega) (by omega))
                  rw [ep30] at CC
                  go_wp2_with fail
                  refine CC.out.mono ?_
                  rintro e w' ⟨rfl, rfl⟩
                  clear CC
                  have HE : Hid (uc l (p0 : Int) = ((p30 : Int), 0)) := Lib.hid (uc_in (by omega) (((((ck_no hsp045H.out).trans ((ckI_zero hdp0H.out g48.out).trans (by rw [ep24]))).trans ((ckF_run hsp2446H.out (by rw [ep25]; exact hdp25H.out)).trans (by rw [ep25, ep26]))).trans ((ckE_plain hsp26101H.out (by rw [ep27]; exact hsp2743H.out)).trans (by rw [ep27]))).trans ((ckP_run hdp27H.out).trans (by rw [ep30]))))
                  go_wp2
                  go_ret2
                  unfold CP; rw [HE.out]; exact ⟨rfl, rfl⟩
                | false =>
                  have CC := Lib.hid (rdigit_any _ n c l p27 w S.out HB.out)
                  rw [hdp27] at CC
                  have hdp27H := Lib.hid hdp27
                  clear hdp27
                  go_wp2_with fail
                  refine CC.out.mono ?_
                  rintro e w' ⟨rfl, rfl⟩
                  clear CC
                  have HE : Hid (uc l (p0 : Int) = (0, sho (l.drop p27))) := Lib.hid (uc_in (by omega) (((((ck_no hsp045H.out).trans ((ckI_zero hdp0H.out g48.out).trans (by rw [ep24]))).trans ((ckF_run hsp2446H.out (by rw [ep25]; exact hdp25H.out)).trans (by rw [ep25, ep26]))).trans ((ckE_plain hsp26101H.out (by rw [ep27]; exact hsp2743H.out)).trans (by rw [ep27]))).trans (ckP_bad hdp27H.out)))
                  have CC := Lib.hid (rshort_sl S.out p27)
                  go_wp2_with fail
                  refine CC.out.mono ?_
                  rintro e w' ⟨rfl, rfl⟩
                  clear CC
                  go_wp2
                  go_ret2
                  unfold CP; rw [HE.out]; exact ⟨rfl, rfl⟩
            | false =>
              have CC := Lib.hid (rsign_any _ n c l p26 101 69 w S.out HB.out)
              rw [hsp26101] at CC
              have hsp26101H := Lib.hid hsp26101
              clear hsp26101
              go_wp2_with fail
              refine CC.out.mono ?_
              rintro e w' ⟨rfl, rfl⟩
              clear CC
              have HE : Hid (uc l (p0 : Int) = ((p26 : Int), 0)) := Lib.hid (uc_in (by omega) ((((ck_no hsp045H.out).trans ((ckI_zero hdp0H.out g48.out).trans (by rw [ep24]))).trans ((ckF_run hsp2446H.out (by rw [ep25]; exact hdp25H.out)).trans (by rw [ep25, ep26]))).trans (ckE_no hsp26101H.out)))
              go_wp2
              go_ret2
              unfold CP; rw [HE.out]; exact ⟨rfl, rfl⟩
          | false =>
            have CC := Lib.hid (rdigit_any _ n c l p25 w S.out HB.out)
            rw [hdp25] at CC
            have hdp25H := Lib.hid hdp25
            clear hdp25
            go_wp2_with fail
            refine CC.out.mono ?_
            rintro e w' ⟨rfl, rfl⟩
            clear CC
            have HE : Hid (uc l (p0 : Int) = (0, sho (l.drop p25))) := Lib.hid (uc_in (by omega) (((ck_no hsp045H.out).trans ((ckI_zero hdp0H.out g48.out).trans (by rw [ep24]))).trans ((ckF_bad hsp2446H.out (by rw [ep25]; exact hdp25H.out)).trans (by rw [ep25]))))
            have CC := Lib.hid (rshort_sl S.out p25)
            go_wp2_with fail
            refine CC.out.mono ?_
            rintro e w' ⟨rfl, rfl⟩
            clear CC
            go_wp2
            go_ret2
            unfold CP; rw [HE.out]; exact ⟨rfl, rfl⟩
        | false =>
          have CC := Lib.hid (rsign_any _ n c l p24 46 46 w S.out HB.out)
          rw [hsp2446] at CC
          have hsp2446H := Lib.hid hsp2446
          clear hsp2446
          go_wp2_with fail
          refine CC.out.mono ?_
          rintro e w' ⟨rfl, rfl⟩
          clear CC
          cases hsp24101 : hd1 101 69 (l.drop p24) with
          | true =>
            have CC := Lib.hid (rsign_any _ n c l p24 101 69 w S.out HB.out)
            rw [hsp24101] at CC
            have hsp24101H := Lib.hid hsp24101
            clear hsp24101
            go_wp2_with fail
            refine CC.out.mono ?_
            rintro e w' ⟨rfl, rfl⟩
            clear CC
            have ltp31 := hd1_lt hsp24101H.out
            rw [hlen] at ltp31
            obtain ⟨p31, ep31⟩ : ∃ q, p24 + 1 = q := ⟨_, rfl⟩
            have cp31 : (p24 : Int) + 1 = (p31 : Int) := by omega
            have bp31 : p31 ≤ n := by omega
            cases hsp3143 : hd1 43 45 (l.drop p31) with
            | true =>
              have CC := Lib.hid (rsign_any _ n c l p31 43 45 w S.out HB.out)
              rw [hsp3143] at CC
              have hsp3143H := Lib.hid hsp3143
              clear hsp3143
              go_wp2_with fail
              refine CC.out.mono ?_
              rintro e w' ⟨rfl, rfl⟩
              clear CC
              have ltp32 := hd1_lt hsp3143H.out
              rw [hlen] at ltp32
              obtain ⟨p32, ep32⟩ : ∃ q, p31 + 1 = q := ⟨_, rfl⟩
              have cp32 : (p31 : Int) + 1 = (p32 : Int) := by omega
              have bp32 : p32 ≤ n := by omega
              cases hdp32 : hdd (l.drop p32) with
              | true =>
                have CC := Lib.hid (rdigit_any _ n c l p32 w S.out HB.out)
                rw [hdp32] at CC
                have hdp32H := Lib.hid hdp32
                clear hdp32
                go_wp2_with fail
                refine CC.out.mono ?_
                rintro e w' ⟨rfl, rfl⟩
                clear CC
                obtain ⟨p33, ep33⟩ : ∃ q, p32 + rn (l.drop p32) = q := ⟨_, rfl⟩
                have bp33 : p33 ≤ n := by have := rn_to (l := l) (p := p32) (by omega); omega
                have CC := Lib.hid (rrun_any _ n c l p32 w S.out HB.out (by omega) (by omega))
                rw [ep33] at CC
                go_wp2_with fail
                refine CC.out.mono ?_
                rintro e w' ⟨rfl, rfl⟩
                clear CC
                have HE : Hid (uc l (p0 : Int) = ((p33 : Int), 0)) := Lib.hid (uc_in (by omega) (((((ck_no hsp045H.out).trans ((ckI_zero hdp0H.out g48.out).trans (by rw [ep24]))).trans (ckF_no hsp2446H.out)).trans ((ckE_sign hsp24101H.out (by rw [ep31]; exact hsp3143H.out)).trans (by rw [show p24 + 2 = p32 by omega]))).trans ((ckP_run hdp32H.out).trans (by rw [ep33]))))
                go_wp2
                go_ret2
                unfold CP; rw [HE.out]; exact ⟨rfl, rfl⟩
              | false =>
                have CC := Lib.hid (rdigit_any _ n c l p32 w S.out HB.out)
                rw [hdp32] at CC
                have hdp32H := Lib.hid hdp32
                clear hdp32
                go_wp2_with fail
                refine CC.out.mono ?_
                rintro e w' ⟨rfl, rfl⟩
                clear CC
                have HE : Hid (uc l (p0 : Int) = (0, sho (l.drop p32))) := Lib.hid (uc_in (by omega) (((((ck_no hsp045H.out).trans ((ckI_zero hdp0H.out g48.out).trans (by rw [ep24]))).trans (ckF_no hsp2446H.out)).trans ((ckE_sign hsp24101H.out (by rw [ep31]; exact hsp3143H.out)).trans (by rw [show p24 + 2 = p32 by omega]))).trans (ckP_bad hdp32H.out)))
                have CC := Lib.hid (rshort_sl S.out p32)
                go_wp2_with fail
                refine CC.out.mono ?_
                rintro e w' ⟨rfl, rfl⟩
                clear CC
                go_wp2
                go_ret2
                unfold CP; rw [HE.out]; exact ⟨rfl, rfl⟩
            | false =>
              have CC := Lib.hid (rsign_any _ n c l p31 43 45 w S.out HB.out)
              rw [hsp3143] at CC
              have hsp3143H := Lib.hid hsp3143
              clear hsp3143
              go_wp2_with fail
              refine CC.out.mono ?_
              rintro e w' ⟨rfl, rfl⟩
              clear CC
              cases hdp31 : hdd (l.drop p31) with
              | true =>
                have CC := Lib.hid (rdigit_any _ n c l p31 w S.out HB.out)
                rw [hdp31] at CC
                have hdp31H := Lib.hid hdp31
                clear hdp31
                go_wp2_with fail
                refine CC.out.mono ?_
                rintro e w' ⟨rfl, rfl⟩
                clear CC
                obtain ⟨p34, ep34⟩ : ∃ q, p31 + rn (l.drop p31) = q := ⟨_, rfl⟩
                have bp34 : p34 ≤ n := by have := rn_to (l := l) (p := p31) (by omega); omega
                have CC := Lib.hid (rrun_any _ n c l p31 w S.out HB.out (by omega) (by omega))
                rw [ep34] at CC
                go_wp2_with fail
                refine CC.out.mono ?_
                rintro e w' ⟨rfl, rfl⟩
                clear CC
                have HE : Hid (uc l (p0 : Int) = ((p34 : Int), 0)) := Lib.hid (uc_in (by omega) (((((ck_no hsp045H.out).trans ((ckI_zero hdp0H.out g48.out).trans (by rw [ep24]))).trans (ckF_no hsp2446H.out)).trans ((ckE_plain hsp24101H.out (by rw [ep31]; exact hsp3143H.out)).trans (by rw [ep31]))).trans ((ckP_run hdp31H.out).trans (by rw [ep34]))))
                go_wp2
                go_ret2
                unfold CP; rw [HE.out]; exact ⟨rfl, rfl⟩
              | false =>
                have CC := Lib.hid (rdigit_any _ n c l p31 w S.out HB.out)
                rw [hdp31] at CC
                have hdp31H := Lib.hid hdp31
                clear hdp31
                go_wp2_with fail
                refine CC.out.mono ?_
                rintro e w' ⟨rfl, rfl⟩
                clear CC
                have HE : Hid (uc l (p0 : Int) = (0, sho (l.drop p31))) := Lib.hid (uc_in (by omega) (((((ck_no hsp045H.out).trans ((ckI_zero hdp0H.out g48.out).trans (by rw [ep24]))).trans (ckF_no hsp2446H.out)).trans ((ckE_plain hsp24101H.out (by rw [ep31]; exact hsp3143H.out)).trans (by rw [ep31]))).trans (ckP_bad hdp31H.out)))
                have CC := Lib.hid (rshort_sl S.out p31)
                go_wp2_with fail
                refine CC.out.mono ?_
                rintro e w' ⟨rfl, rfl⟩
                clear CC
                go_wp2
                go_ret2
                unfold CP; rw [HE.out]; exact ⟨rfl, rfl⟩
          | false =>
            have CC := Lib.hid (rsign_any _ n c l p24 101 69 w S.out HB.out)
            rw [hsp24101] at CC
            have hsp24101H := Lib.hid hsp24101
            clear hsp24101
            go_wp2_with fail
            refine CC.out.mono ?_
            rintro e w' ⟨rfl, rfl⟩
            clear CC
            have HE : Hid (uc l (p0 : Int) = ((p24 : Int), 0)) := Lib.hid (uc_in (by omega) ((((ck_no hsp045H.out).trans ((ckI_zero hdp0H.out g48.out).trans (by rw [ep24]))).trans (ckF_no hsp2446H.out)).trans (ckE_no hsp24101H.out)))
            go_wp2
            go_ret2
            unfold CP; rw [HE.out]; exact ⟨rfl, rfl⟩
      · have g48 : Hid (hd1 48 48 (l.drop p0) = false) := Lib.hid (by rw [h48p0.out]; simp [zp0])
        clear h48p0 hxp0
        obtain ⟨p35, ep35⟩ : ∃ q, p0 + rn (l.drop p0) = q := ⟨_, rfl⟩
        have bp35 : p35 ≤ n := by have := rn_to (l := l) (p := p0) (by omega); omega
        have CC := Lib.hid (rrun_any _ n c l p0 w S.out HB.out (by omega) (by omega))
        rw [ep35] at CC
        go_wp2_with fail
        refine CC.out.mono ?_
        rintro e w' ⟨rfl, rfl⟩
        clear CC
        cases hsp3546 : hd1 46 46 (l.drop p35) with
        | true =>
          have CC := Lib.hid (rsign_any _ n c l p35 46 46 w S.out HB.out)
          rw [hsp3546] at CC
          have hsp3546H := Lib.hid hsp3546
          clear hsp3546
          go_wp2_with fail
          refine CC.out.mono ?_
          rintro e w' ⟨rfl, rfl⟩
          clear CC
          have ltp36 := hd1_lt hsp3546H.out
          rw [hlen] at ltp36
          obtain ⟨p36, ep36⟩ : ∃ q, p35 + 1 = q := ⟨_, rfl⟩
          have cp36 : (p35 : Int) + 1 = (p36 : Int) := by omega
          have bp36 : p36 ≤ n := by omega
          cases hdp36 : hdd (l.drop p36) with
          | true =>
            have CC := Lib.hid (rdigit_any _ n c l p36 w S.out HB.out)
            rw [hdp36] at CC
            have hdp36H := Lib.hid hdp36
            clear hdp36
            go_wp2_with fail
            refine CC.out.mono ?_
            rintro e w' ⟨rfl, rfl⟩
            clear CC
            obtain ⟨p37, ep37⟩ : ∃ q, p36 + rn (l.drop p36) = q := ⟨_, rfl⟩
            have bp37 : p37 ≤ n := by have := rn_to (l := l) (p := p36) (by omega); omega
            have CC := Lib.hid (rrun_any _ n c l p36 w S.out HB.out (by omega) (by omega))
            rw [ep37] at CC
            go_wp2_with fail
            refine CC.out.mono ?_
            rintro e w' ⟨rfl, rfl⟩
            clear CC
            cases hsp37101 : hd1 101 69 (l.drop p37) with
            | true =>
              have CC := Lib.hid (rsign_any _ n c l p37 101 69 w S.out HB.out)
              rw [hsp37101] at CC
              have hsp37101H := Lib.hid hsp37101
              clear hsp37101
              go_wp2_with fail
              refine CC.out.mono ?_
              rintro e w' ⟨rfl, rfl⟩
              clear CC
              have ltp38 := hd1_lt hsp37101H.out
              rw [hlen] at ltp38
              obtain ⟨p38, ep38⟩ : ∃ q, p37 + 1 = q := ⟨_, rfl⟩
              have cp38 : (p37 : Int) + 1 = (p38 : Int) := by omega
              have bp38 : p38 ≤ n := by omega
              cases hsp3843 : hd1 43 45 (l.drop p38) with
              | true =>
                have CC := Lib.hid (rsign_any _ n c l p38 43 45 w S.out HB.out)
                rw [hsp3843] at CC
                have hsp3843H := Lib.hid hsp3843
                clear hsp3843
                go_wp2_with fail
                refine CC.out.mono ?_
                rintro e w' ⟨rfl, rfl⟩
                clear CC
                have ltp39 := hd1_lt hsp3843H.out
                rw [hlen] at ltp39
                obtain ⟨p39, ep39⟩ : ∃ q, p38 + 1 = q := ⟨_, rfl⟩
                have cp39 : (p38 : Int) + 1 = (p39 : Int) := by omega
                have bp39 : p39 ≤ n := by omega
                cases hdp39 : hdd (l.drop p39) with
                | true =>
                  have CC := Lib.hid (rdigit_any _ n c l p39 w S.out HB.out)
                  rw [hdp39] at CC
                  have hdp39H := Lib.hid hdp39
                  clear hdp39
                  go_wp2_with fail
                  refine CC.out.mono ?_
                  rintro e w' ⟨rfl, rfl⟩
                  clear CC
                  obtain ⟨p40, ep40⟩ : ∃ q, p39 + rn (l.drop p39) = q := ⟨_, rfl⟩
                  have bp40 : p40 ≤ n := by have := rn_to (l := l) (p := p39) (by omega); omega
                  have CC := Lib.hid (rrun_any _ n c l p39 w S.out HB.out (by omega) (by omega))
                  rw [ep40] at CC
                  go_wp2_with fail
                  refine CC.out.mono ?_
                  rintro e w' ⟨rfl, rfl⟩
                  clear CC
                  have HE : Hid (uc l (p0 : Int) = ((p40 : Int), 0)) := Lib.hid (uc_in (by omega) (((((ck_no hsp045H.out).trans ((ckI_run hdp0H.out g48.out).trans (by rw [ep35]))).trans ((ckF_run hsp3546H.out (by rw [ep36]; exact hdp36H.out)).trans (by rw [ep36, ep37]))).trans ((ckE_sign hsp37101H.out (by rw [ep38]; exact hsp3843H.out)).trans (by rw [show p37 + 2 = p39 by omega]))).trans ((ckP_run hdp39H.out).trans (by rw [ep40]))))
                  go_wp2
                  go_ret2
                  unfold CP; rw [HE.out]; exact ⟨rfl, rfl⟩
                | false =>
                  have CC := Lib.hid (rdigit_any _ n c l p39 w S.out HB.out)
                  rw [hdp39] at CC
                  have hdp39H := Lib.hid hdp39
                  clear hdp39
                  go_wp2_with fail
                  refine CC.out.mono ?_
                  rintro e w' ⟨rfl, rfl⟩
                  clear CC
                  have HE : Hid (uc l (p0 : Int) = (0, sho (l.drop p39))) := Lib.hid (uc_in (by omega) (((((ck_no hsp045H.out).trans ((ckI_run hdp0H.out g48.out).trans (by rw [ep35]))).trans ((ckF_run hsp3546H.out (by rw [ep36]; exact hdp36H.out)).trans (by rw [ep36, ep37]))).trans ((ckE_sign hsp37101H.out (by rw [ep38]; exact hsp3843H.out)).trans (by rw [show p37 + 2 = p39 by omega]))).trans (ckP_bad hdp39H.out)))
                  have CC := Lib.hid (rshort_sl S.out p39)
                  go_wp2_with fail
                  refine CC.out.mono ?_
                  rintro e w' ⟨rfl, rfl⟩
                  clear CC
                  go_wp2
                  go_ret2
                  unfold CP; rw [HE.out]; exact ⟨rfl, rfl⟩
              | false =>
                have CC := Lib.hid (rsign_any _ n c l p38 43 45 w S.out HB.out)
                rw [hsp3843] at CC
                have hsp3843H := Lib.hid hsp3843
                clear hsp3843
                go_wp2_with fail
                refine CC.out.mono ?_
                rintro e w' ⟨rfl, rfl⟩
                clear CC
                cases hdp38 : hdd (l.drop p38) with
                | true =>
                  have CC := Lib.hid (rdigit_any _ n c l p38 w S.out HB.out)
                  rw [hdp38] at CC
                  have hdp38H := Lib.hid hdp38
                  clear hdp38
                  go_wp2_with fail
                  refine CC.out.mono ?_
                  rintro e w' ⟨rfl, rfl⟩
                  clear CC
                  obtain ⟨p41, ep41⟩ : ∃ q, p38 + rn (l.drop p38) = q := ⟨_, rfl⟩
                  have bp41 : p41 ≤ n := by have := rn_to (l := l) (p := p38) (by omega); omega
                  have CC := Lib.hid (rrun_any _ n c l p38 w S.out HB.out (by omega) (by omega))
                  rw [ep41] at CC
                  go_wp2_with fail
                  refine CC.out.mono ?_
                  rintro e w' ⟨rfl, rfl⟩
                  clear CC
                  have HE : Hid (uc l (p0 : Int) = ((p41 : Int), 0)) := Lib.hid (uc_in (by omega) (((((ck_no hsp045H.out).trans ((ckI_run hdp0H.out g48.out).trans (by rw [ep35]))).trans ((ckF_run hsp3546H.out (by rw [ep36]; exact hdp36H.out)).trans (by rw [ep36, ep37]))).trans ((ckE_plain hsp37101H.out (by rw [ep38]; exact hsp3843H.out)).trans (by rw [ep38]))).trans ((ckP_run hdp38H.out).trans (by rw [ep41]))))
                  go_wp2
                  go_ret2
                  unfold CP; rw [HE.out]; exact ⟨rfl, rfl⟩
                | false =>
                  have CC := Lib.hid (rdigit_any _ n c l p38 w S.out HB.out)
                  rw [hdp38] at CC
                  have hdp38H := Lib.hid hdp38
                  clear hdp38
                  go_wp2_with fail
                  refine CC.out.mono ?_
                  rintro e w' ⟨rfl, rfl⟩
                  clear CC
                  have HE : Hid (uc l (p0 : Int) = (0, sho (l.drop p38))) := Lib.hid (uc_in (by omega) (((((ck_no hsp045H.out).trans ((ckI_run hdp0H.out g48.out).trans (by rw [ep35]))).trans ((ckF_run hsp3546H.out (by rw [ep36]; exact hdp36H.out)).trans (by rw [ep36, ep37]))).trans ((ckE_plain hsp37101H.out (by rw [ep38]; exact hsp3843H.out)).trans (by rw [ep38]))).trans (ckP_bad hdp38H.out)))
                  have CC := Lib.hid (rshort_sl S.out p38)
                  go_wp2_with fail
                  refine CC.out.mono ?_
                  rintro e w' ⟨rfl, rfl⟩
                  clear CC
                  go_wp2
                  go_ret2
                  unfold CP; rw [HE.out]; exact ⟨rfl, rfl⟩
            | false =>
              have CC := Lib.hid (rsign_any _ n c l p37 101 69 w S.out HB.out)
              rw [hsp37101] at CC
              have hsp37101H := Lib.hid hsp37101
              clear hsp37101
              go_wp2_with fail
              refine CC.out.mono ?_
              rintro e w' ⟨rfl, rfl⟩
              clear CC
              have HE : Hid (uc l (p0 : Int) = ((p37 : Int), 0)) := Lib.hid (uc_in (by omega) ((((ck_no hsp045H.out).trans ((ckI_run hdp0H.out g48.out).trans (by rw [ep35]))).trans ((ckF_run hsp3546H.out (by rw [ep36]; exact hdp36H.out)).trans (by rw [ep36, ep37]))).trans (ckE_no hsp37101H.out)))
              go_wp2
              go_ret2
              unfold CP; rw [HE.out]; exact ⟨rfl, rfl⟩
          | false =>
            have CC := Lib.hid (rdigit_any _ n c l p36 w S.out HB.out)
            rw [hdp36] at CC
            have hdp36H := Lib.hid hdp36
            clear hdp36
            go_wp2_with fail
            refine CC.out.mono ?_
            rintro e w' ⟨rfl, rfl⟩
            clear CC
            have HE : Hid (uc l (p0 : Int) = (0, sho (l.drop p36))) := Lib.hid (uc_in (by omega) (((ck_no hsp045H.out).trans ((ckI_run hdp0H.out g48.out).trans (by rw [ep35]))).trans ((ckF_bad hsp3546H.out (by rw [ep36]; exact hdp36H.out)).trans (by rw [ep36]))))
            have CC := Lib.hid (rshort_sl S.out p36)
            go_wp2_with fail
            refine CC.out.mono ?_
            rintro e w' ⟨rfl, rfl⟩
            clear CC
            go_wp2
            go_ret2
            unfold CP; rw [HE.out]; exact ⟨rfl, rfl⟩
        | false =>
          have CC := Lib.hid (rsign_any _ n c l p35 46 46 w S.out HB.out)
          rw [hsp3546] at CC
          have hsp3546H := Lib.hid hsp3546
          clear hsp3546
          go_wp2_with fail
          refine CC.out.mono ?_
          rintro e w' ⟨rfl, rfl⟩
          clear CC
          cases hsp35101 : hd1 101 69 (l.drop p35) with
          | true =>
            have CC := Lib.hid (rsign_any _ n c l p35 101 69 w S.out HB.out)
            rw [hsp35101] at CC
            have hsp35101H := Lib.hid hsp35101
            clear hsp35101
            go_wp2_with fail
            refine CC.out.mono ?_
            rintro e w' ⟨rfl, rfl⟩
            clear CC
            have ltp42 := hd1_lt hsp35101H.out
            rw [hlen] at ltp42
            obtain ⟨p42, ep42⟩ : ∃ q, p35 + 1 = q := ⟨_, rfl⟩
            have cp42 : (p35 : Int) + 1 = (p42 : Int) := by omega
            have bp42 : p42 ≤ n := by omega
            cases hsp4243 : hd1 43 45 (l.drop p42) with
            | true =>
              have CC := Lib.hid (rsign_any _ n c l p42 43 45 w S.out HB.out)
              rw [hsp4243] at CC
              have hsp4243H := Lib.hid hsp4243
              clear hsp4243
              go_wp2_with fail
              refine CC.out.mono ?_
              rintro e w' ⟨rfl, rfl⟩
              clear CC
              have ltp43 := hd1_lt hsp4243H.out
              rw [hlen] at ltp43
              obtain ⟨p43, ep43⟩ : ∃ q, p42 + 1 = q := ⟨_, rfl⟩
              have cp43 : (p42 : Int) + 1 = (p43 : Int) := by omega
              have bp43 : p43 ≤ n := by omega
              cases hdp43 : hdd (l.drop p43) with
              | true =>
                have CC := Lib.hid (rdigit_any _ n c l p43 w S.out HB.out)
                rw [hdp43] at CC
                have hdp43H := Lib.hid hdp43
                clear hdp43
                go_wp2_with fail
                refine CC.out.mono ?_
                rintro e w' ⟨rfl, rfl⟩
                clear CC
                obtain ⟨p44, ep44⟩ : ∃ q, p43 + rn (l.drop p43) = q := ⟨_, rfl⟩
                have bp44 : p44 ≤ n := by have := rn_to (l := l) (p := p43) (by omega); omega
                have CC := Lib.hid (rrun_any _ n c l p43 w S.out HB.out (by omega) (by omega))
                rw [ep44] at CC
                go_wp2_with fail
                refine CC.out.mono ?_
                rintro e w' ⟨rfl, rfl⟩
                clear CC
                have HE : Hid (uc l (p0 : Int) = ((p44 : Int), 0)) := Lib.hid (uc_in (by omega) (((((ck_no hsp045H.out).trans ((ckI_run hdp0H.out g48.out).trans (by rw [ep35]))).trans (ckF_no hsp3546H.out)).trans ((ckE_sign hsp35101H.out (by rw [ep42]; exact hsp4243H.out)).trans (by rw [show p35 + 2 = p43 by omega]))).trans ((ckP_run hdp43H.out).trans (by rw [ep44]))))
                go_wp2
                go_ret2
                unfold CP; rw [HE.out]; exact ⟨rfl, rfl⟩
              | false =>
                have CC := Lib.hid (rdigit_any _ n c l p43 w S.out HB.out)
                rw [hdp43] at CC
                have hdp43H := Lib.hid hdp43
                clear hdp43
                go_wp2_with fail
                refine CC.out.mono ?_
                rintro e w' ⟨rfl, rfl⟩
                clear CC
                have HE : Hid (uc l (p0 : Int) = (0, sho (l.drop p43))) := Lib.hid (uc_in (by omega) (((((ck_no hsp045H.out).trans ((ckI_run hdp0H.out g48.out).trans (by rw [ep35]))).trans (ckF_no hsp3546H.out)).trans ((ckE_sign hsp35101H.out (by rw [ep42]; exact hsp4243H.out)).trans (by rw [show p35 + 2 = p43 by omega]))).trans (ckP_bad hdp43H.out)))
                have CC := Lib.hid (rshort_sl S.out p43)
                go_wp2_with fail
                refine CC.out.mono ?_
                rintro e w' ⟨rfl, rfl⟩
                clear CC
                go_wp2
                go_ret2
                unfold CP; rw [HE.out]; exact ⟨rfl, rfl⟩
            | false =>
              have CC := Lib.hid (rsign_any _ n c l p42 43 45 w S.out HB.out)
              rw [hsp4243] at CC
              have hsp4243H := Lib.hid hsp4243
              clear hsp4243
              go_wp2_with fail
              refine CC.out.mono ?_
              rintro e w' ⟨rfl, rfl⟩
              clear CC
              cases hdp42 : hdd (l.drop p42) with
              | true =>
                have CC := Lib.hid (rdigit_any _ n c l p42 w S.out HB.out)
                rw [hdp42] at CC
                have hdp42H := Lib.hid hdp42
                clear hdp42
                go_wp2_with fail
                refine CC.out.mono ?_
                rintro e w' ⟨rfl, rfl⟩
                clear CC
                obtain ⟨p45, ep45⟩ : ∃ q, p42 + rn (l.drop p42) = q := ⟨_, rfl⟩
                have bp45 : p45 ≤ n := by have := rn_to (l := l) (p := p42) (by omega); omega
                have CC := Lib.hid (rrun_any _ n c l p42 w S.out HB.out (by omega) (by omega))
                rw [ep45] at CC
                go_wp2_with fail
                refine CC.out.mono ?_
                rintro e w' ⟨rfl, rfl⟩
                clear CC
                have HE : Hid (uc l (p0 : Int) = ((p45 : Int), 0)) := Lib.hid (uc_in (by omega) (((((ck_no hsp045H.out).trans ((ckI_run hdp0H.out g48.out).trans (by rw [ep35]))).trans (ckF_no hsp3546H.out)).trans ((ckE_plain hsp35101H.out (by rw [ep42]; exact hsp4243H.out)).trans (by rw [ep42]))).trans ((ckP_run hdp42H.out).trans (by rw [ep45]))))
                go_wp2
                go_ret2
                unfold CP; rw [HE.out]; exact ⟨rfl, rfl⟩
              | false =>
                have CC := Lib.hid (rdigit_any _ n c l p42 w S.out HB.out)
                rw [hdp42] at CC
                have hdp42H := Lib.hid hdp42
                clear hdp42
                go_wp2_with fail
                refine CC.out.mono ?_
                rintro e w' ⟨rfl, rfl⟩
                clear CC
                have HE : Hid (uc l (p0 : Int) = (0, sho (l.drop p42))) := Lib.hid (uc_in (by omega) (((((ck_no hsp045H.out).trans ((ckI_run hdp0H.out g48.out).trans (by rw [ep35]))).trans (ckF_no hsp3546H.out)).trans ((ckE_plain hsp35101H.out (by rw [ep42]; exact hsp4243H.out)).trans (by rw [ep42]))).trans (ckP_bad hdp42H.out)))
                have CC := Lib.hid (rshort_sl S.out p42)
                go_wp2_with fail
                refine CC.out.mono ?_
                rintro e w' ⟨rfl, rfl⟩
                clear CC
                go_wp2
                go_ret2
                unfold CP; rw [HE.out]; exact ⟨rfl, rfl⟩
          | false =>
            have CC := Lib.hid (rsign_any _ n c l p35 101 69 w S.out HB.out)
            rw [hsp35101] at CC
            have hsp35101H := Lib.hid hsp35101
            clear hsp35101
            go_wp2_with fail
            refine CC.out.mono ?_
            rintro e w' ⟨rfl, rfl⟩
            clear CC
            have HE : Hid (uc l (p0 : Int) = ((p35 : Int), 0)) := Lib.hid (uc_in (by omega) ((((ck_no hsp045H.out).trans ((ckI_run hdp0H.out g48.out).trans (by rw [ep35]))).trans (ckF_no hsp3546H.out)).trans (ckE_no hsp35101H.out)))
            go_wp2
            go_ret2
            unfold CP; rw [HE.out]; exact ⟨rfl, rfl⟩
    | false =>
      have CC := Lib.hid (rdigit_any _ n c l p0 w S.out HB.out)
      rw [hdp0] at CC
      have hdp0H := Lib.hid hdp0
      clear hdp0
      go_wp2_with fail
      refine CC.out.mono ?_
      rintro e w' ⟨rfl, rfl⟩
      clear CC
      have HE : Hid (uc l (p0 : Int) = (0, sho (l.drop p0))) := Lib.hid (uc_in (by omega) ((ck_no hsp045H.out).trans (ckI_bad hdp0H.out)))
      have CC := Lib.hid (rshort_sl S.out p0)
      go_wp2_with fail
      refine CC.out.mono ?_
      rintro e w' ⟨rfl, rfl⟩
      clear CC
      go_wp2
      go_ret2
      unfold CP; rw [HE.out]; exact ⟨rfl, rfl⟩
end Nu
end Go.Proofs.YtjgkaccmfdjffaaDoor
