/-
  The walk of HeadCases.
-/
import Derived.Test.YtcjpdkhbcbpafaaDoorHo
import Derived.Test.YtcjpdkhbcbpafaaDoorWp
import Derived.Deep.QuietTactic
import Derived.Deep.RegionHeld3
import Derived.Deep.DeepCutAuto
import Derived.BigQuiet
namespace Go.Proofs.YtcjpdkhbcbpafaaDoor
set_option linter.unusedVariables false
open Go.RowKit Go.ChangeShapes Go.WideShapes
open Wd We Dm Dc Dd Hm Hb Hc Hd He Hg Hj Hk Ho

set_option maxRecDepth 100000 in
set_option maxHeartbeats 1600000 in
theorem walk_HeadCases (a0 : Int) (A1 : Option Addr) (n1 c1 : Nat) (l1 : List Int) (a2 b2 e2 : Int) (w : World) (w0 : (Lit.int .i64 a0).wf = true) (s1 : Sl .u8 w A1 n1 c1 l1) (b1 : ∀ x ∈ l1, (Lit.int .u8 x).wf = true) (z1 : c1 * 1 ≤ 140737488351232) (w2 : (Lit.int .i64 a2).wf = true) (x2 : (Lit.int .i64 b2).wf = true) (y2 : (Lit.int .i64 e2).wf = true) (tab : It.Tab w) (env : Hb.Env w) :
    Calls Tryd.prog 7 #[.int .i64 a0, .slice A1 n1 c1, .agg #[.int .i64 a2, .int .i64 b2, .int .i64 e2]] w fun e w' => e = .returned (.bool true) ∧ Below w.heap.size w w' := by
  have hi0 := i64_of w0
  have hi1 := i64_of x2
  have hi2 := i64_of y2
  have hbr := bring_any a0 65537 (by omega) (by omega) hi0.1 hi0.2
  obtain ⟨x, hx⟩ := Int.eq_ofNat_of_zero_le (Int.emod_nonneg a0 (b := 65537) (by omega))
  have hx2 := Int.emod_lt_of_pos a0 (b := 65537) (by omega)
  rw [hx] at hbr hx2
  have hx3 : x ≤ 65536 := by omega
  have hbr1 := bring_any b2 4 (by omega) (by omega) hi1.1 hi1.2
  obtain ⟨i, hi⟩ := Int.eq_ofNat_of_zero_le (Int.emod_nonneg b2 (b := 4) (by omega))
  have hi4 := Int.emod_lt_of_pos b2 (b := 4) (by omega)
  rw [hi] at hbr1 hi4
  have hbr2 := bring_any e2 4 (by omega) (by omega) hi2.1 hi2.2
  obtain ⟨j, hj⟩ := Int.eq_ofNat_of_zero_le (Int.emod_nonneg e2 (b := 4) (by omega))
  have hj4 := Int.emod_lt_of_pos e2 (b := 4) (by omega)
  rw [hj] at hbr2 hj4
  have HBR := Lib.hid hbr
  have HBR1 := Lib.hid hbr1
  have HBR2 := Lib.hid hbr2
  have T := Lib.hid tab
  have E := Lib.hid env
  have S1 := Lib.hid s1
  have IB := Lib.hid (show IsB l1 from fun x hx => (u8_of (b1 x hx)))
  clear hbr hbr1 hbr2 hx hi hj hx2 w0 w2 x2 y2 tab env hi0 hi1 hi2 s1 b1 z1
  go_enter Tryd.func7, Tryd.ntmps7
  go_wp2_with fail
  have HW0 := Lib.hid (how_new w a2 b2 e2 36)
  have hb0 := below_alloc w (.cells #[.int .i64 a2, .int .i64 b2, .int .i64 e2] 36)
  have E0 := Lib.hid (E.out.below hb0)
  have T0 := Lib.hid (T.out.below hb0)
  have S0 := Lib.hid (S1.out.below hb0)
  have B0 := Lib.hid hb0
  clear hb0 E T S1
  generalize w.alloc (.cells #[.int .i64 a2, .int .i64 b2, .int .i64 e2] 36) = W0 at *
  refine (awake_ok _ E0.out).mono ?_
  rintro e v1 ⟨rfl, hb1⟩
  have HW1 := Lib.hid (HW0.out.ext hb1)
  have E1 := Lib.hid (E0.out.below hb1)
  have T1 := Lib.hid (T0.out.below hb1)
  have S1 := Lib.hid (S0.out.below hb1)
  have B1 := Lib.hid (ext_trans B0.out hb1)
  clear hb1 HW0 E0 T0 S0 B0
  go_wp2_with fail
  refine (HBR.out _).mono ?_
  rintro e w' ⟨rfl, rfl⟩
  go_wp2_with fail
  refine (make_ok _ hx3 _ T1.out).mono ?_
  rintro e v2 ⟨A2, c2, rfl, t2, hb2⟩
  have hle2 := t2.le
  have hmx2 : c2 ≤ 9223372036854775807 := by have := t2.max; unfold maxLen at this; exact this
  have HW2 := Lib.hid (HW1.out.ext hb2)
  have E2 := Lib.hid (E1.out.below hb2)
  have S2 := Lib.hid (S1.out.below hb2)
  have B2 := Lib.hid (ext_trans B1.out hb2)
  have hlx := hd_length x
  have hd5 := decs_five hx3
  have hd0 := List.length_pos_iff.2 (decs_ne x)
  obtain ⟨bk, off, y, rfl, -, -, -⟩ := t2.row.look (j := 0) (by omega)
  have t3 := t2.cutS 16 ((hd x).length - 20) (by omega)
  rw [hd_text] at t3
  have kc := conv_bs t3
  clear hb2 HW1 E1 T1 S1 B1 t2 t3
  generalize hL : (hd x).length = L at *
  have hL1 : 21 ≤ L := by omega
  have hL2 : L ≤ 39 := by omega
  clear hL hlx hd5 hd0
  have i1 : ¬ (L : Int) < 20 := by omega
  have i2 : ¬ (c2 : Int) = 16 := by omega
  have i2' : ¬ c2 = 16 := by omega
  have k1 : (16 : Int) ≤ (L : Int) - 4 := by omega
  have k2 : (L : Int) - 4 ≤ (c2 : Int) := by omega
  have k3 : ((L : Int) - 4).toNat = L - 4 := by omega
  have k4 : L - 4 - 16 = L - 20 := by omega
  go_wp2
  have hbv := below_alloc v2 (.cells #[.string ⟨#[]⟩, .string ⟨#[32]⟩, .string ⟨#[9]⟩, .string ⟨#[32, 9, 32]⟩] 9)
  have TB := Lib.hid (tbL_four v2 blk 9 (a := ⟨#[]⟩) (b := ⟨#[32]⟩) (c := ⟨#[9]⟩) (d := ⟨#[32, 9, 32]⟩) rfl rfl rfl rfl)
  have HW3 := Lib.hid (HW2.out.ext hbv)
  have E3 := Lib.hid (E2.out.below hbv)
  have S3 := Lib.hid (S2.out.below hbv)
  have B3 := Lib.hid (ext_trans B2.out hbv)
  clear hbv HW2 E2 S2 B2 kc k1 k2 k3 k4 i1 i2 i2'
  generalize v2.alloc (.cells #[.string ⟨#[]⟩, .string ⟨#[32]⟩, .string ⟨#[9]⟩, .string ⟨#[32, 9, 32]⟩] 9) = V at *
  generalize v2.heap.size = X at *
  generalize hH : w.heap.size = H0 at HW3 ⊢
  have HH := Lib.hid hH
  clear hH
  have hi4' : i < 4 := by omega
  have hj4' : j < 4 := by omega
  have hS : ∀ w', Below V.heap.size V w' → (w'.cell? ⟨H0, 0, none⟩ = some (.int .i64 a2) ∧ w'.cell? ⟨H0, 1, none⟩ = some (.int .i64 b2) ∧ w'.cell? ⟨H0, 2, none⟩ = some (.int .i64 e2) ∧ w'.cell? ⟨X, i, none⟩ = some (.string (bs (blk i))) ∧ w'.cell? ⟨X, j, none⟩ = some (.string (bs (blk j))) ∧ Below V.heap.size V w') := fun w' hb => ⟨(HW3.out.ext hb).at0, (HW3.out.ext hb).at1, (HW3.out.ext hb).at2, TB.out.ext hb i hi4', TB.out.ext hb j hj4', hb⟩
  have HS := Lib.hid hS
  clear hS
  go_upto_region 9 with fail
  go_cut [12] (fun s wx => ∃ q, s = .string (bs (wr [cline q (blk i) x (blk j)])) ∧ Mx cl q ∧ IsB q ∧ Below V.heap.size V wx)
  case first =>
    go_region_held3 (fun w' => w'.cell? ⟨H0, 0, none⟩ = some (.int .i64 a2) ∧ w'.cell? ⟨H0, 1, none⟩ = some (.int .i64 b2) ∧ w'.cell? ⟨H0, 2, none⟩ = some (.int .i64 e2) ∧ w'.cell? ⟨X, i, none⟩ = some (.string (bs (blk i))) ∧ w'.cell? ⟨X, j, none⟩ = some (.string (bs (blk j))) ∧ Below V.heap.size V w') (exact HS.out _ (by repeat (first | assumption | exact Below.refl _ _ | refine below_drew ?_)))
      (first
        | (go_at_call 18; first | ((with_reducible refine (HBR1.out _).mono ?_); rintro e w' ⟨rfl, rfl⟩) | ((with_reducible refine (HBR2.out _).mono ?_); rintro e w' ⟨rfl, rfl⟩))
        | (go_at_call 19; refine (mixed_any clS (by decide) _ _).mono ?_; rintro e w2 ⟨q, rfl, hm, hq, hb2⟩; have hb3 : Below V.heap.size V w2 := Below.trans (by repeat (first | assumption | exact Below.refl _ _ | refine below_drew ?_)) (hb2.mono (by first | omega | (simp <;> omega))); have hm2 : Mx cl q := (by rw [← clS_lof]; exact hm); have HM := Lib.hid hm2; have HQ := Lib.hid hq; obtain ⟨s1, s2, s3, s4, s5, y1, y2, y3, y4, y5, y6⟩ := line_sums hm2 i j hx3; unfold SumS at y1 y2 y3 y4 y5 y6; clear hm hm2 hq hb2))
    all_goals (go_wp2_with fail; go_meet; exact ⟨_, rfl, HM.out, HQ.out, by repeat (first | assumption | exact Below.refl _ _ | refine below_drew ?_)⟩)
  case rest =>
    obtain ⟨q, rfl, hm, hq, hbc⟩ := hcut
    have HC := Lib.hid (cline_clean hm i j x)
    have HT := Lib.hid (fun (told : Int) (h : told = -1 ∨ told = (x : Int)) => cline_tel hm i j hx3 h)
    have hcl := cline_len hm i j hx3
    have HCB := Lib.hid (cline_isB hq i x j)
    have E4 := Lib.hid (E3.out.below hbc)
    have S4 := Lib.hid (S3.out.below hbc)
    have B4 := Lib.hid (ext_trans B3.out hbc)
    clear hm hq hbc E3 S3 B3 HS TB HW3
    generalize cline q (blk i) x (blk j) = cc at *
    have hw1 : (wr [cc]).length ≤ 44 := by rw [wr_one, List.length_append]; show cc.length + 2 ≤ 44; omega
    have HP : ∀ k, prs (four (wr [cc]) (wr [mline (lts l1)]) k) = ((x : Int), ((four (wr [cc]) (wr [mline (lts l1)]) k).length : Int), 0) := four_prs HC.out (mline_clean l1) HT.out (mline_tel l1) hcl (mline_len l1)
    have HP := Lib.hid HP
    have HMB := Lib.hid (mline_isB l1)
    have hw2 : (wr [mline (lts l1)]).length ≤ 46 := by have := mline_len l1; rw [wr_one, List.length_append]; show (mline (lts l1)).length + 2 ≤ 46; omega
    obtain ⟨s1, s2, s3, y1, y2, y3, y4⟩ := more_sums l1
    obtain ⟨r1, r2, r3, r4, g1, g2, g3, g4, g5, g6, g7, g8⟩ := four_sums hw1 hw2
    have HF := Lib.hid (fun k => four_len hw1 hw2 k)
    have HFB := Lib.hid (fun k => four_isB HCB.out HMB.out k)
    generalize wr [cc] = Ln at *
    generalize wr [mline (lts l1)] = Mn at *
    clear HC HT hcl HCB HMB hw1 hw2
    unfold SumS at y1 y2 y3 y4 g1 g2 g3 g4 g5 g6 g7 g8
    go_wp2_with fail
    refine (letters_any _ _ _ _ _ S4.out IB.out).mono ?_
    rintro e v5 ⟨rfl, hb5⟩
    have E5 := Lib.hid (E4.out.below hb5)
    have S5 := Lib.hid (S4.out.below hb5)
    have B5 := Lib.hid (ext_trans B4.out hb5)
    clear hb5 E4 S4 B4
    go_wp2_with fail
    refine (letters_any _ _ _ _ _ S5.out IB.out).mono ?_
    rintro e v6 ⟨rfl, hb6⟩
    have E6 := Lib.hid (E5.out.below hb6)
    have B6 := Lib.hid (ext_trans B5.out hb6)
    clear hb6 E5 S5 B5
    generalize hG : four Ln Mn = G at *
    clear hG
    go_wp2
    have hbn := below_alloc v6 (.cells #[.string (bs (G 0)), .string (bs (G 1)), .string (bs (G 2)), .string (bs (G 3))] 9)
    have TB7 := Lib.hid (tbL_four v6 G 9 rfl rfl rfl rfl)
    have E7 := Lib.hid (E6.out.below hbn)
    have B7 := Lib.hid (ext_trans B6.out hbn)
    clear hbn E6 B6 y1 y2 y3 y4 g1 g2 g3 g4 g5 g6 g7 g8
    generalize v6.alloc (.cells #[.string (bs (G 0)), .string (bs (G 1)), .string (bs (G 2)), .string (bs (G 3))] 9) = V7 at *
    generalize v6.heap.size = Y at *
    go_loopw [15] (fun ix wr => ∃ k : Nat, k ≤ 4 ∧ ix = .int .i64 k ∧ TbL Y G 4 wr ∧ Env wr ∧ Below w.heap.size w wr) (fun ix _ => 4 - (intOf ix).toNat)
    case atStart => exact ⟨0, by omega, rfl, TB7.out, E7.out, B7.out⟩
    case round =>
      obtain ⟨k, hk, rfl, htb, hev, hbl⟩ := hrel
      have HTB := Lib.hid htb
      have HEV := Lib.hid hev
      have HBL := Lib.hid hbl
      clear htb hev hbl
      by_cases hk4 : k < 4
      · have i1 : (k : Int) < 4 := by omega
        have HPK := Lib.hid (HP.out k)
        have HFK := Lib.hid (HF.out k)
        have HIK := Lib.hid (HFB.out k)
        have hS : ∀ w', Below wr.heap.size wr w' → (w'.cell? ⟨Y, k, none⟩ = some (.string (bs (G k))) ∧ Below wr.heap.size wr w') := fun w' hb => ⟨HTB.out.ext hb k hk4, hb⟩
        generalize hF : (G k).length = N at *
        generalize G k = F at *
        have hsz : (bs F).size = N := by rw [bs_size]; exact hF
        have HFF := Lib.hid hF
        have HS := Lib.hid hS
        have hN : N ≤ 200 := HFK.out
        clear hS hF
        go_wp2_with fail
        go_region_held3 (fun w' => w'.cell? ⟨Y, k, none⟩ = some (.string (bs F)) ∧ Below wr.heap.size wr w') (exact HS.out _ (by repeat (first | assumption | exact Below.refl _ _ | refine below_drew ?_)))
          ((go_at_call 21; refine (says_ok _ F rfl HIK.out (by rw [HFF.out]; omega) _ _ HPK.out _ (HEV.out.below (by repeat (first | assumption | exact Below.refl _ _ | refine below_drew ?_)))).mono ?_; rintro e w2 ⟨rfl, hb2⟩; have hb3 : Below wr.heap.size wr w2 := Below.trans (by repeat (first | assumption | exact Below.refl _ _ | refine below_drew ?_)) (hb2.mono (by first | omega | (simp <;> omega))); clear hb2))
        go_wp2
        go_roundw
        case rel => exact ⟨k + 1, by omega, by go_num, HTB.out.ext hb3, HEV.out.below hb3, ext_trans HBL.out hb3⟩
        case measure => simp [intOf]; omega
      · have i1 : ¬ (k : Int) < 4 := by omega
        go_wp2_with fail
        refine (awake_ok _ HEV.out).mono ?_
        rintro e w6 ⟨rfl, hb6⟩
        go_wp2
        go_ret
        exact ⟨rfl, ext_trans HBL.out hb6⟩
end Go.Proofs.YtcjpdkhbcbpafaaDoor
