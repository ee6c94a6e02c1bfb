/-
  The walk of HeadTwice.
-/
import Derived.Test.YtcjpdkhbcbpafaaDoorHg
import Derived.Test.YtcjpdkhbcbpafaaDoorWp
import Derived.Deep.QuietTactic
import Derived.BigQuiet
namespace Go.Proofs.YtcjpdkhbcbpafaaDoor
set_option linter.unusedVariables false
open Go.RowKit Go.ChangeShapes Go.WideShapes
open Wd We Dm Dc Dd Hm Hb Hc Hd He Hg

theorem twice_eq (x y : Nat) : (hd x).take ((hd x).length - 2) ++ hd y = wr [ml x, ml y] ++ ([13, 10] ++ []) := by
  have e : (hd x).take ((hd x).length - 2) = wr [ml x] := by
    unfold hd
    have e3 : (wr [ml x] ++ ([13, 10] ++ [])).length - 2 = (wr [ml x]).length := by simp
    rw [e3, List.take_left]
  rw [e]
  unfold hd wr; simp
theorem twice_prs {x y : Nat} (hx : x ≤ 65536) (hy : y ≤ 65536) : prs (wr [ml x, ml y] ++ ([13, 10] ++ [])) = if x = y then ((x : Int), ((wr [ml x, ml y] ++ ([13, 10] ++ [])).length : Int), 0) else (0, 0, 60) := by
  have h5 := decs_five hx
  have h6 := decs_five hy
  have hl : (wr [ml x, ml y]).length = 36 + (decs x).length + (decs y).length := by unfold ml wr CL; simp; omega
  have hc : ∀ z ∈ [ml x, ml y], Cl z ∧ z ≠ [] := fun z hz => by
    rcases List.mem_cons.1 hz with e | e
    · rw [e]; exact ml_clean x
    · rw [List.mem_singleton.1 e]; exact ml_clean y
  by_cases h : x = y
  · have eg : go (-1) [ml x, ml y] = ((x : Int), 0) := by
      rw [go_on (ml_same hx (.inl rfl)), go_on (ml_same hy (.inr (by rw [h]))), go_nil, if_neg (by omega), h]
    rw [prs_wr [] (by simp) hc (by omega), eg, if_pos h, if_pos rfl, List.length_append]
    rfl
  · have eg : go (-1) [ml x, ml y] = (0, 60) := by
      rw [go_on (ml_same hx (.inl rfl)), go_bad (ml_unlike hy (by omega) (by omega)) (by omega)]
    rw [prs_wr [] (by simp) hc (by omega), eg, if_neg h, if_neg (by decide)]

set_option maxRecDepth 100000 in
set_option maxHeartbeats 1600000 in
theorem walk_HeadTwice (a0 : Int) (a1 : Int) (w : World) (w0 : (Lit.int .i64 a0).wf = true) (w1 : (Lit.int .i64 a1).wf = true) (tab : It.Tab w) (env : Hb.Env w) :
    Calls Tryd.prog 8 #[.int .i64 a0, .int .i64 a1] w fun e w' => e = .returned (.bool true) ∧ Below w.heap.size w w' := by
  have hi0 := i64_of w0
  have hi1 := i64_of w1
  have hbr := bring_any a0 65537 (by omega) (by omega) hi0.1 hi0.2
  obtain ⟨x, hx⟩ := Int.eq_ofNat_of_zero_le (Int.emod_nonneg a0 (b := 65537) (by omega))
  have hx2 := Int.emod_lt_of_pos a0 (b := 65537) (by omega)
  rw [hx] at hbr hx2
  have hx3 : x ≤ 65536 := by omega
  have hbr' := bring_any a1 65537 (by omega) (by omega) hi1.1 hi1.2
  obtain ⟨y, hy⟩ := Int.eq_ofNat_of_zero_le (Int.emod_nonneg a1 (b := 65537) (by omega))
  have hy2 := Int.emod_lt_of_pos a1 (b := 65537) (by omega)
  rw [hy] at hbr' hy2
  have hy3 : y ≤ 65536 := by omega
  have HBR := Lib.hid hbr
  have HBR' := Lib.hid hbr'
  have T := Lib.hid tab
  have E := Lib.hid env
  have hlx : (hd x).length ≤ 39 := by rw [hd_length]; have := decs_five hx3; omega
  have hlx0 : 20 ≤ (hd x).length := by rw [hd_length]; omega
  have hly : (hd y).length ≤ 39 := by rw [hd_length]; have := decs_five hy3; omega
  have HTP := Lib.hid (twice_prs hx3 hy3)
  have HTE := Lib.hid (twice_eq x y)
  have HDX := Lib.hid (hd_isB x)
  have HDY := Lib.hid (hd_isB y)
  clear hbr hbr' hx hy hx2 hy2 w0 w1 tab env hi0 hi1
  go_enter Tryd.func8, Tryd.ntmps8
  go_wp2_with fail
  refine (awake_ok _ E.out).mono ?_
  rintro e v1 ⟨rfl, hb1⟩
  have T1 := Lib.hid (T.out.below hb1)
  have E1 := Lib.hid (E.out.below hb1)
  have HB1 := Lib.hid hb1
  clear hb1
  go_wp2_with fail
  refine (HBR.out _).mono ?_
  rintro e w' ⟨rfl, rfl⟩
  go_wp2_with fail
  refine (HBR'.out _).mono ?_
  rintro e w' ⟨rfl, rfl⟩
  go_wp2_with fail
  refine (make_ok _ hx3 _ T1.out).mono ?_
  rintro e v2 ⟨A1, c1, rfl, t1, hb2⟩
  have hle1 := t1.le
  have U1 := Lib.hid t1
  have T2 := Lib.hid (T1.out.below hb2)
  have E2 := Lib.hid (E1.out.below hb2)
  have HB2 := Lib.hid (ext_trans HB1.out hb2)
  generalize hX : hd x = hx at *
  generalize hL : hx.length = L at *
  clear t1 hb2
  have HX := Lib.hid hX
  have HLL := Lib.hid hL
  clear hX hL
  go_wp2_with fail
  refine (make_ok _ hy3 _ T2.out).mono ?_
  rintro e v3 ⟨A2, c2, rfl, t2, hb3⟩
  have U2 := Lib.hid t2
  have U1' := Lib.hid ((U1.out.below hb3).cut0 (L - 2) (by omega))
  have E3 := Lib.hid (E2.out.below hb3)
  have HB3 := Lib.hid (ext_trans HB2.out hb3)
  generalize hY : hd y = hy at *
  generalize hM : hy.length = M at *
  have HY := Lib.hid hY
  have HMM := Lib.hid hM
  clear t2 hb3 hY hM
  have hsub : (L : Int) - 2 = ((L - 2 : Nat) : Int) := by omega
  have i1 : ¬ (L : Int) < 2 := by omega
  have k1 : (0 : Int) ≤ (L : Int) - 2 := by omega
  have k2 : (L : Int) - 2 ≤ (c1 : Int) := by omega
  have k3 : ((L : Int) - 2).toNat = L - 2 := by omega
  have kc1 := fun q => conv_bs (U1'.out.drewN q)
  have kc2 := fun q => conv_bs (U2.out.drewN q)
  have ka := add_bs (l := hx.take (L - 2)) (r := hy) (by rw [List.length_take, HMM.out]; omega) rfl rfl
  rw [HTE.out] at ka
  have hlen : (wr [ml x, ml y] ++ ([13, 10] ++ [])).length ≤ 200 := by
    rw [← HTE.out, List.length_append, List.length_take, HMM.out, HLL.out]; omega
  have hisb : IsB (wr [ml x, ml y] ++ ([13, 10] ++ [])) := by
    rw [← HTE.out]; exact (HDX.out.take _).append HDY.out
  have HISB := Lib.hid hisb
  clear hisb
  generalize wr [ml x, ml y] ++ ([13, 10] ++ []) = f at *
  generalize hF : f.length = F at *
  have HF := Lib.hid hF
  have hsz : (bs f).size = F := by rw [bs_size]; exact HF.out
  clear hF
  by_cases hxy : x = y
  · rw [if_pos hxy] at HTP
    have q0 : ((x : Int) == (y : Int)) = true := by simp; omega
    clear hxy
    go_wp2
    go_quiet (fail)
    have E4 := Lib.hid (E3.out.drewN nq)
    have HB4 := Lib.hid (Wd.below_drewN HB3.out nq)
    go_wp2_with fail
    refine (says_ok _ f rfl HISB.out (by rw [HF.out]; omega) _ _ HTP.out _ E4.out).mono ?_
    rintro e w5 ⟨rfl, hb5⟩
    have E5 := Lib.hid (E4.out.below hb5)
    have HB5 := Lib.hid (ext_trans HB4.out hb5)
    clear hb5
    go_wp2_with fail
    refine (awake_ok _ E5.out).mono ?_
    rintro e w6 ⟨rfl, hb6⟩
    go_wp2
    go_ret
    exact ⟨rfl, ext_trans HB5.out hb6⟩
  · rw [if_neg hxy] at HTP
    have q0 : ((x : Int) == (y : Int)) = false := by simp; omega
    clear hxy
    go_wp2
    go_quiet (fail)
    have E4 := Lib.hid (E3.out.drewN nq)
    have HB4 := Lib.hid (Wd.below_drewN HB3.out nq)
    go_wp2_with fail
    refine (fails_ok _ f rfl HISB.out (by rw [HF.out]; omega) _ HTP.out _ E4.out).mono ?_
    rintro e w5 ⟨rfl, hb5⟩
    have E5 := Lib.hid (E4.out.below hb5)
    have HB5 := Lib.hid (ext_trans HB4.out hb5)
    clear hb5
    go_wp2_with fail
    refine (awake_ok _ E5.out).mono ?_
    rintro e w6 ⟨rfl, hb6⟩
    go_wp2
    go_ret
    exact ⟨rfl, ext_trans HB5.out hb6⟩
end Go.Proofs.YtcjpdkhbcbpafaaDoor
