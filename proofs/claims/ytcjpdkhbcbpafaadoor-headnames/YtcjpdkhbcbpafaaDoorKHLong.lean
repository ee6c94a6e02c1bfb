/-
  The walk of HeadLong.
-/
import Derived.Test.YtcjpdkhbcbpafaaDoorHg
import Derived.Test.YtcjpdkhbcbpafaaDoorWp
namespace Go.Proofs.YtcjpdkhbcbpafaaDoor
set_option linter.unusedVariables false
open Go.RowKit Go.ChangeShapes Go.WideShapes
open Wd We Dm Dc Dd Hm Hb Hc Hd He Hg

/-- the line ahead -/
def ly (j : Nat) : List Int := [120, 58] ++ List.replicate j 121
theorem ly_length (j : Nat) : (ly j).length = j + 2 := by unfold ly; simp
theorem ly_next (j : Nat) : ly j ++ [121] = ly (j + 1) := by unfold ly; rw [List.append_assoc, List.replicate_succ']
theorem ly_isB (j : Nat) : IsB (ly j) := fun x hx => by
  unfold ly at hx
  rcases List.mem_append.1 hx with g | g
  · have : IsB [120, 58] := isB_all (by decide)
    exact this x g
  · rw [List.eq_of_mem_replicate g]; omega
theorem ly_line (j : Nat) : ly j = [120] ++ (58 :: List.replicate j 121) := rfl
theorem inN_x : ∀ a ∈ ([120] : List Int), inN a = true := List.all_eq_true.1 (by decide)
theorem inV_y (j : Nat) : ∀ a ∈ List.replicate j (121 : Int), inV a = true := fun a ha => by rw [List.eq_of_mem_replicate ha]; decide
theorem ly_clean (j : Nat) : Cl (ly j) ∧ ly j ≠ [] := by rw [ly_line]; exact cl_line inN_x (inV_y j)
theorem ly_tel (j : Nat) : tel (ly j) (-1) = (-1, 0) := by
  rw [ly_line, tel_line _ (by decide) inN_x (inV_y j)]
  unfold fin; rw [if_neg (by decide)]
theorem decs1 : decs 1 = [49] := by rw [decs_one (by omega)]; rfl
theorem ml1 : ml 1 = [67, 111, 110, 116, 101, 110, 116, 45, 76, 101, 110, 103, 116, 104, 58, 32, 49] := by unfold ml CL; rw [decs1]; rfl
def lt1 : List Int := [13, 10, 67, 111, 110, 116, 101, 110, 116, 45, 76, 101, 110, 103, 116, 104, 58, 32, 49, 13, 10, 13, 10]
theorem long_eq (j : Nat) : ly j ++ lt1 = wr [ly j, ml 1] ++ ([13, 10] ++ []) := by
  rw [wr_cons, wr_cons, wr_nil, ml1]; unfold lt1; simp
theorem long_length (j : Nat) : (ly j ++ lt1).length = j + 25 := by rw [List.length_append, ly_length]; rfl
theorem long_isB (j : Nat) : IsB (ly j ++ lt1) := (ly_isB j).append (isB_all (by decide))
theorem long_wr (j : Nat) : (wr [ly j, ml 1]).length + 2 = j + 25 := by rw [← long_length, long_eq]; simp
theorem long_cl (j : Nat) : ∀ z ∈ [ly j, ml 1], Cl z ∧ z ≠ [] := fun z hz => by
  rcases List.mem_cons.1 hz with e | e
  · rw [e]; exact ly_clean j
  · rw [List.mem_singleton.1 e]; exact ml_clean 1
theorem long_in {j : Nat} (h : j + 25 ≤ 512) : prs (ly j ++ lt1) = (1, ((j + 25 : Nat) : Int), 0) := by
  have eg : go (-1) [ly j, ml 1] = (((1 : Nat) : Int), 0) := by
    rw [go_on (ly_tel j), go_on (ml_same (by omega) (.inl rfl)), go_nil, if_neg (by omega)]
  rw [long_eq, prs_wr [] (by simp) (long_cl j) (by rw [long_wr]; exact h), eg, if_pos rfl, long_wr]
  rfl
theorem long_out {j : Nat} (h : 512 < j + 25) : prs (ly j ++ lt1) = (0, 0, 5) := by
  rw [long_eq, prs_long [] (by simp) (long_cl j) (by rw [long_wr]; exact h)]
theorem lt1_bs : (⟨#[13, 10, 67, 111, 110, 116, 101, 110, 116, 45, 76, 101, 110, 103, 116, 104, 58, 32, 49, 13, 10, 13, 10]⟩ : ByteArray) = bs lt1 := by kernel_rfl
theorem lt1_len : lt1.length = 23 := rfl

set_option maxRecDepth 100000 in
set_option maxHeartbeats 1600000 in
theorem core_HeadLong (n : Int) (hn : -9223372036854775808 ≤ n ∧ n ≤ 9223372036854775807) (w : World) (env : Hb.Env w) :
    Calls Tryd.prog 9 #[.int .i64 n] w fun e w' => e = .returned (.bool true) ∧ Below w.heap.size w w' := by
  obtain ⟨i0, hi, hz0, hz1, hz2⟩ := info_parts u8_info
  have hbr := bring_any n 301 (by omega) (by omega) hn.1 hn.2
  obtain ⟨x, hx⟩ := Int.eq_ofNat_of_zero_le (Int.emod_nonneg n (b := 301) (by omega))
  have hx2 := Int.emod_lt_of_pos n (b := 301) (by omega)
  rw [hx] at hbr hx2
  have hx3 : x ≤ 300 := by omega
  have HBR := Lib.hid hbr
  have E := Lib.hid env
  clear hbr hx hx2 hn env
  go_enter Tryd.func9, Tryd.ntmps9
  go_wp2_with fail
  refine (HBR.out _).mono ?_
  rintro e w' ⟨rfl, rfl⟩
  obtain ⟨K, hK⟩ : ∃ K : Nat, K = 400 + x := ⟨_, rfl⟩
  have hK1 : 400 ≤ K := by omega
  have hK2 : K ≤ 700 := by omega
  have HK : 400 + (x : Int) = (K : Int) := by omega
  clear hK
  have HO : Own .u8 5 (w.alloc (.cells #[.int .u8 120, .int .u8 58] 5)) w.heap.size (.slice none 0 0) [] := Own.nil
  have TE : Sl .u8 (w.alloc (.cells #[.int .u8 120, .int .u8 58] 5)) (some ⟨w.heap.size, 0, none⟩) 2 2 [120, 58] := Sl.new w [120, 58] 5 .u8 (by unfold maxLen; simp)
  have HO := Lib.hid HO
  have TE := Lib.hid TE
  go_wp2_with (at_builtin; refine wp_app rfl _ _ _ rfl w.heap.size Tryd.underlying22 hi hz0 hz1 hz2 rfl rfl HO.out rfl TE.out (by decide) (by unfold maxLen; decide) (by simp) ?_; intro v3 w3 ho3 hb3 _)
  have HO3 := Lib.hid ho3
  have HB3 := Lib.hid (((Below.refl _ _).alloc (Nat.le_refl _) _).trans hb3)
  clear ho3 hb3 HO TE
  go_wp2
  go_loopw [4] (fun bv wr => ∃ j : Nat, j + 2 ≤ K ∧ Own .u8 5 wr w.heap.size bv (ly j) ∧ Below w.heap.size w wr) (fun bv _ => K - slen bv)
  case atStart => exact ⟨0, by omega, HO3.out, HB3.out⟩
  case round =>
    obtain ⟨j, hj, ho, hb⟩ := hrel
    obtain ⟨A, c, rfl, t, -⟩ := ho.sl
    have hJ := ly_length j
    have HO4 := Lib.hid ho
    have T4 := Lib.hid t
    have HB := Lib.hid hb
    have hsz := hb.size
    have E4 := Lib.hid (E.out.below hb)
    have HJJ := Lib.hid hJ
    clear ho t hb
    rw [hJ] at T4 HO4 ⊢
    clear hJ
    have hlen : (Builtin.len_ #[22] 3 #[Value.slice A (j + 2) c]).run Tryd.prog wr = .ok (goInt (j + 2)) wr := run_len_slice _ _ _ _ _ _ (by kernel_rfl)
    by_cases hjk : j + 2 < K
    · have i1 : ((j + 2 : Nat) : Int) < (K : Int) := by omega
      have HO5 := Lib.hid (World.ownsRow.alloc HO4.out (.cells #[.int .u8 121] 5))
      have TE5 : Sl .u8 (wr.alloc (.cells #[.int .u8 121] 5)) (some ⟨wr.heap.size, 0, none⟩) 1 1 [121] := Sl.new wr [121] 5 .u8 (by unfold maxLen; simp)
      have TE5 := Lib.hid TE5
      go_wp2_with (at_builtin; refine wp_app rfl _ _ _ rfl w.heap.size Tryd.underlying22 hi hz0 hz1 hz2 rfl rfl HO5.out rfl TE5.out (by rw [HJJ.out]; omega) (by rw [HJJ.out]; unfold maxLen; omega) (by simp; omega) ?_; intro v6 w6 ho6 hb6 _)
      rw [ly_next] at ho6
      have HO6 := Lib.hid ho6
      have HB6 := Lib.hid ((HB.out.alloc hsz _).trans hb6)
      obtain ⟨A6, c6, rfl, t6, -⟩ := ho6.sl
      clear ho6 hb6 t6
      go_wp2
      go_roundw
      case rel => exact ⟨j + 1, by omega, HO6.out, HB6.out⟩
      case measure => simp [slen, ly_length]; omega
    · have i1 : ¬ ((j + 2 : Nat) : Int) < (K : Int) := by omega
      have kc := conv_bs T4.out
      have ka := add_bs (l := ly j) (r := lt1) (by rw [ly_length, lt1_len]; omega) rfl lt1_bs
      have HISB := Lib.hid (long_isB j)
      obtain ⟨F, hF⟩ : ∃ F : Nat, F = j + 25 := ⟨_, rfl⟩
      have HP1 := Lib.hid (show F ≤ 512 → prs (ly j ++ lt1) = (1, (F : Int), 0) from fun h => by rw [hF] at h ⊢; exact long_in h)
      have HP2 := Lib.hid (show ¬ F ≤ 512 → prs (ly j ++ lt1) = (0, 0, 5) from fun h => long_out (by omega))
      have HF := Lib.hid (show (ly j ++ lt1).length = F by rw [hF]; exact long_length j)
      have hF3 : F ≤ 1000 := by omega
      clear hF hlen
      generalize ly j ++ lt1 = f at *
      have hsf : (bs f).size = F := by rw [bs_size]; exact HF.out
      by_cases h5 : F ≤ 512
      · have i2 : (F : Int) ≤ 512 := by omega
        have HTP := Lib.hid (HP1.out h5)
        clear HP1 HP2 h5
        go_wp2_with fail
        refine (says_ok _ f rfl HISB.out (by rw [HF.out]; omega) _ _ HTP.out _ E4.out).mono ?_
        rintro e w5 ⟨rfl, hb5⟩
        have E5 := Lib.hid (E4.out.below hb5)
        have HB5 := Lib.hid (ext_trans HB.out hb5)
        clear hb5
        go_wp2_with fail
        refine (awake_ok _ E5.out).mono ?_
        rintro e w6 ⟨rfl, hb6⟩
        go_wp2
        go_ret
        exact ⟨rfl, ext_trans HB5.out hb6⟩
      · have i2 : ¬ (F : Int) ≤ 512 := by omega
        have HTP := Lib.hid (HP2.out h5)
        clear HP1 HP2 h5
        go_wp2_with fail
        refine (fails_ok _ f rfl HISB.out (by rw [HF.out]; omega) _ HTP.out _ E4.out).mono ?_
        rintro e w5 ⟨rfl, hb5⟩
        have E5 := Lib.hid (E4.out.below hb5)
        have HB5 := Lib.hid (ext_trans HB.out hb5)
        clear hb5
        go_wp2_with fail
        refine (awake_ok _ E5.out).mono ?_
        rintro e w6 ⟨rfl, hb6⟩
        go_wp2
        go_ret
        exact ⟨rfl, ext_trans HB5.out hb6⟩
theorem walk_HeadLong (a0 : Int) (w : World) (w0 : (Lit.int .i64 a0).wf = true) (env : Hb.Env w) :
    Calls Tryd.prog 9 #[.int .i64 a0] w fun e w' => e = .returned (.bool true) ∧ Below w.heap.size w w' := by
  exact core_HeadLong a0 (i64_of w0) w env
end Go.Proofs.YtcjpdkhbcbpafaaDoor
