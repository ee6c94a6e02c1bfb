/-
  The walk of HeadBack.
-/
import Derived.Test.YtcjpdkhbcbpafaaDoorHg
import Derived.Test.YtcjpdkhbcbpafaaDoorWp
namespace Go.Proofs.YtcjpdkhbcbpafaaDoor
set_option linter.unusedVariables false
open Go.RowKit Go.ChangeShapes Go.WideShapes
open Wd We Dm Dc Dd Hm Hb Hc Hd He Hg

set_option maxRecDepth 100000 in
set_option maxHeartbeats 1600000 in
theorem walk_HeadBack (a0 : Int) (A1 : Option Addr) (n1 c1 : Nat) (l1 : List Int) (a2 : Int) (w : World) (w0 : (Lit.int .i64 a0).wf = true) (s1 : Sl .u8 w A1 n1 c1 l1) (b1 : ∀ x ∈ l1, (Lit.int .u8 x).wf = true) (z1 : c1 * 1 ≤ 140737488351232) (w2 : (Lit.int .i64 a2).wf = true) (tab : It.Tab w) (env : Hb.Env w) :
    Calls Tryd.prog 5 #[.int .i64 a0, .slice A1 n1 c1, .int .i64 a2] w fun e w' => e = .returned (.bool true) ∧ Below w.heap.size w w' := by
  obtain ⟨i0, hi, hz0, hz1, hz2⟩ := info_parts u8_info
  have hn : n1 ≤ 140737488351232 := by have := s1.le; omega
  have hi0 := i64_of w0
  have hi2 := i64_of w2
  have hbr := bring_any a0 65537 (by omega) (by omega) hi0.1 hi0.2
  obtain ⟨v, hv⟩ := Int.eq_ofNat_of_zero_le (Int.emod_nonneg a0 (b := 65537) (by omega))
  have hv2 := Int.emod_lt_of_pos a0 (b := 65537) (by omega)
  rw [hv] at hbr hv2
  have hv3 : v ≤ 65536 := by omega
  have HBR := Lib.hid hbr
  have T := Lib.hid tab
  have E := Lib.hid env
  have S1 := Lib.hid s1
  have HB1 := Lib.hid (isB_of b1)
  have hhl : (hd v).length ≤ 39 := by rw [hd_length]; have := decs_five hv3; omega
  have hhl0 : 0 < (hd v).length := by rw [hd_length]; omega
  have HP1 := Lib.hid (hd_behind hv3 l1)
  have HP2 : ∀ k, k < (hd v).length → prs ((hd v).take k) = (0, 0, 3) := fun k hk => hd_part hv3 hk
  have HP2 := Lib.hid HP2
  have HD := Lib.hid (hd_isB v)
  clear hbr hv hv2 w0 tab env s1 b1 z1 hi0
  go_enter Tryd.func5, Tryd.ntmps5
  go_wp2_with fail
  refine (HBR.out _).mono ?_
  rintro e w' ⟨rfl, rfl⟩
  go_wp2_with fail
  refine (make_ok _ hv3 _ T.out).mono ?_
  rintro e w1 ⟨A1, c1, rfl, t1, hb1⟩
  have U1 := Lib.hid t1
  have hle1 := t1.le
  have S1' := Lib.hid (S1.out.below hb1)
  have E1 := Lib.hid (E.out.below hb1)
  have HBL1 := Lib.hid hb1
  have HL1 := Lib.hid S1.out.len
  generalize hh : hd v = h at *
  clear hh t1 hb1
  generalize hL : h.length = L at *
  have HLL := Lib.hid hL
  clear hL
  have d1 : ((L : Int) == 0) = false := by simp; omega
  have hbr2 := bring_any a2 (L : Int) (by omega) (by omega) hi2.1 hi2.2
  obtain ⟨k, hk⟩ := Int.eq_ofNat_of_zero_le (Int.emod_nonneg a2 (b := (L : Int)) (by omega))
  have hk2 := Int.emod_lt_of_pos a2 (b := (L : Int)) (by omega)
  rw [hk] at hbr2 hk2
  have hk3 : k < L := by omega
  have HBR2 := Lib.hid hbr2
  clear hbr2 hk hk2 w2 hi2
  go_wp2_with fail
  refine (copy_any _ _ _ _ _ U1.out (by omega)).mono ?_
  rintro e w2 ⟨v2, rfl, o2, hb2⟩
  have O2 := Lib.hid o2
  have S2 := Lib.hid (S1'.out.below hb2)
  have HB2 := Lib.hid hb2
  have hsz := hb2.size
  clear o2 hb2
  go_wp2_with (at_builtin; refine wp_app rfl _ _ _ rfl w1.heap.size Tryd.underlying22 hi hz0 hz1 hz2 rfl rfl O2.out rfl S2.out (by rw [HLL.out]; omega) (by rw [HLL.out]; unfold maxLen; omega) hsz ?_; intro v3 w3 ho3 hb3 _)
  obtain ⟨A3, c3, rfl, t3, -⟩ := ho3.sl
  have T3 := Lib.hid t3
  have HB3 := Lib.hid (HB2.out.trans hb3)
  have E3 := Lib.hid (E1.out.below HB3.out)
  have U3 := Lib.hid ((U1.out.below HB3.out).cut0 k (by omega))
  have HBB := Lib.hid (HD.out.append HB1.out)
  have HP1' := Lib.hid HP1.out
  generalize h ++ l1 = f at *
  generalize f.length = F at *
  clear t3 ho3 hb3
  go_wp2_with fail
  refine (He.parse_any _ _ _ _ _ T3.out HBB.out E3.out).mono ?_
  rintro e w4 ⟨rfl, hb4⟩
  rw [HP1'.out]
  have U4 := Lib.hid (U3.out.below hb4)
  have E4 := Lib.hid (E3.out.below hb4)
  have HB4 := Lib.hid (ext_trans (ext_trans HBL1.out HB3.out) hb4)
  clear hb4
  go_wp2_with fail
  refine (HBR2.out _).mono ?_
  rintro e w' ⟨rfl, rfl⟩
  go_wp2_with fail
  refine (He.parse_any _ _ _ _ _ U4.out (HD.out.take k) E4.out).mono ?_
  rintro e w5 ⟨rfl, hb5⟩
  rw [HP2.out k hk3]
  have qv : ((v : Int) == (v : Int)) = true := by simp
  have qL : ((L : Int) == (L : Int)) = true := by simp
  go_wp2_with fail
  refine (awake_ok _ (E4.out.below hb5)).mono ?_
  rintro e w6 ⟨rfl, hb6⟩
  go_wp2
  go_ret
  exact ⟨rfl, ext_trans HB4.out (ext_trans hb5 hb6)⟩
end Go.Proofs.YtcjpdkhbcbpafaaDoor
