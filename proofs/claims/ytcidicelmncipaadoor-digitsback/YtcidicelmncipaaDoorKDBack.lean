/-
  The walk of DigitsBack.
-/
import Derived.Test.YtcidicelmncipaaDoorDd
import Derived.Test.YtcidicelmncipaaDoorWp
import Derived.Laws.Concat
namespace Go.Proofs.YtcidicelmncipaaDoor
set_option linter.unusedVariables false
open Go.RowKit Go.ChangeShapes Go.WideShapes
open Wd We Dm Da Db It Dc Dd

/-- '&' with 2^i - 1, at int -/
theorem and_ones (i : Nat) (hi : i ≤ 62) (a : Int) {m p : Int} (hm : m = (2 ^ i - 1 : Nat)) (hp : p = (2 ^ i : Nat)) : bits .and .i64 a m = a % p := by
  subst hm hp
  have h2 : 2 ^ i ≤ 2 ^ 62 := Nat.pow_le_pow_right (by omega) hi
  have h1 : 0 < 2 ^ i := Nat.pow_pos (by omega)
  show IntKind.i64.wrap ((BitVec.ofInt 64 a &&& BitVec.ofInt 64 ((2 ^ i - 1 : Nat) : Int)).toNat : Int) = _
  rw [BitVec.toNat_and, BitVec.toNat_ofInt, BitVec.toNat_ofInt, show ((((2 ^ i - 1 : Nat) : Int)) % ((2 ^ 64 : Nat) : Int)).toNat = 2 ^ i - 1 by omega, Nat.and_two_pow_sub_one_eq_mod, IntKind.wrap_i64]
  obtain ⟨q, hq⟩ : 2 ^ i ∣ 2 ^ 64 := Nat.pow_dvd_pow 2 (by omega)
  have e1 : (a % ((2 ^ 64 : Nat) : Int)) % ((2 ^ i : Nat) : Int) = a % ((2 ^ i : Nat) : Int) := Int.emod_emod_of_dvd a ⟨(q : Int), by rw [hq]; push_cast; rfl⟩
  have e2 : (((a % ((2 ^ 64 : Nat) : Int)).toNat % 2 ^ i : Nat) : Int) = a % ((2 ^ i : Nat) : Int) := by
    rw [Int.natCast_emod, Int.toNat_of_nonneg (Int.emod_nonneg _ (by omega)), e1]
  rw [e2]
  have := Int.emod_nonneg a (b := ((2 ^ i : Nat) : Int)) (by omega)
  have := Int.emod_lt_of_pos a (b := ((2 ^ i : Nat) : Int)) (by omega)
  omega

theorem bs_cons (l : List Int) : (⟨#[48]⟩ : ByteArray) ++ bs l = bs (48 :: l) := by
  apply ByteArray.ext
  rw [ByteArray.data_append]
  simp [bs]

set_option maxRecDepth 100000 in
set_option maxHeartbeats 1600000 in
theorem walk_DigitsBack (a0 : Int) (a1 : Int) (a2 : Int) (w : World) (w0 : (Lit.int .i64 a0).wf = true) (w1 : (Lit.int .i64 a1).wf = true) (w2 : (Lit.int .i64 a2).wf = true) (tab : It.Tab w) :
    Calls Tryd.prog 6 #[.int .i64 a0, .int .i64 a1, .int .i64 a2] w fun e w' => e = .returned (.bool true) ∧ Below w.heap.size w w' := by
  have T := Lib.hid tab
  have hi2 := i64_of w2
  have k0 := and_ones 62 (by omega) a0 (m := 4611686018427387903) (p := 4611686018427387904) (by decide) (by decide)
  have k1 := and_ones 61 (by omega) a1 (m := 2305843009213693951) (p := 2305843009213693952) (by decide) (by decide)
  obtain ⟨x, hx⟩ := Int.eq_ofNat_of_zero_le (Int.emod_nonneg a0 (b := 4611686018427387904) (by omega))
  obtain ⟨y, hy⟩ := Int.eq_ofNat_of_zero_le (Int.emod_nonneg a1 (b := 2305843009213693952) (by omega))
  have hx2 := Int.emod_lt_of_pos a0 (b := 4611686018427387904) (by omega)
  have hy2 := Int.emod_lt_of_pos a1 (b := 2305843009213693952) (by omega)
  rw [hx] at k0 hx2
  rw [hy] at k1 hy2
  have hx3 : x < 4611686018427387904 := by omega
  have hy3 : y < 2305843009213693952 := by omega
  have hbr := bring_any a2 41 (by omega) (by omega) hi2.1 hi2.2
  obtain ⟨r, hr⟩ := Int.eq_ofNat_of_zero_le (Int.emod_nonneg a2 (b := 41) (by omega))
  have hr2 := Int.emod_lt_of_pos a2 (b := 41) (by omega)
  rw [hr] at hbr hr2
  have HBR := Lib.hid hbr
  have h19 : (decs x).length ≤ 19 := decs_length_le (by omega)
  have hne : ((bs (decs x)).size : Int) ≠ 0 := by
    rw [bs_size]; have := List.length_pos_iff.2 (decs_ne x); omega
  have q0 : (((bs (decs x)).size : Int) == 0) = false := by simpa using hne
  have hr3 : r < 41 := by omega
  clear w0 w1 w2 tab hx hy hx2 hy2 hr hr2 hbr hi2 hne
  go_enter Tryd.func6, Tryd.ntmps6
  go_wp2_with fail
  refine (text_ok x (by omega) _ T.out).mono ?_
  rintro e w1 ⟨rfl, hb1⟩
  have T1 := Lib.hid (T.out.below hb1)
  have HB1 := Lib.hid hb1
  clear hb1 T
  go_wp2
  go_loop [11, 12] (fun t ix => ∃ j : Nat, j ≤ r ∧ ix = .int .i64 j ∧ t = .string (bs (List.replicate j 48 ++ decs x))) (fun _ ix => r - (intOf ix).toNat)
  case atStart => exact ⟨0, Nat.zero_le _, rfl, by simp⟩
  case round =>
    obtain ⟨j, hj, rfl, rfl⟩ := hrel
    go_wp2_with fail
    refine (HBR.out _).mono ?_
    rintro e w' ⟨rfl, rfl⟩
    by_cases hjr : j < r
    · have i1 : (j : Int) < (r : Int) := by omega
      have ka : ∀ (P : Program) (w : World), (Op.stringOp .add ⟨#[48]⟩ (bs (List.replicate j 48 ++ decs x))).run P w = .ok (.string (bs (48 :: (List.replicate j 48 ++ decs x)))) w := fun P w => by
        rw [← bs_cons]
        refine run_string_add_sum _ _ _ ?_
        rw [bs_size, List.length_append, List.length_replicate]
        show 1 + _ ≤ _
        omega
      go_wp2
      go_round
      case rel => exact ⟨j + 1, by omega, by go_num, by rw [List.replicate_succ, List.cons_append]⟩
      case measure => simp [intOf]; omega
    · obtain rfl : j = r := by omega
      have hm : (x : Int) + (y : Int) ≤ 9223372036854775807 := by omega
      have p1 : ps (decs x) ((x : Int) + (y : Int)) = ((x : Int), 0) := by
        rw [ps_ok (by omega) (decs_ne x) (ds_decs x) (by rw [vl_decs]; omega), vl_decs]
      have p2 : ps (List.replicate j 48 ++ decs x) ((x : Int) + (y : Int)) = ((x : Int), 0) := by
        rw [ps_ok (by omega) (by have := decs_ne x; simp [this]) ((ds_noughts j).append (ds_decs x)) (by rw [vl_nought, vl_decs]; omega), vl_nought, vl_decs]
      have P1 := Lib.hid p1
      have P2 := Lib.hid p2
      clear p1 p2
      go_wp2_with fail
      refine (parses_yes _ _ rfl (ds_decs x).isB (by omega) _ _ hm P1.out _).mono ?_
      rintro e w2 ⟨rfl, hb2⟩
      go_wp2_with fail
      refine (parses_yes _ _ rfl ((ds_noughts j).append (ds_decs x)).isB (by rw [List.length_append, List.length_replicate]; omega) _ _ hm P2.out _).mono ?_
      rintro e w3 ⟨rfl, hb3⟩
      have T3 := Lib.hid ((T1.out.below hb2).below hb3)
      have HB3 := Lib.hid (ext_trans HB1.out (ext_trans hb2 hb3))
      clear hb2 hb3
      by_cases hx0 : x = 0
      · have q1 : ((x : Int) == 0) = true := by simpa using hx0
        clear hx0
        go_wp2_with fail
        refine (awake_true _ T3.out).mono ?_
        rintro e w4 ⟨rfl, hb4⟩
        go_wp2
        go_ret
        exact ⟨rfl, ext_trans HB3.out hb4⟩
      · have q1 : ((x : Int) == 0) = false := by simpa using hx0
        have hxp : 1 ≤ x := by omega
        clear hx0
        go_wp2_with fail
        refine (fails_yes _ _ rfl (ds_decs x).isB (by omega) _ _ (by omega) (ps_over (by omega) (decs_ne x) (ds_decs x) (by rw [vl_decs]; omega)) _).mono ?_
        rintro e w5 ⟨rfl, hb5⟩
        go_wp2_with fail
        refine (awake_true _ (T3.out.below hb5)).mono ?_
        rintro e w4 ⟨rfl, hb4⟩
        go_wp2
        go_ret
        exact ⟨rfl, ext_trans HB3.out (ext_trans hb5 hb4)⟩
end Go.Proofs.YtcidicelmncipaaDoor
