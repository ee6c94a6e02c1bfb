/-
  The walk of DigitsOrder.
-/
import Derived.Test.YtcidicelmncipaaDoorDd
import Derived.Test.YtcidicelmncipaaDoorWp
namespace Go.Proofs.YtcidicelmncipaaDoor
set_option linter.unusedVariables false
open Go.RowKit Go.ChangeShapes Go.WideShapes
open Wd We Dm Da Db It Dc Dd

/-- '&' with 2^62 - 1 -/
theorem and_62 (a : Int) : bits .and .i64 a 4611686018427387903 = a % 4611686018427387904 := by
  show IntKind.i64.wrap ((BitVec.ofInt 64 a &&& BitVec.ofInt 64 4611686018427387903).toNat : Int) = _
  rw [BitVec.toNat_and, BitVec.toNat_ofInt, BitVec.toNat_ofInt, show ((4611686018427387903 : Int) % ((2 ^ 64 : Nat) : Int)).toNat = 2 ^ 62 - 1 from rfl, Nat.and_two_pow_sub_one_eq_mod, IntKind.wrap_i64]
  omega

/-- what the law asks, by the three ways -/
theorem ways (x y : Nat) : ∃ d1 d2 d3 d4 d5 d6 : Bool, decide ((bs (decs x)).size < (bs (decs y)).size) = d1 ∧ (((bs (decs x)).size : Int) == ((bs (decs y)).size : Int)) = d2 ∧
    Op.bytesLess (bs (decs x)).toList (bs (decs y)).toList = d3 ∧ ((bs (decs x)).toList == (bs (decs y)).toList) = d4 ∧ decide (x < y) = d5 ∧ ((x : Int) == (y : Int)) = d6 ∧
    (d1 = true ∧ d5 = true ∧ d4 = false ∧ d6 = false ∨ d1 = false ∧ d2 = true ∧ d3 = d5 ∧ d4 = d6 ∨ d1 = false ∧ d2 = false ∧ d5 = false ∧ d4 = false ∧ d6 = false) := by
  refine ⟨_, _, _, _, _, _, rfl, rfl, rfl, rfl, rfl, rfl, ?_⟩
  rw [bs_size, bs_size, bs_eq (ds_decs x).isB (ds_decs y).isB]
  have hne : ∀ {a b : Nat}, a ≠ b → decide (decs a = decs b) = false := fun h => decide_eq_false fun e => h (decs_inj e)
  rcases Nat.lt_trichotomy (decs x).length (decs y).length with g | g | g
  · have := longer g
    exact .inl ⟨decide_eq_true g, decide_eq_true this, hne (by omega), by simp; omega⟩
  · refine .inr (.inl ⟨decide_eq_false (by omega), by simp [g], ?_, ?_⟩)
    · rw [bs_list, bs_list, less_iff (ds_decs x) (ds_decs y) g, vl_decs, vl_decs, decide_eq_decide]; omega
    · by_cases e : x = y
      · subst e; simp
      · rw [hne e]; symm; simp; omega
  · have := longer g
    exact .inr (.inr ⟨decide_eq_false (by omega), by simp; omega, decide_eq_false (by omega), hne (by omega), by simp; omega⟩)

set_option maxRecDepth 100000 in
set_option maxHeartbeats 1600000 in
theorem walk_DigitsOrder (a0 : Int) (a1 : Int) (w : World) (w0 : (Lit.int .i64 a0).wf = true) (w1 : (Lit.int .i64 a1).wf = true) (tab : It.Tab w) :
    Calls Tryd.prog 8 #[.int .i64 a0, .int .i64 a1] w fun e w' => e = .returned (.bool true) ∧ Below w.heap.size w w' := by
  have T := Lib.hid tab
  have k0 := and_62 a0
  have k1 := and_62 a1
  obtain ⟨x, hx⟩ := Int.eq_ofNat_of_zero_le (Int.emod_nonneg a0 (b := 4611686018427387904) (by omega))
  obtain ⟨y, hy⟩ := Int.eq_ofNat_of_zero_le (Int.emod_nonneg a1 (b := 4611686018427387904) (by omega))
  have hx2 := Int.emod_lt_of_pos a0 (b := 4611686018427387904) (by omega)
  have hy2 := Int.emod_lt_of_pos a1 (b := 4611686018427387904) (by omega)
  rw [hx] at k0 hx2
  rw [hy] at k1 hy2
  have hx3 : x ≤ 9223372036854775807 := by omega
  have hy3 : y ≤ 9223372036854775807 := by omega
  clear w0 w1 tab hx hy hx2 hy2
  obtain ⟨d1, d2, d3, d4, d5, d6, e1, e2, e3, e4, e5, e6, hw⟩ := ways x y
  have E3 := Lib.hid e3
  go_enter Tryd.func8, Tryd.ntmps8
  go_wp2_with fail
  refine (text_ok x hx3 _ T.out).mono ?_
  rintro e w1 ⟨rfl, hb1⟩
  go_wp2_with fail
  refine (text_ok y hy3 _ (T.out.below hb1)).mono ?_
  rintro e w2 ⟨rfl, hb2⟩
  have T2 := Lib.hid ((T.out.below hb1).below hb2)
  have HB1 := Lib.hid hb1
  have HB2 := Lib.hid hb2
  clear hb1 hb2 T k0 k1 hx3 hy3 E3
  rcases hw with ⟨rfl, rfl, rfl, rfl⟩ | ⟨rfl, rfl, h3, h4⟩ | ⟨rfl, rfl, rfl, rfl, rfl⟩
  · go_wp2_with fail
    refine (awake_true _ T2.out).mono ?_
    rintro e w3 ⟨rfl, hb3⟩
    go_wp2
    go_ret
    exact ⟨rfl, ext_trans (ext_trans HB1.out HB2.out) hb3⟩
  · subst h3 h4
    have q5 : (d3 == d3) = true := by simp
    have q6 : (d4 == d4) = true := by simp
    go_wp2_with fail
    refine (awake_true _ T2.out).mono ?_
    rintro e w3 ⟨rfl, hb3⟩
    go_wp2
    go_ret
    exact ⟨rfl, ext_trans (ext_trans HB1.out HB2.out) hb3⟩
  · go_wp2_with fail
    refine (awake_true _ T2.out).mono ?_
    rintro e w3 ⟨rfl, hb3⟩
    go_wp2
    go_ret
    exact ⟨rfl, ext_trans (ext_trans HB1.out HB2.out) hb3⟩
end Go.Proofs.YtcidicelmncipaaDoor
