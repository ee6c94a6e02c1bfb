/-
  The walk of RunesPiece.
-/
import Derived.Test.YtjicaoljecpapaaWc
import Derived.Test.YtjicaoljecpapaaWp
namespace Go.Proofs.Ytjicaoljecpapaa
set_option linter.unusedVariables false
open Go.RowKit Go.ChangeShapes Go.WideShapes
open Utf Wd Wr We Wi

set_option maxHeartbeats 800000 in
theorem walk_RunesPiece (a0 : Int) (a1 : Int) (w : World) (w0 : (Lit.int .i64 a0).wf = true) (w1 : (Lit.int .i64 a1).wf = true) :
    Calls Try.prog 11 #[.int .i64 a0, .int .i64 a1] w fun e w' => e = .returned (.bool true) ∧ Below w.heap.size w w' := by
  have hw1 := i64_of w1
  by_cases hc : Utf.form a0 = 0
  · go_enter Try.func11, Try.ntmps11
    go_wp2_with fail
    refine (works_true w).mono ?_
    rintro e w1 ⟨rfl, hb1⟩
    go_wp2_with fail
    refine (encode_no a0 hc _).mono ?_
    rintro e w2 ⟨rfl, rfl⟩
    go_wp2
    go_ret
    exact ⟨rfl, hb1⟩
  · have h1 : 1 ≤ (enc a0).length := List.length_pos_iff.2 (enc_ne hc)
    have h4 : (enc a0).length ≤ 4 := by have := enc_length a0; have := form_cases a0; omega
    have HC := Lib.hid hc
    clear hc w0 w1
    by_cases h2 : (enc a0).length < 2
    · have q1 : decide (((enc a0).length : Int) < 2) = true := by simp; omega
      have q2 : (((enc a0).length : Int) == 1) = true := by simp; omega
      go_enter Try.func11, Try.ntmps11
      go_wp2_with fail
      refine (works_true w).mono ?_
      rintro e w1 ⟨rfl, hb1⟩
      go_wp2_with fail
      refine (encode_ok a0 HC.out _).mono ?_
      rintro e w2 ⟨rfl, rfl⟩
      go_wp2
      go_ret
      exact ⟨rfl, ext_trans hb1 (below_alloc _ _)⟩
    · have q1 : decide (((enc a0).length : Int) < 2) = false := by simp; omega
      have e2 := Int.emod_nonneg a1 (b := ((enc a0).length : Int) - 1) (by omega)
      have e3 := Int.emod_lt_of_pos a1 (b := ((enc a0).length : Int) - 1) (by omega)
      obtain ⟨j, hj⟩ := Int.eq_ofNat_of_zero_le e2
      rw [hj] at e3
      have HJ := Lib.hid hj
      have hj' : 1 + j < (enc a0).length := by omega
      have hne : (enc a0).take (1 + j) ≠ [] := by
        intro e
        rcases List.take_eq_nil_iff.1 e with h | h
        · omega
        · exact enc_ne HC.out h
      have p1 : decAt ((enc a0).take (1 + j)) 0 = (0, 0, 3) := by
        rw [decAt0 hne]
        exact dec_part HC.out (by omega) hj'
      have p2 : decAt (enc a0) ((1 + j : Nat) : Int) = (0, 0, 10) := by
        rw [decAt_in hj']
        have := dec_mid HC.out (k := 1 + j) (by omega) hj' []
        rwa [List.append_nil] at this
      have p3 : chk ((enc a0).take (1 + j)) = (0, 0, 3) := by
        have := dec_part HC.out (k := 1 + j) (by omega) hj'
        rw [chk_bad hne (by rw [this]; decide), this]
      have P1 := Lib.hid p1
      have P2 := Lib.hid p2
      have P3 := Lib.hid p3
      clear hj e2 e3 p1 p2 p3 hne
      go_enter Try.func11, Try.ntmps11
      go_wp2_with fail
      refine (works_true w).mono ?_
      rintro e w1 ⟨rfl, hb1⟩
      go_wp2_with fail
      refine (encode_ok a0 HC.out _).mono ?_
      rintro e w2 ⟨rfl, rfl⟩
      have TE := Lib.hid (Sl.new w1 (enc a0) 5 .u8 (by unfold maxLen; omega))
      have HB := Lib.hid (enc_byte a0)
      have HBL := Lib.hid (ext_trans hb1 (below_alloc w1 (.cells (bs (enc a0)) 5)))
      go_wp2_with fail
      refine (bring_at _ _ (by omega) (by omega) hw1.1 hw1.2 _ HJ.out).mono ?_
      rintro e w2 ⟨rfl, rfl⟩
      go_wp2_with fail
      refine (decode_at _ _ _ _ ((enc a0).take (1 + j)) _ (TE.out.cut0 (1 + j) (by omega)) (IsB.take HB.out _) P1.out).mono ?_
      rintro e w2 ⟨rfl, rfl⟩
      go_wp2_with fail
      refine (decode_at _ _ _ _ (enc a0) _ TE.out HB.out P2.out).mono ?_
      rintro e w2 ⟨rfl, rfl⟩
      go_wp2_with fail
      refine (check_at _ _ _ ((enc a0).take (1 + j)) _ (TE.out.cut0 (1 + j) (by omega)) (IsB.take HB.out _) P3.out).mono ?_
      rintro e w2 ⟨rfl, rfl⟩
      go_wp2
      go_ret
      exact ⟨rfl, HBL.out⟩
end Go.Proofs.Ytjicaoljecpapaa
