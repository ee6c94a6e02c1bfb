/-
  The walk of RunesAgain.
-/
import Derived.Test.YtjicaoljecpapaaWi
import Derived.Test.YtjicaoljecpapaaWp
import Derived.Test.YtjicaoljecpapaaUtp
namespace Go.Proofs.Ytjicaoljecpapaa
set_option linter.unusedVariables false
open Go.RowKit Go.ChangeShapes Go.WideShapes
open Utf Wd Wr We Wi

set_option maxHeartbeats 800000 in
theorem walk_RunesAgain (A0 : Option Addr) (n0 c0 : Nat) (l0 : List Int) (a1 : Int) (w : World) (s0 : Sl .u8 w A0 n0 c0 l0) (b0 : ∀ x ∈ l0, (Lit.int .u8 x).wf = true) (z0 : c0 * 1 ≤ 140737488351232) (w1 : (Lit.int .i64 a1).wf = true) :
    Calls Try.prog 7 #[.slice A0 n0 c0, .int .i64 a1] w fun e w' => e = .returned (.bool true) ∧ Below w.heap.size w w' := by
  have hB := isB_of b0
  have hlen := s0.len
  by_cases hi : a1 < 0 ∨ (n0 : Int) ≤ a1
  · have hd : decAt l0 a1 = (0, 0, 9) := decAt_out (by rw [hlen]; exact hi)
    have S := Lib.hid s0
    have HB := Lib.hid hB
    have HD := Lib.hid hd
    clear s0 b0 hB hd hlen w1
    rcases hi with hi | hi
    · have d1 : decide (a1 < 0) = true := by simpa using hi
      go_enter Try.func7, Try.ntmps7
      go_wp2_with fail
      refine (works_true w).mono ?_
      rintro e w1 ⟨rfl, hb1⟩
      go_wp2_with fail
      refine (decode_at _ _ _ _ l0 _ (S.out.below hb1) HB.out HD.out).mono ?_
      rintro e w2 ⟨rfl, rfl⟩
      go_wp2
      go_ret
      exact ⟨rfl, hb1⟩
    · have d1 : decide (a1 < 0) = false := by simp; omega
      have d2 : decide ((n0 : Int) ≤ a1) = true := by simpa using hi
      go_enter Try.func7, Try.ntmps7
      go_wp2_with fail
      refine (works_true w).mono ?_
      rintro e w1 ⟨rfl, hb1⟩
      go_wp2_with fail
      refine (decode_at _ _ _ _ l0 _ (S.out.below hb1) HB.out HD.out).mono ?_
      rintro e w2 ⟨rfl, rfl⟩
      go_wp2
      go_ret
      exact ⟨rfl, hb1⟩
  · obtain ⟨i, rfl⟩ := Int.eq_ofNat_of_zero_le (a := a1) (by omega)
    have hin : i < n0 := by omega
    have hd := decAt_in (l := l0) (i := i) (by omega)
    have d1 : decide ((i : Int) < 0) = false := by simp
    have d2 : decide ((n0 : Int) ≤ (i : Int)) = false := by simp; omega
    have d3 : decide (n0 ≤ i) = false := by simp; omega
    have hcap := s0.le
    have S := Lib.hid s0
    have HB := Lib.hid hB
    have HLEN := Lib.hid hlen
    rcases way (l0.drop i) (hB.drop i) with ⟨e0, _⟩ | ⟨c, r, hf, hl, e⟩ | ⟨_, _, _, _, _, _, e⟩ | e
    · exfalso; have h5 := congrArg List.length e0; rw [List.length_drop] at h5; simp at h5; omega
    · rw [e] at hd
      have hfl := enc_length c
      have hfc := form_cases c
      obtain ⟨m, hm⟩ : ∃ m : Nat, Utf.form c = (m : Int) := ⟨(enc c).length, hfl.symm⟩
      have hml : (enc c).length = m := by omega
      have hmin : i + m ≤ n0 := by have h5 := congrArg List.length hl; rw [List.length_drop, List.length_append] at h5; omega
      have hm0 : 0 < m := by omega
      have hm4 : m ≤ 4 := by omega
      have htk : (l0.drop i).take m = enc c := by rw [hl, ← hml, List.take_left]
      rw [hm] at hd
      have HD := Lib.hid hd
      have HF := Lib.hid hf
      have HML := Lib.hid hml
      have HTK := Lib.hid htk
      have hmax : c0 ≤ 9223372036854775807 := by have := s0.max; unfold maxLen at this; omega
      obtain ⟨b, off, x, rfl, _, _, _⟩ := s0.row.look hin
      have hcut := s0.row.cutS i m hmin
      have HCUT := Lib.hid hcut
      clear s0 b0 hB hd hlen w1 hi hf hml htk hm hl e hfl hfc hcut
      have q1 : ((m : Int) == (m : Int)) = true := by simp
      have q2 : decide ((m : Int) ≤ (n0 : Int) - (i : Int)) = true := by simp; omega
      have q3 : ¬ c0 = i := by omega
      go_enter Try.func7, Try.ntmps7
      go_wp2_with fail
      refine (works_true w).mono ?_
      rintro e w1 ⟨rfl, hb1⟩
      go_wp2_with fail
      refine (decode_at _ _ _ _ l0 _ (S.out.below hb1) HB.out HD.out).mono ?_
      rintro e w2 ⟨rfl, rfl⟩
      go_wp2_with fail
      refine (encode_ok c HF.out _).mono ?_
      rintro e w2 ⟨rfl, rfl⟩
      rw [HML.out]
      go_wp2_with fail
      refine (eq_any _ _ _ _ _ _ (enc c) ((l0.drop i).take m) _ (by rw [← HML.out]; exact Row.new w1 (enc c) _ .u8) ((HCUT.out.below hb1).alloc _) (by unfold maxLen; omega)).mono ?_
      rintro e w2 ⟨rfl, q, rfl⟩
      rw [decide_eq_true HTK.out.symm]
      go_wp2
      go_ret
      exact ⟨rfl, below_drewN (ext_trans hb1 (below_alloc _ _)) q⟩
    · rw [e] at hd
      have HD := Lib.hid hd
      clear s0 b0 hB hd hlen w1 e
      go_enter Try.func7, Try.ntmps7
      go_wp2_with fail
      refine (works_true w).mono ?_
      rintro e w1 ⟨rfl, hb1⟩
      go_wp2_with fail
      refine (decode_at _ _ _ _ l0 _ (S.out.below hb1) HB.out HD.out).mono ?_
      rintro e w2 ⟨rfl, rfl⟩
      go_wp2
      go_ret
      exact ⟨rfl, hb1⟩
    · rw [e] at hd
      have HD := Lib.hid hd
      clear s0 b0 hB hd hlen w1 e
      go_enter Try.func7, Try.ntmps7
      go_wp2_with fail
      refine (works_true w).mono ?_
      rintro e w1 ⟨rfl, hb1⟩
      go_wp2_with fail
      refine (decode_at _ _ _ _ l0 _ (S.out.below hb1) HB.out HD.out).mono ?_
      rintro e w2 ⟨rfl, rfl⟩
      go_wp2
      go_ret
      exact ⟨rfl, hb1⟩
end Go.Proofs.Ytjicaoljecpapaa
