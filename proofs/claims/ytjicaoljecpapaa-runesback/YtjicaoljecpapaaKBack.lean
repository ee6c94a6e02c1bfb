/-
  The walk of RunesBack.
-/
import Derived.Test.YtjicaoljecpapaaWi
import Derived.Test.YtjicaoljecpapaaWp
import Derived.Test.YtjicaoljecpapaaUtp
namespace Go.Proofs.Ytjicaoljecpapaa
set_option linter.unusedVariables false
set_option linter.unusedSimpArgs false
open Go.RowKit Go.ChangeShapes Go.WideShapes
open Utf Wd Wr We Wi

/-- is a number a character? -/
def chB (c : Int) : Bool := decide (Utf.form c ≠ 0)
set_option maxHeartbeats 800000 in
theorem character_any (c : Int) (w : World) : Calls Try.prog 25 #[.int .i64 c] w fun e w' => e = .returned (.bool (chB c)) ∧ w = w' := by
  have hf := form_cases c
  have key : chB c = decide (0 ≤ c ∧ c ≤ 1114111 ∧ (c < 55296 ∨ 57343 < c)) := by
    unfold chB; rw [decide_eq_decide]; omega
  rw [key]
  clear key hf
  by_cases a1 : 0 ≤ c
  · by_cases a2 : c ≤ 1114111
    · by_cases a3 : c < 55296
      · have d1 : decide (0 ≤ c) = true := by simpa using a1
        have d2 : decide (c ≤ 1114111) = true := by simpa using a2
        have d3 : decide (c < 55296) = true := by simpa using a3
        go_enter Try.func25, Try.ntmps25
        go_wp2
        go_ret
        exact ⟨ret1 (by simp [a1, a2, a3]), rfl⟩
      · have d1 : decide (0 ≤ c) = true := by simpa using a1
        have d2 : decide (c ≤ 1114111) = true := by simpa using a2
        have d3 : decide (c < 55296) = false := by simpa using a3
        go_enter Try.func25, Try.ntmps25
        go_wp2
        go_ret
        exact ⟨ret1 (by simp [d1, d2, d3, Bool.decide_and, Bool.decide_or]), rfl⟩
    · have d1 : decide (0 ≤ c) = true := by simpa using a1
      have d2 : decide (c ≤ 1114111) = false := by simpa using a2
      go_enter Try.func25, Try.ntmps25
      go_wp2
      go_ret
      exact ⟨ret1 (by simp [d1, d2, Bool.decide_and]), rfl⟩
  · have d1 : decide (0 ≤ c) = false := by simpa using a1
    go_enter Try.func25, Try.ntmps25
    go_wp2
    go_ret
    exact ⟨ret1 (by simp [d1, Bool.decide_and]), rfl⟩

set_option maxRecDepth 100000 in
set_option maxHeartbeats 800000 in
theorem walk_RunesBack (a0 : Int) (A1 : Option Addr) (n1 c1 : Nat) (l1 : List Int) (A2 : Option Addr) (n2 c2 : Nat) (l2 : List Int) (w : World) (w0 : (Lit.int .i64 a0).wf = true) (s1 : Sl .u8 w A1 n1 c1 l1) (b1 : ∀ x ∈ l1, (Lit.int .u8 x).wf = true) (z1 : c1 * 1 ≤ 140737488351232) (s2 : Sl .u8 w A2 n2 c2 l2) (b2 : ∀ x ∈ l2, (Lit.int .u8 x).wf = true) (z2 : c2 * 1 ≤ 140737488351232) :
    Calls Try.prog 6 #[.int .i64 a0, .slice A1 n1 c1, .slice A2 n2 c2] w fun e w' => e = .returned (.bool true) ∧ Below w.heap.size w w' := by
  by_cases hc : Utf.form a0 = 0
  · have hch : chB a0 = false := by simp [chB, hc]
    have HCH := Lib.hid hch
    clear hch
    go_enter Try.func6, Try.ntmps6
    go_wp2_with fail
    refine (works_true w).mono ?_
    rintro e w1 ⟨rfl, hb1⟩
    go_wp2_with fail
    refine (encode_no a0 hc _).mono ?_
    rintro e w2 ⟨rfl, rfl⟩
    go_wp2_with fail
    refine (character_any _ _).mono ?_
    rintro e w2 ⟨rfl, rfl⟩
    rw [HCH.out]
    go_wp2
    go_ret
    exact ⟨rfl, hb1⟩
  · have hch : chB a0 = true := by simp [chB, hc]
    have HCH := Lib.hid hch
    clear hch
    have hB1 := isB_of b1
    have hB2 := isB_of b2
    have hle1 := s1.le
    have hle2 := s2.le
    have hx1 : c1 ≤ 140737488351232 := by omega
    have hx2 : c2 ≤ 140737488351232 := by omega
    obtain ⟨m1, t1, g1, k1, hm1⟩ := s1.most 1000
    obtain ⟨m2, t2, g2, k2, hm2⟩ := s2.most 1000
    have T1 := Lib.hid t1
    have T2 := Lib.hid t2
    have HB1 := Lib.hid (hB1.take 1000)
    have HB2 := Lib.hid (hB2.take 1000)
    have HC := Lib.hid hc
    have hlc := enc_length a0
    have hfc := form_cases a0
    clear s1 s2 b1 b2 hB1 hB2 z1 z2 w0 t1 t2 hc
    obtain ⟨i0, hi, hz0, hz1, hz2⟩ := info_parts u8_info
    have e4 : (enc a0).length ≤ 4 := by omega
    have e1 : 1 ≤ (enc a0).length := List.length_pos_iff.2 (enc_ne HC.out)
    have hda : decAt (l1.take 1000 ++ enc a0 ++ l2.take 1000) (m1 : Int) = (a0, ((enc a0).length : Int), 0) := by
      have hl := T1.out.len
      rw [decAt_in (by rw [List.append_assoc, List.length_append, List.length_append, hl]; omega), List.append_assoc, ← hl, List.drop_left, dec_enc HC.out, hlc]
    have HDA := Lib.hid hda
    have HBA : Hid (IsB (l1.take 1000 ++ enc a0 ++ l2.take 1000)) := (HB1.out.append (enc_byte a0)).append HB2.out
    have q1 : (((enc a0).length : Int) == ((enc a0).length : Int)) = true := by simp
    have q2 : decide ((1 : Int) ≤ ((enc a0).length : Int)) = true := by simp; omega
    have q3 : decide (((enc a0).length : Int) ≤ 4) = true := by simp; omega
    have q4 : (a0 == a0) = true := by simp
    have q5 : ¬ (1000 : Int) < (m1 : Int) := by omega
    have q6 : ¬ (1000 : Int) < (m2 : Int) := by omega
    clear hda hlc hfc
    have L1 := List.length_take_le 1000 l1
    have L2 := List.length_take_le 1000 l2
    rcases hm1 with ⟨p1, rfl⟩ | ⟨p1, rfl⟩
    all_goals rcases hm2 with ⟨p2, rfl⟩ | ⟨p2, rfl⟩
    all_goals
      go_enter Try.func6, Try.ntmps6
      go_wp2_with fail
      refine (works_true w).mono ?_
      rintro e w1 ⟨rfl, hb1⟩
      go_wp2_with fail
      refine (encode_ok a0 HC.out _).mono ?_
      rintro e w2 ⟨rfl, rfl⟩
      have T1w := Lib.hid ((T1.out.below hb1).alloc (.cells (bs (enc a0)) 5))
      have T2w := Lib.hid ((T2.out.below hb1).alloc (.cells (bs (enc a0)) 5))
      have TE := Lib.hid (Sl.new w1 (enc a0) 5 .u8 (by unfold maxLen; omega))
      have HBL := Lib.hid (ext_trans hb1 (below_alloc w1 (.cells (bs (enc a0)) 5)))
      go_wp2_with fail
      go_quiet (fail)
      go_wp2_with fail
      refine (copy_any _ _ _ (l1.take 1000) _ (T1w.out.drewN nq) (by omega)).mono ?_
      rintro e w3 ⟨v3, rfl, ho3, hb3⟩
      go_wp2_with (first
        | (at_builtin; refine wp_app rfl (.tmp 45) (.tmp 46) _ rfl _ Try.underlying22 hi hz0 hz1 hz2 rfl rfl ho3 rfl ((TE.out.drewN nq).below hb3) (by omega) (by unfold maxLen; omega) hb3.size ?_; intro v4 w4 ho4 hb4 _)
        | (at_builtin; refine wp_app rfl (.tmp 47) (.tmp 48) _ rfl _ Try.underlying22 hi hz0 hz1 hz2 rfl rfl ho4 rfl ((T2w.out.drewN nq).below (hb3.trans hb4)) (by simp only [List.length_append]; omega) (by unfold maxLen; simp only [List.length_append]; omega) (hb3.trans hb4).size ?_; intro v5 w5 ho5 hb5 _))
      obtain ⟨A5, c5, hv5, t5, _⟩ := ho5.sl
      rw [hv5]
      clear hv5
      refine (decode_at _ _ _ _ _ _ t5 HBA.out HDA.out).mono ?_
      rintro e w6 ⟨rfl, rfl⟩
      go_wp2_with fail
      refine (character_any _ _).mono ?_
      rintro e w6 ⟨rfl, rfl⟩
      rw [HCH.out]
      go_wp2
      go_ret
      exact ⟨rfl, ext_trans (below_drewN HBL.out nq) ((hb3.trans hb4).trans hb5)⟩
end Go.Proofs.Ytjicaoljecpapaa
