/-
  The walk of RunesPlain.
-/
import Derived.Test.YtjicaoljecpapaaWc
import Derived.Test.YtjicaoljecpapaaWp
namespace Go.Proofs.Ytjicaoljecpapaa
set_option linter.unusedVariables false
open Go.RowKit Go.ChangeShapes Go.WideShapes
open Utf Wd Wr We Wi

theorem dec_high {a : Int} {r : List Int} (hb : IsB (a :: r)) (h : 128 ≤ a) : (dec (a :: r)).2.2 ≠ 0 ∨ 1 < (dec (a :: r)).2.1 := by
  by_cases h0 : (dec (a :: r)).2.2 = 0
  · obtain ⟨c, t, hc, hl, e⟩ := dec_good hb h0
    right
    rw [e]
    show 1 < Utf.form c
    rcases form_cases c with f | f | f | f | f
    · exact absurd f.1 hc
    · rw [enc1 f.1] at hl; simp at hl; omega
    · omega
    · omega
    · omega
  · exact .inl h0

set_option maxRecDepth 100000 in
set_option maxHeartbeats 800000 in
theorem walk_RunesPlain (a0 : Int) (A1 : Option Addr) (n1 c1 : Nat) (l1 : List Int) (w : World) (w0 : (Lit.int .u8 a0).wf = true) (s1 : Sl .u8 w A1 n1 c1 l1) (b1 : ∀ x ∈ l1, (Lit.int .u8 x).wf = true) (z1 : c1 * 1 ≤ 140737488351232) :
    Calls Try.prog 12 #[.int .u8 a0, .slice A1 n1 c1] w fun e w' => e = .returned (.bool true) ∧ Below w.heap.size w w' := by
  have ha := u8_of w0
  have hB := isB_of b1
  have hle := s1.le
  obtain ⟨m1, t1, g1, k1, hm1⟩ := s1.most 100
  have T1 := Lib.hid t1
  have HB : Hid (IsB (a0 :: l1.take 100)) := by
    intro x hx
    rcases List.mem_cons.1 hx with rfl | hx
    · exact ha
    · exact hB.take 100 x hx
  obtain ⟨i0, hi, hz0, hz1, hz2⟩ := info_parts u8_info
  obtain ⟨c, s, e, hd⟩ : ∃ c s e, dec (a0 :: l1.take 100) = (c, s, e) := ⟨_, _, _, rfl⟩
  have hda : decAt (a0 :: l1.take 100) 0 = (c, s, e) := by rw [decAt0 (by simp)]; exact hd
  have HD := Lib.hid hda
  have hfacts : (a0 < 128 ∧ e = 0 ∧ c = a0 ∧ s = 1) ∨ (128 ≤ a0 ∧ (a0 < 194 ∨ 244 < a0) ∧ e = 10) ∨ (194 ≤ a0 ∧ a0 ≤ 244 ∧ (e ≠ 0 ∨ (e = 0 ∧ 1 < s))) := by
    by_cases y1 : a0 < 128
    · left
      simp only [dec] at hd
      rw [if_pos y1] at hd
      simp only [Prod.mk.injEq] at hd
      exact ⟨y1, hd.2.2.symm, hd.1.symm, hd.2.1.symm⟩
    · by_cases y2 : a0 < 194
      · right; left
        simp only [dec] at hd
        rw [if_neg y1, if_pos y2] at hd
        simp only [Prod.mk.injEq] at hd
        exact ⟨by omega, .inl y2, hd.2.2.symm⟩
      · by_cases y3 : 244 < a0
        · right; left
          simp only [dec] at hd
          rw [if_neg y1, if_neg y2, if_neg (by omega), if_neg (by omega), if_neg (by omega)] at hd
          simp only [Prod.mk.injEq] at hd
          exact ⟨by omega, .inr y3, hd.2.2.symm⟩
        · right; right
          have := dec_high HB.out (by omega)
          rw [hd] at this
          simp only at this
          by_cases e0 : e = 0
          · exact ⟨by omega, by omega, .inr ⟨e0, by omega⟩⟩
          · exact ⟨by omega, by omega, .inl e0⟩
  have L1 := List.length_take_le 100 l1
  clear t1 s1 b1 hB hda hd z1 w0
  rcases hm1 with ⟨p1, rfl⟩ | ⟨p1, rfl⟩
  all_goals
    go_enter Try.func12, Try.ntmps12
    go_wp2_with fail
    refine (works_true w).mono ?_
    rintro e w1 ⟨rfl, hb1⟩
    have ON : Hid (Own .u8 5 (w1.alloc (.cells #[.int .u8 a0] 5)) w1.heap.size (.slice (some ⟨w1.heap.size, 0, none⟩) 1 1) [a0]) := Own.new w1 [a0] 5 .u8 (by unfold maxLen; simp) (B := w1.heap.size) (Nat.le_refl _)
    have T2 := Lib.hid ((T1.out.below hb1).alloc (.cells #[.int .u8 a0] 5))
    go_wp2_with (at_builtin; refine wp_app rfl _ _ _ rfl _ Try.underlying22 hi hz0 hz1 hz2 rfl rfl ON.out rfl T2.out (by simp only [List.length_cons, List.length_nil]; omega) (by unfold maxLen; simp only [List.length_cons, List.length_nil]; omega) (by simp) ?_; intro v2 w2 ho2 hb2 _)
    obtain ⟨A2, c2, hv2, t2, _⟩ := ho2.sl
    rw [hv2]
    clear hv2
    have T3 := Lib.hid t2
    have HB2 := Lib.hid (ext_trans hb1 ((below_alloc w1 _).trans hb2))
    clear t2 ho2 hb2 hb1 ON T2
    refine (decode_at _ _ _ _ _ _ T3.out HB.out HD.out).mono ?_
    rintro e w3 ⟨rfl, rfl⟩
    rcases hfacts with ⟨y1, rfl, rfl, rfl⟩ | ⟨y1, y2, rfl⟩ | ⟨y1, y2, y3⟩
    · go_wp2
      go_ret
      exact ⟨rfl, HB2.out⟩
    · have d1 : ¬ a0 < 128 := by omega
      rcases y2 with y2 | y2
      · have d2 : decide (a0 < 194) = true := by simpa using y2
        go_wp2
        go_ret
        exact ⟨rfl, HB2.out⟩
      · have d2 : decide (a0 < 194) = false := by simp; omega
        have d3 : decide (244 < a0) = true := by simpa using y2
        go_wp2
        go_ret
        exact ⟨rfl, HB2.out⟩
    · have d1 : ¬ a0 < 128 := by omega
      have d2 : decide (a0 < 194) = false := by simp; omega
      have d3 : decide (244 < a0) = false := by simp; omega
      rcases y3 with y3 | ⟨rfl, y3⟩
      · have d4 : (e != 0) = true := by simpa using y3
        go_wp2
        go_ret
        exact ⟨rfl, HB2.out⟩
      · have d4 : decide (1 < s) = true := by simpa using y3
        go_wp2
        go_ret
        exact ⟨rfl, HB2.out⟩
end Go.Proofs.Ytjicaoljecpapaa
