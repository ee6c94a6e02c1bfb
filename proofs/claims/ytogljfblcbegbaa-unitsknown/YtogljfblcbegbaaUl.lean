/-
  What Same of colophonref02 and the helpers chapter, works, text of colophonlaw02 compute.
-/
import Derived.Test.YtogljfblcbegbaaUz
namespace Go.Proofs.Ytogljfblcbegbaa
set_option linter.unusedVariables false
open Go.RowKit
namespace Uw
open Utf Wd Wr We Wi

set_option maxHeartbeats 800000 in
theorem same_any (A B : Option Addr) (n m ca cb : Nat) (l r : List Int) (w : World) (ha : Row .u16 w A n l) (hb : Row .u16 w B m r) (hn : n ≤ maxLen) :
    Calls Try.prog 19 #[.slice A n ca, .slice B m cb] w fun e w' => e = .returned (.bool (decide (l = r))) ∧ ∃ q, w' = w.drewN q := by
  have hn' : n ≤ 9223372036854775807 := by unfold maxLen at hn; omega
  have hla := ha.1
  have hlb := hb.1
  have HA := Lib.hid ha
  have HB := Lib.hid hb
  have HLA := Lib.hid hla
  have HLB := Lib.hid hlb
  clear ha hb hla hlb hn
  by_cases hnm : n = m
  · subst hnm
    have d : ((n : Int) != (n : Int)) = false := by simp
    go_enter Try.func19, Try.ntmps19
    go_wp2
    go_loopw [5] (fun ix wr => ∃ k q : Nat, k ≤ n ∧ ix = .int .i64 k ∧ wr = w.drewN q ∧ l.take k = r.take k) (fun ix _ => n - (intOf ix).toNat)
    case atStart => exact ⟨0, 0, Nat.zero_le _, rfl, rfl, rfl⟩
    case round =>
      obtain ⟨k, q, hk, rfl, rfl, htk⟩ := hrel
      have HT := Lib.hid htk
      clear htk
      by_cases hkn : k < n
      · obtain ⟨b1, o1, x, rfl, hx, hcx, _⟩ := HA.out.look hkn
        obtain ⟨b2, o2, y, rfl, hy, hcy, _⟩ := HB.out.look hkn
        have HX := Lib.hid hx
        have HY := Lib.hid hy
        clear hx hy
        have i1 : (k : Int) < (n : Int) := by omega
        by_cases hxy : x = y
        · subst hxy
          have d2 : (x != x) = false := by simp
          go_wp2
          go_quiet (fail)
          go_wp2
          go_roundw
          case rel => exact ⟨k + 1, _, by omega, by go_num, rfl, take_next HT.out HX.out HY.out⟩
          case measure => simp [intOf]; omega
        · have d2 : (x != y) = true := by simpa using hxy
          have HXY := Lib.hid hxy
          clear hxy
          go_wp2
          go_quiet (fail)
          go_wp2
          go_ret
          refine ⟨ret1 (congrArg Value.bool ?_), _, World.drewN_drewN _ _ _⟩
          symm; rw [decide_eq_false_iff_not]
          intro e
          have h1 := HX.out
          rw [e, HY.out] at h1
          exact HXY.out (by injection h1 with h1; exact h1.symm)
      · obtain rfl : k = n := by omega
        go_wp2
        go_ret
        refine ⟨ret1 (congrArg Value.bool ?_), _, rfl⟩
        symm; rw [decide_eq_true_iff]
        have h1 := HT.out
        rwa [List.take_of_length_le (by rw [HLA.out]; exact Nat.le_refl _), List.take_of_length_le (by rw [HLB.out]; exact Nat.le_refl _)] at h1
  · have d : ((n : Int) != (m : Int)) = true := by simp; omega
    go_enter Try.func19, Try.ntmps19
    go_wp2
    go_ret
    refine ⟨ret1 (congrArg Value.bool ?_), 0, rfl⟩
    symm; rw [decide_eq_false_iff_not]
    rintro rfl
    exact hnm (HLA.out.symm.trans HLB.out)

def chap : List Int := [97, 228, 128512, 98]
theorem chap_ok : Chars chap := okB_true.1 (by decide)
theorem chap_enc : encs chap = [97, 195, 164, 240, 159, 152, 128, 98] := by decide
theorem chap_uns : uns chap = [97, 228, 55357, 56832, 98] := by decide

set_option maxHeartbeats 400000 in
theorem chapter_any (w : World) : Calls Try.prog 30 #[] w fun e w' => ∃ A, e = .returned (.slice A 8 8) ∧ Sl .u8 w' A 8 8 (encs chap) ∧ Below w.heap.size w w' := by
  go_enter Try.func30, Try.ntmps30
  go_wp2
  go_ret
  refine ⟨_, rfl, ?_, below_alloc _ _⟩
  rw [chap_enc]
  exact Sl.new w [97, 195, 164, 240, 159, 152, 128, 98] 5 .u8 (by decide)

set_option maxHeartbeats 1600000 in
theorem works_true (w : World) : Calls Try.prog 21 #[] w fun e w' => e = .returned (.bool true) ∧ Below w.heap.size w w' := by
  have h16 : Is16 (uns chap) := uns_u16 chap_ok
  have hch : ch (uns chap) = chap := ch_uns chap_ok
  have CO := Lib.hid chap_ok
  have H16 := Lib.hid h16
  have HCH := Lib.hid hch
  have e3 : ends chap 3 = (3, 2) := by decide
  have e4 : ends chap 4 = (7, 4) := by decide
  have E3 := Lib.hid e3
  have E4 := Lib.hid e4
  clear h16 hch e3 e4
  go_enter Try.func21, Try.ntmps21
  go_wp2_with fail
  refine (chapter_any _).mono ?_
  rintro e w1 ⟨D1, rfl, s1, b1⟩
  go_wp2_with fail
  refine (of16_txt _ _ _ _ _ CO.out s1 (by rw [chap_uns]; decide)).mono ?_
  rintro e w2 ⟨v2, rfl, o2, b2⟩
  obtain ⟨A2, c2, rfl, t2, _⟩ := o2.sl
  have B2 := Lib.hid (ext_trans b1 b2)
  clear s1 b1 b2 o2
  have hl2 : (uns chap).length = 5 := by rw [chap_uns]; rfl
  rw [hl2] at t2 ⊢
  have T2 := Lib.hid t2
  clear t2 hl2
  go_wp2_with fail
  refine (text_ok _ _ _ _ _ T2.out H16.out (by decide) (by rw [HCH.out]; exact CO.out)).mono ?_
  rintro e w3 ⟨v3, rfl, o3, b3⟩
  rw [HCH.out] at o3
  obtain ⟨A3, c3, rfl, t3, _⟩ := o3.sl
  have hl3 : (encs chap).length = 8 := by rw [chap_enc]; rfl
  rw [hl3] at t3 ⊢
  have T3 := Lib.hid t3
  have B3 := Lib.hid (ext_trans B2.out b3)
  have T2' := Lib.hid (T2.out.below b3)
  clear t3 hl3 b3 o3
  go_wp2_with fail
  refine (chapter_any _).mono ?_
  rintro e w4 ⟨D4, rfl, s4, b4⟩
  go_wp2_with fail
  refine (of_txt _ _ _ _ _ CO.out s4).mono ?_
  rintro e w' ⟨rfl, rfl⟩
  rw [show ((uns chap).length : Int) = 5 from by rw [chap_uns]; rfl]
  have B4 := Lib.hid (ext_trans B3.out b4)
  have T24 := Lib.hid (T2'.out.below b4)
  have T34 := Lib.hid (T3.out.below b4)
  clear s4 b4
  go_wp2_with fail
  refine (chapter_any _).mono ?_
  rintro e w5 ⟨D5, rfl, s5, b5⟩
  go_wp2_with fail
  refine (offset_txt _ _ _ _ _ CO.out s5 3 (by decide)).mono ?_
  rintro e w' ⟨rfl, rfl⟩
  rw [E3.out]
  have B5 := Lib.hid (ext_trans B4.out b5)
  have T25 := Lib.hid (T24.out.below b5)
  have T35 := Lib.hid (T34.out.below b5)
  clear s5 b5
  go_wp2_with fail
  refine (chapter_any _).mono ?_
  rintro e w6 ⟨D6, rfl, s6, b6⟩
  go_wp2_with fail
  refine (offset_txt _ _ _ _ _ CO.out s6 4 (by decide)).mono ?_
  rintro e w' ⟨rfl, rfl⟩
  rw [E4.out]
  have B6 := Lib.hid (ext_trans B5.out b6)
  have T26 := Lib.hid (T25.out.below b6)
  have T36 := Lib.hid (T35.out.below b6)
  clear s6 b6
  go_wp2_with fail
  have N6 := Lib.hid (Sl.new w6 [97, 228, 55357, 56832, 98] 31 .u16 (by decide))
  have T27 := Lib.hid (T26.out.alloc (.cells #[.int .u16 97, .int .u16 228, .int .u16 55357, .int .u16 56832, .int .u16 98] 31))
  have T37 := Lib.hid (T36.out.alloc (.cells #[.int .u16 97, .int .u16 228, .int .u16 55357, .int .u16 56832, .int .u16 98] 31))
  have B7 := Lib.hid (ext_trans B6.out (below_alloc w6 (.cells #[.int .u16 97, .int .u16 228, .int .u16 55357, .int .u16 56832, .int .u16 98] 31)))
  refine (same_any _ _ _ _ _ _ _ _ _ T27.out.row N6.out.row (by decide)).mono ?_
  rintro e w' ⟨rfl, q, rfl⟩
  rw [decide_eq_true chap_uns]
  go_wp2_with fail
  refine (chapter_any _).mono ?_
  rintro e w8 ⟨D8, rfl, s8, b8⟩
  have T38 := Lib.hid ((T37.out.drewN q).below b8)
  have S8 := Lib.hid s8
  clear s8
  go_wp2_with fail
  refine (eq_any _ _ _ _ _ _ (encs chap) (encs chap) _ T38.out.row S8.out.row (by unfold maxLen; omega)).mono ?_
  rintro e w' ⟨rfl, q', rfl⟩
  rw [show decide (encs chap = encs chap) = true from decide_eq_true rfl]
  have B8 := Lib.hid (below_drewN (ext_trans (below_drewN B7.out q) b8) q')
  go_wp2
  go_ret
  exact ⟨rfl, B8.out⟩

set_option maxHeartbeats 1600000 in
theorem ltext_any (A : Option Addr) (n c : Nat) (l : List Int) (w : World) (s : Sl .i64 w A n c l) :
    Calls Try.prog 26 #[.slice A n c] w fun e w' => ∃ v cs, e = .returned v ∧ Chars cs ∧ cs.length ≤ 300 ∧ Own .u8 5 w' w.heap.size v (encs cs) ∧ Below w.heap.size w w' := by
  have hmax : n ≤ 9223372036854775807 := by have := s.max; have := s.le; unfold maxLen at *; omega
  obtain ⟨i0, hi, hz0, hz1, hz2⟩ := info_parts u8_info
  have S := Lib.hid s
  clear s
  go_enter Try.func26, Try.ntmps26
  go_wp2_with fail
  go_loopw [3, 4] (fun v ix wr => ∃ (k : Nat) (cs : List Int), k ≤ n ∧ k ≤ 300 ∧ cs.length ≤ k ∧ ix = .int .i64 k ∧ Chars cs ∧ Own .u8 5 wr w.heap.size v (encs cs) ∧ Below w.heap.size w wr) (fun _ ix _ => n - (intOf ix).toNat)
  case atStart => exact ⟨0, [], Nat.zero_le _, Nat.zero_le _, Nat.le_refl _, rfl, Chars.nil, Own.nil, Below.refl _ _⟩
  case round =>
    obtain ⟨k, cs, h1, h2, h3, rfl, hc, ho, hb⟩ := hrel
    have h4 := (uns_len hc).2.2
    have HO := Lib.hid ho
    have HC := Lib.hid hc
    have HB := Lib.hid hb
    have hsz := hb.size
    clear ho hc hb
    by_cases hk : k < n ∧ k < 300
    · obtain ⟨hk1, hk2⟩ := hk
      have q1 : decide (k < n) = true := by simpa using hk1
      have q2 : decide ((k : Int) < 300) = true := by simp; omega
      obtain ⟨b, off, x, rfl, _, hcx, _⟩ := (S.out.below HB.out).row.look hk1
      by_cases hf : Utf.form x = 0
      · have HF := Lib.hid hf
        clear hf
        go_wp2_with fail
        refine (encode_no x HF.out _).mono ?_
        rintro e w2 ⟨rfl, rfl⟩
        go_wp2
        go_roundw
        case rel => exact ⟨k + 1, cs, by omega, by omega, by omega, by go_num, HC.out, HO.out, HB.out⟩
        case measure => simp [intOf]; omega
      · have HF := Lib.hid hf
        have e4 : (enc x).length ≤ 4 := (us_enc hf).2.2
        have X := Lib.hid (encs_snoc cs x)
        clear hf
        go_wp2_with fail
        refine (encode_ok x HF.out _).mono ?_
        rintro e w2 ⟨rfl, rfl⟩
        have HO2 := Lib.hid (World.ownsRow.alloc HO.out (.cells (bs (enc x)) 5))
        have TE := Lib.hid (Sl.new wr (enc x) 5 .u8 (by unfold maxLen; omega))
        go_wp2_with (at_builtin; refine wp_app rfl _ _ _ rfl w.heap.size Try.underlying22 hi hz0 hz1 hz2 rfl rfl HO2.out rfl TE.out (by omega) (by unfold maxLen; omega) (by simp; omega) ?_; intro v3 w3 ho3 hb3 _)
        have HO3 := Lib.hid ho3
        have HB3 := Lib.hid ((HB.out.alloc hsz _).trans hb3)
        clear ho3 hb3
        go_wp2
        go_roundw
        case rel => exact ⟨k + 1, cs ++ [x], by omega, by omega, by rw [List.length_append]; simp; omega, by go_num, HC.out.snoc HF.out, by rw [X.out]; exact HO3.out, HB3.out⟩
        case measure => simp [intOf]; omega
    · have hex : decide (k < n) = false ∨ (decide (k < n) = true ∧ decide ((k : Int) < 300) = false) := by
        by_cases g : k < n
        · right; exact ⟨by simpa using g, by simp; omega⟩
        · left; simpa using g
      clear hk
      rcases hex with q1 | ⟨q1, q2⟩
      all_goals
        go_wp2
        go_ret
        exact ⟨_, cs, rfl, HC.out, by omega, HO.out, HB.out⟩
end Uw
end Go.Proofs.Ytogljfblcbegbaa
