/-
  What the document's answer Text of layer 2 computes.
-/
import Derived.Test.YtogljfblcbegbaaUs
namespace Go.Proofs.Ytogljfblcbegbaa
set_option linter.unusedVariables false
open Go.RowKit
namespace Uw
open Utf Wd Wr We Wi Wf

/-- which way the tests of a pair go -/
theorem pair_ways {w : World} {bk off : Nat} {l : List Int} {i n : Nat} (hrow : Row .u16 w (some ⟨bk, off, none⟩) n l) (hl : l.length = n) (h16 : Is16 l) {a : Int} (ha : l[i]? = some a) (hi : i < n) :
    (decide (a ≥ 55296) = false ∧ jo (l.drop i) = a) ∨
    (decide (a ≥ 55296) = true ∧ decide (a < 56320) = false ∧ jo (l.drop i) = a) ∨
    (decide (a ≥ 55296) = true ∧ decide (a < 56320) = true ∧ decide ((i : Int) + 1 < (n : Int)) = false ∧ jo (l.drop i) = a) ∨
    (∃ b, w.cell? ⟨bk, off + (i + 1), none⟩ = some (.int .u16 b) ∧ 0 ≤ b ∧ b ≤ 65535 ∧ decide (a ≥ 55296) = true ∧ decide (a < 56320) = true ∧ decide ((i : Int) + 1 < (n : Int)) = true ∧
      ((decide (b ≥ 56320) = false ∧ jo (l.drop i) = a) ∨ (decide (b ≥ 56320) = true ∧ decide (b < 57344) = false ∧ jo (l.drop i) = a) ∨
       (decide (b ≥ 56320) = true ∧ decide (b < 57344) = true ∧ jo (l.drop i) = 65536 + (a - 55296) * 1024 + b - 56320))) := by
  have hd : l.drop i = a :: l.drop (i + 1) := by
    rw [List.drop_eq_getElem_cons (by rw [hl]; exact hi)]
    rw [List.getElem?_eq_getElem (by rw [hl]; exact hi)] at ha
    injection ha with ha; rw [ha]
  by_cases h1 : a ≥ 55296
  · by_cases h2 : a < 56320
    · by_cases h3 : i + 1 < n
      · have hb : l[i + 1]? = some l[i + 1] := List.getElem?_eq_getElem (by rw [hl]; exact h3)
        have hd2 : l.drop (i + 1) = l[i + 1] :: l.drop (i + 2) := List.drop_eq_getElem_cons (by rw [hl]; exact h3)
        have hb16 := h16 _ (List.mem_of_getElem? hb)
        obtain ⟨b', off', y, e, hy, hcb, _⟩ := hrow.look h3
        injection e with e; injection e with e1 e2; subst e1 e2
        rw [hb] at hy; injection hy with hy; subst hy
        refine .inr (.inr (.inr ⟨l[i + 1], hcb, hb16.1, hb16.2, by simpa using h1, by simpa using h2, by simp; omega, ?_⟩))
        rw [hd, hd2]
        clear hcb hb hd2
        generalize l[i + 1] = b at *
        by_cases h4 : b ≥ 56320
        · by_cases h5 : b < 57344
          · refine .inr (.inr ⟨by simpa using h4, by simpa using h5, ?_⟩)
            rw [jo_pair (by simp only [pairB, decide_eq_true_iff]; omega)]; omega
          · exact .inr (.inl ⟨by simpa using h4, by simpa using h5, jo_one (by simp only [pairB, decide_eq_false_iff_not]; omega)⟩)
        · exact .inl ⟨by simpa using h4, jo_one (by simp only [pairB, decide_eq_false_iff_not]; omega)⟩
      · refine .inr (.inr (.inl ⟨by simpa using h1, by simpa using h2, by simp; omega, ?_⟩))
        rw [hd, List.drop_eq_nil_of_le (by omega)]; rfl
    · refine .inr (.inl ⟨by simpa using h1, by simpa using h2, ?_⟩)
      rw [hd]
      cases l.drop (i + 1) with
      | nil => rfl
      | cons b r => exact jo_one (by simp only [pairB, decide_eq_false_iff_not]; omega)
  · refine .inl ⟨by simpa using h1, ?_⟩
    rw [hd]
    cases l.drop (i + 1) with
    | nil => rfl
    | cons b r => exact jo_one (by simp only [pairB, decide_eq_false_iff_not]; omega)

set_option maxHeartbeats 3200000 in
theorem rtext_any (A : Option Addr) (n cp : Nat) (l : List Int) (w : World) (s : Sl .u16 w A n cp l) (h16 : Is16 l) (hn : n ≤ 70368744175616) :
    Calls Try.prog 25 #[.slice A n cp] w (TextTo w l) := by
  obtain ⟨i0, hi, hz0, hz1, hz2⟩ := info_parts u8_info
  have hlen := s.len
  have S := Lib.hid s
  have H16 := Lib.hid h16
  have HL := Lib.hid hlen
  clear s h16 hlen
  go_enter Try.func25, Try.ntmps25
  go_wp2_with fail
  go_loopw [4, 5] (fun v at_ wr => ∃ (pre : List Int) (i : Nat), i ≤ n ∧ ch l = pre ++ ch (l.drop i) ∧ Chars pre ∧ at_ = .int .i64 i ∧ Own .u8 5 wr w.heap.size v (encs pre) ∧ (encs pre).length ≤ 3 * i ∧ Below w.heap.size w wr) (fun _ at_ _ => n - (intOf at_).toNat)
  case atStart => exact ⟨[], 0, Nat.zero_le _, rfl, Chars.nil, rfl, Own.nil, Nat.zero_le _, Below.refl _ _⟩
  case round =>
    obtain ⟨pre, i, hin, hch, hpre, rfl, ho, hl3, hb⟩ := hrel
    have hsz := hb.size
    have HCH := Lib.hid hch
    have HP := Lib.hid hpre
    have HO := Lib.hid ho
    have HB := Lib.hid hb
    clear hch hpre ho hb
    by_cases hlt : i < n
    · have T := Lib.hid (S.out.below HB.out).row
      obtain ⟨b, off, a, rfl, ha, hca, _⟩ := T.out.look hlt
      have ha16 := H16.out a (List.mem_of_getElem? ha)
      have hne : l.drop i ≠ [] := by intro e; have := congrArg List.length e; rw [List.length_drop, HL.out] at this; simp at this; omega
      obtain ⟨hs1, hs2, _⟩ := ch_step (H16.out.drop i) hne
      rw [List.drop_drop] at hs1
      rw [List.length_drop, HL.out] at hs2
      have HS := Lib.hid hs1
      have hu := us_len (jo (l.drop i))
      have i1 : (i : Int) < (n : Int) := by omega
      have HW := Lib.hid (pair_ways T.out HL.out H16.out ha hlt)
      clear hne hs1 ha
      have hw := HW.out
      clear HW
      rcases hw with ⟨d1, hj⟩ | ⟨d1, d2, hj⟩ | ⟨d1, d2, d3, hj⟩ | ⟨b2, hcb, b3, b4, d1, d2, d3, ⟨d4, hj⟩ | ⟨d4, d5, hj⟩ | ⟨d4, d5, hj⟩⟩
      all_goals try (have i2 := of_decide_eq_true d3)
      all_goals rw [hj] at HS hu hs2
      all_goals clear hj
      rotate_right
      · have hy2 : (us (65536 + (a - 55296) * 1024 + b2 - 56320)).length = 2 := by simp at d1 d2 d4 d5; omega
        have a1 : 55296 ≤ a := by simpa using d1
        have a2 : a < 56320 := by simpa using d2
        have a3 : 56320 ≤ b2 := by simpa using d4
        have a4 : b2 < 57344 := by simpa using d5
        rw [hy2] at HS hs2 hu
        generalize hC : 65536 + (a - 55296) * 1024 + b2 - 56320 = C at *
        have HC := Lib.hid hC
        by_cases hf : Utf.form C = 0
        · have HF := Lib.hid hf
          clear hf
          go_wp2_with fail
          refine (rencode_no C HF.out _).mono ?_
          rintro e w2 ⟨rfl, rfl⟩
          go_wp2
          go_ret2
          exact ⟨HB.out, .inr ⟨by rw [HCH.out, HS.out]; exact okB_false HF.out, rfl⟩⟩
        · have HF := Lib.hid hf
          have hue := us_enc hf
          rw [hy2] at hue
          have X := Lib.hid (encs_snoc pre C)
          clear hf
          go_wp2_with fail
          refine (rencode_ok C HF.out _).mono ?_
          rintro e w2 ⟨rfl, rfl⟩
          have HO2 := Lib.hid (World.ownsRow.alloc HO.out (.cells (bs (enc C)) 5))
          have TE := Lib.hid (Sl.new wr (enc C) 5 .u8 (by unfold maxLen; omega))
          have hsz2 : w.heap.size ≤ (wr.alloc (.cells (bs (enc C)) 5)).heap.size := by simp; omega
          go_wp2_with (at_builtin; refine wp_wide rfl _ _ _ rfl w.heap.size Try.underlying22 hi hz0 hz1 hz2 rfl rfl HO2.out rfl TE.out (by omega) (by unfold maxLen; omega) hsz2 ?_; intro v3 w3 ho3 hb3)
          have HO3 := Lib.hid ho3
          have HB3 := Lib.hid ((HB.out.alloc hsz _).trans hb3)
          clear ho3 hb3
          go_wp2
          go_roundw
          case rel => exact ⟨pre ++ [C], i + 2, by omega, by rw [HCH.out, HS.out]; simp, HP.out.snoc HF.out, by go_num, by rw [X.out]; exact HO3.out, by rw [X.out, List.length_append]; omega, HB3.out⟩
          case measure => simp [intOf]; omega
      all_goals
        have hy1 : (us a).length = 1 := by omega
        rw [hy1] at HS hs2
        by_cases hf : Utf.form a = 0
        · have HF := Lib.hid hf
          clear hf
          go_wp2_with fail
          refine (rencode_no a HF.out _).mono ?_
          rintro e w2 ⟨rfl, rfl⟩
          go_wp2
          go_ret2
          exact ⟨HB.out, .inr ⟨by rw [HCH.out, HS.out]; exact okB_false HF.out, rfl⟩⟩
        · have HF := Lib.hid hf
          have hue := us_enc hf
          have X := Lib.hid (encs_snoc pre a)
          clear hf
          go_wp2_with fail
          refine (rencode_ok a HF.out _).mono ?_
          rintro e w2 ⟨rfl, rfl⟩
          have HO2 := Lib.hid (World.ownsRow.alloc HO.out (.cells (bs (enc a)) 5))
          have TE := Lib.hid (Sl.new wr (enc a) 5 .u8 (by unfold maxLen; omega))
          have hsz2 : w.heap.size ≤ (wr.alloc (.cells (bs (enc a)) 5)).heap.size := by simp; omega
          go_wp2_with (at_builtin; refine wp_wide rfl _ _ _ rfl w.heap.size Try.underlying22 hi hz0 hz1 hz2 rfl rfl HO2.out rfl TE.out (by omega) (by unfold maxLen; omega) hsz2 ?_; intro v3 w3 ho3 hb3)
          have HO3 := Lib.hid ho3
          have HB3 := Lib.hid ((HB.out.alloc hsz _).trans hb3)
          clear ho3 hb3
          go_wp2
          go_roundw
          case rel => exact ⟨pre ++ [a], i + 1, by omega, by rw [HCH.out, HS.out]; simp, HP.out.snoc HF.out, by go_num, by rw [X.out]; exact HO3.out, by rw [X.out, List.length_append]; omega, HB3.out⟩
          case measure => simp [intOf]; omega
    · obtain rfl : i = n := by omega
      have hz : l.drop i = [] := List.drop_eq_nil_of_le (by rw [HL.out]; exact Nat.le_refl _)
      go_wp2
      go_ret2
      have hch := HCH.out
      rw [hz, show ch [] = [] from rfl, List.append_nil] at hch
      refine ⟨HB.out, .inl ⟨by rw [hch]; exact okB_true.2 HP.out, _, rfl, ?_⟩⟩
      rw [hch]; exact HO.out
end Uw
end Go.Proofs.Ytogljfblcbegbaa
