/-
  The walk of RunesTexts.
-/
import Derived.Test.YtjicaoljecpapaaWc
import Derived.Test.YtjicaoljecpapaaWp
namespace Go.Proofs.Ytjicaoljecpapaa
set_option linter.unusedVariables false
open Go.RowKit Go.ChangeShapes Go.WideShapes
open Utf Wd Wr We Wi

/-- what the bytes so far are: a text of so many characters -/
structure TextOf (l : List Int) (m : Nat) : Prop where
  byte : IsB l
  text : chk l = (l.length, m, 0)
theorem TextOf.nil : TextOf [] 0 := ⟨(fun x hx => by cases hx), rfl⟩
theorem TextOf.snoc {l : List Int} {m : Nat} (h : TextOf l m) {c : Int} (hc : Utf.form c ≠ 0) : TextOf (l ++ enc c) (m + 1) := by
  have hone : chk (enc c) = ((enc c).length, 1, 0) := by
    have := chk_good hc (r := []) (by simp)
    rw [List.append_nil, chk_nil] at this
    exact this
  refine ⟨h.byte.append (enc_byte c), ?_⟩
  rw [chk_append l.length l (enc c) h.byte (enc_byte c) (Nat.le_refl _) (by rw [h.text]), hone, h.text, List.length_append]

set_option maxRecDepth 100000 in
set_option maxHeartbeats 1600000 in
theorem walk_RunesTexts (A0 : Option Addr) (n0 c0 : Nat) (l0 : List Int) (w : World) (s0 : Sl .i64 w A0 n0 c0 l0) (b0 : ∀ x ∈ l0, (Lit.int .i64 x).wf = true) (z0 : c0 * 8 ≤ 140737488351232) :
    Calls Try.prog 9 #[.slice A0 n0 c0] w fun e w' => e = .returned (.bool true) ∧ Below w.heap.size w w' := by
  have hmax : n0 ≤ 9223372036854775807 := by have := s0.max; have := s0.le; unfold maxLen at *; omega
  have S := Lib.hid s0
  clear s0 b0 z0
  obtain ⟨i0, hi, hz0, hz1, hz2⟩ := info_parts u8_info
  go_enter Try.func9, Try.ntmps9
  go_wp2_with fail
  refine (works_true w).mono ?_
  rintro e w1 ⟨rfl, hb1⟩
  go_wp2_with fail
  go_loopw [3, 4, 5] (fun v many ix wr => ∃ (k m : Nat) (l : List Int), k ≤ n0 ∧ k ≤ 1000 ∧ m ≤ k ∧ l.length ≤ 4 * k ∧ ix = .int .i64 k ∧ many = .int .i64 m ∧ Own .u8 5 wr w.heap.size v l ∧ TextOf l m ∧ Below w.heap.size w wr) (fun _ _ ix _ => n0 - (intOf ix).toNat)
  case atStart => exact ⟨0, 0, [], Nat.zero_le _, Nat.zero_le _, Nat.le_refl _, Nat.le_refl _, rfl, rfl, Own.nil, TextOf.nil, hb1⟩
  case round =>
    obtain ⟨k, m, l, h1, h2, h3, h4, rfl, rfl, ho, ht, hb⟩ := hrel
    have HO := Lib.hid ho
    have HT := Lib.hid ht
    have HB := Lib.hid hb
    have hsz := hb.size
    clear ho ht hb
    by_cases hk : k < n0 ∧ k < 1000
    · obtain ⟨hk1, hk2⟩ := hk
      have q1 : decide (k < n0) = true := by simpa using hk1
      have q2 : decide ((k : Int) < 1000) = true := by simp; omega
      obtain ⟨b, off, x, rfl, _, hcx, _⟩ := (S.out.below HB.out).row.look hk1
      by_cases hf : Utf.form x = 0
      · have HF := Lib.hid hf
        clear hf
        go_wp2_with fail
        refine (encode_no x HF.out _).mono ?_
        rintro e w2 ⟨rfl, rfl⟩
        go_wp2
        go_roundw
        case rel => exact ⟨k + 1, m, l, by omega, by omega, by omega, by omega, by go_num, rfl, HO.out, HT.out, HB.out⟩
        case measure => simp [intOf]; omega
      · have HF := Lib.hid hf
        have e4 : (enc x).length ≤ 4 := by have := enc_length x; have := form_cases x; omega
        clear hf
        go_wp2_with fail
        refine (encode_ok x HF.out _).mono ?_
        rintro e w2 ⟨rfl, rfl⟩
        have HO2 := Lib.hid (World.ownsRow.alloc HO.out (.cells (bs (enc x)) 5))
        have TE := Lib.hid (Sl.new wr (enc x) 5 .u8 (by unfold maxLen; omega))
        go_wp2_with (at_builtin; refine wp_app rfl _ _ _ rfl w.heap.size Try.underlying22 hi hz0 hz1 hz2 rfl rfl HO2.out rfl TE.out (by omega) (by unfold maxLen; omega) (by simp; omega) ?_; intro v3 w3 ho3 hb3 _)
        have HO3 := Lib.hid ho3
        have HB3 := Lib.hid ((HB.out.alloc hsz _).trans hb3)
        clear ho3 hb3
        go_wp2
        go_roundw
        case rel => exact ⟨k + 1, m + 1, l ++ enc x, by omega, by omega, by omega, by rw [List.length_append]; omega, by go_num, by go_num, HO3.out, HT.out.snoc HF.out, HB3.out⟩
        case measure => simp [intOf]; omega
    · have hex : decide (k < n0) = false ∨ (decide (k < n0) = true ∧ decide ((k : Int) < 1000) = false) := by
        by_cases g : k < n0
        · right; exact ⟨by simpa using g, by simp; omega⟩
        · left; simpa using g
      clear hk
      obtain ⟨A, c, hv, t, _⟩ := HO.out.sl
      rw [hv]
      have T := Lib.hid t
      clear hv t
      have q3 : ((m : Int) == (m : Int)) = true := by simp
      have q4 : ((l.length : Int) == (l.length : Int)) = true := by simp
      rcases hex with q1 | ⟨q1, q2⟩
      all_goals
        go_wp2_with fail
        refine (check_at _ _ _ l _ T.out HT.out.byte HT.out.text).mono ?_
        rintro e w2 ⟨rfl, rfl⟩
        go_wp2_with fail
        refine (count_at _ _ _ l _ T.out HT.out.byte HT.out.text).mono ?_
        rintro e w2 ⟨rfl, rfl⟩
        rw [show cnt m 0 = (m : Int) from rfl]
        go_wp2
        go_ret
        exact ⟨rfl, HB.out⟩
end Go.Proofs.Ytjicaoljecpapaa
