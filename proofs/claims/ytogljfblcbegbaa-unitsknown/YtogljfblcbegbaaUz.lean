/-
  What Text of package units computes.
-/
import Derived.Test.YtogljfblcbegbaaUy
namespace Go.Proofs.Ytogljfblcbegbaa
set_option linter.unusedVariables false
open Go.RowKit
namespace Uw
open Utf Wd Wr We Wi

/-- what Text answers -/
def TextTo (w : World) (l : List Int) (e : Ending) (w' : World) : Prop :=
  Below w.heap.size w w' ∧ ((okB (ch l) = true ∧ ∃ v, e = .returned (.tuple #[v, .int .i64 0]) ∧ Own .u8 5 w' w.heap.size v (encs (ch l))) ∨
    (okB (ch l) = false ∧ e = .returned (.tuple #[.slice none 0 0, .int .i64 10])))

set_option maxHeartbeats 1600000 in
theorem text_any (A : Option Addr) (n cp : Nat) (l : List Int) (w : World) (s : Sl .u16 w A n cp l) (h16 : Is16 l) (hn : n ≤ 70368744175616) :
    Calls Try.prog 24 #[.slice A n cp] w (TextTo w l) := by
  obtain ⟨i0, hi, hz0, hz1, hz2⟩ := info_parts u8_info
  have hmax : cp ≤ 9223372036854775807 := by have := s.max; unfold maxLen at *; omega
  have hle := s.le
  have hlen := s.len
  have S := Lib.hid s
  have H16 := Lib.hid h16
  have HL := Lib.hid hlen
  clear s h16 hlen
  go_enter Try.func24, Try.ntmps24
  go_wp2_with fail
  go_loopw [4, 5] (fun v at_ wr => ∃ (pre : List Int) (i : Nat), i ≤ n ∧ ch l = pre ++ ch (l.drop i) ∧ Chars pre ∧ at_ = .int .i64 i ∧ Own .u8 5 wr w.heap.size v (encs pre) ∧ (encs pre).length ≤ 3 * i ∧ Below w.heap.size w wr) (fun _ at_ _ => n - (intOf at_).toNat)
  case atStart => exact ⟨[], 0, Nat.zero_le _, rfl, Chars.nil, rfl, Own.nil, Nat.zero_le _, Below.refl _ _⟩
  case round =>
    obtain ⟨pre, i, hin, hch, hpre, rfl, ho, hl3, hb⟩ := hrel
    have hsz := hb.size
    have HCH := Lib.hid hch
    have HP := Lib.hid hpre
    have HO := Lib.hid ho
    have HB := Lib.hid hb
    clear hch hpre ho hb
    by_cases hlt : i < n
    · obtain ⟨b, off, x, rfl, _, _, _⟩ := S.out.row.look hlt
      have hne : l.drop i ≠ [] := by intro e; have := congrArg List.length e; rw [List.length_drop, HL.out] at this; simp at this; omega
      obtain ⟨hs1, hs2, _⟩ := ch_step (H16.out.drop i) hne
      rw [List.drop_drop] at hs1
      rw [List.length_drop, HL.out] at hs2
      have T := Lib.hid (by
        have := (S.out.below HB.out).cutS i (n - i) (by omega)
        rwa [List.take_of_length_le (by rw [List.length_drop, HL.out]; exact Nat.le_refl _)] at this : Sl .u16 wr (some ⟨b, off + i, none⟩) (n - i) (cp - i) (l.drop i))
      have D16 := Lib.hid (H16.out.drop i)
      have HS := Lib.hid hs1
      have hcap : ¬ cp = i := by omega
      have hu := us_len (jo (l.drop i))
      clear hne hs1
      go_wp2_with fail
      refine (join_any _ _ _ _ _ _ T.out D16.out (by omega)).mono ?_
      rintro e w1 ⟨rfl, q, rfl⟩
      generalize jo (l.drop i) = c at *
      by_cases hf : Utf.form c = 0
      · have HF := Lib.hid hf
        clear hf
        go_wp2_with fail
        refine (encode_no c HF.out _).mono ?_
        rintro e w2 ⟨rfl, rfl⟩
        go_wp2
        go_ret2
        exact ⟨below_drewN HB.out q, .inr ⟨by rw [HCH.out, HS.out]; exact okB_false HF.out, rfl⟩⟩
      · have HF := Lib.hid hf
        have hue := us_enc hf
        have X := Lib.hid (encs_snoc pre c)
        clear hf
        go_wp2_with fail
        refine (encode_ok c HF.out _).mono ?_
        rintro e w2 ⟨rfl, rfl⟩
        have HO2 := Lib.hid (World.ownsRow.alloc (HO.out : Own .u8 5 (wr.drewN q) w.heap.size _ (encs pre)) (.cells (bs (enc c)) 5))
        have TE := Lib.hid (Sl.new (wr.drewN q) (enc c) 5 .u8 (by unfold maxLen; omega))
        have hsz2 : w.heap.size ≤ ((wr.drewN q).alloc (.cells (bs (enc c)) 5)).heap.size := by simp; omega
        go_wp2_with (at_builtin; refine wp_wide rfl _ _ _ rfl w.heap.size Try.underlying22 hi hz0 hz1 hz2 rfl rfl HO2.out rfl TE.out (by omega) (by unfold maxLen; omega) hsz2 ?_; intro v3 w3 ho3 hb3)
        have HO3 := Lib.hid ho3
        have HB3 := Lib.hid (((below_drewN HB.out q).alloc (by simpa using hsz) _).trans hb3)
        clear ho3 hb3
        go_wp2_with fail
        refine (width_any _ _).mono ?_
        rintro e w2 ⟨rfl, rfl⟩
        generalize hy : (us c).length = y at *
        have Y := Lib.hid hy
        clear hy
        go_wp2
        go_roundw
        case rel => exact ⟨pre ++ [c], i + y, by omega, by rw [HCH.out, HS.out]; simp, HP.out.snoc HF.out, by go_num, by rw [X.out]; exact HO3.out, by rw [X.out, List.length_append]; omega, HB3.out⟩
        case measure => simp [intOf]; omega
    · obtain rfl : i = n := by omega
      have hz : l.drop i = [] := List.drop_eq_nil_of_le (by rw [HL.out]; exact Nat.le_refl _)
      go_wp2
      go_ret2
      have hch := HCH.out
      rw [hz, show ch [] = [] from rfl, List.append_nil] at hch
      refine ⟨HB.out, .inl ⟨by rw [hch]; exact okB_true.2 HP.out, _, rfl, ?_⟩⟩
      rw [hch]; exact HO.out

theorem text_ok (A : Option Addr) (n cp : Nat) (l : List Int) (w : World) (s : Sl .u16 w A n cp l) (h16 : Is16 l) (hn : n ≤ 70368744175616) (h : Chars (ch l)) :
    Calls Try.prog 24 #[.slice A n cp] w fun e w' => ∃ v, e = .returned (.tuple #[v, .int .i64 0]) ∧ Own .u8 5 w' w.heap.size v (encs (ch l)) ∧ Below w.heap.size w w' := by
  refine (text_any A n cp l w s h16 hn).mono ?_
  rintro e w' ⟨hb, ⟨_, v, he, ho⟩ | ⟨hf, _⟩⟩
  · exact ⟨v, he, ho, hb⟩
  · rw [okB_true.2 h] at hf; cases hf
theorem text_no (A : Option Addr) (n cp : Nat) (l : List Int) (w : World) (s : Sl .u16 w A n cp l) (h16 : Is16 l) (hn : n ≤ 70368744175616) (h : okB (ch l) = false) :
    Calls Try.prog 24 #[.slice A n cp] w fun e w' => e = .returned (.tuple #[.slice none 0 0, .int .i64 10]) ∧ Below w.heap.size w w' := by
  refine (text_any A n cp l w s h16 hn).mono ?_
  rintro e w' ⟨hb, ⟨hf, _⟩ | ⟨_, he⟩⟩
  · rw [h] at hf; cases hf
  · exact ⟨he, hb⟩
end Uw
end Go.Proofs.Ytogljfblcbegbaa
