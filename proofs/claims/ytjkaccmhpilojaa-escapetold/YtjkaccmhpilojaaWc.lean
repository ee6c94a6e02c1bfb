/-
  What walk and Check of package runes compute.
-/
import Derived.Test.YtjkaccmhpilojaaWx
import Derived.Test.YtjkaccmhpilojaaUtt
namespace Go.Proofs.Ytjkaccmhpilojaa
set_option linter.unusedVariables false
open Go.RowKit
namespace Wr
open Utf Wd Wr We Wi

theorem chk_here {l : List Int} {i : Nat} (hb : IsB l) (hi : i < l.length) :
    (∃ c, Utf.form c ≠ 0 ∧ decAt l (i : Int) = (c, ((enc c).length : Int), 0) ∧ i + (enc c).length ≤ l.length ∧
      chk (l.drop i) = ((enc c).length + (chk (l.drop (i + (enc c).length))).1, 1 + (chk (l.drop (i + (enc c).length))).2.1, (chk (l.drop (i + (enc c).length))).2.2)) ∨
    (∃ e : Int, e ≠ 0 ∧ decAt l (i : Int) = (0, 0, e) ∧ chk (l.drop i) = (0, 0, e)) := by
  have hne : l.drop i ≠ [] := by intro e; have := congrArg List.length e; rw [List.length_drop] at this; simp at this; omega
  by_cases h : (dec (l.drop i)).2.2 = 0
  · obtain ⟨c, t, hc, hl, e⟩ := dec_good (hb.drop i) h
    have ht : t = l.drop (i + (enc c).length) := by
      rw [← List.drop_drop, hl, List.drop_left]
    have hlen := congrArg List.length hl
    rw [List.length_drop, List.length_append] at hlen
    refine .inl ⟨c, hc, by rw [decAt_in hi, e, enc_length], by omega, ?_⟩
    rw [hl, chk_good hc (by rw [ht]; exact hb.drop _), ← ht]
  · exact .inr ⟨_, h, by rw [decAt_in hi]; exact dec_bad (hb.drop i) h, chk_bad hne h⟩

set_option maxHeartbeats 800000 in
theorem walk_any (A : Option Addr) (n cp : Nat) (l : List Int) (w : World) (s : Sl .u8 w A n cp l) (hb : IsB l) :
    Calls Try.prog 37 #[.slice A n cp] w fun e w' => e = .returned (.tuple #[.int .i64 (chk l).1, .int .i64 (chk l).2.1, .int .i64 (chk l).2.2]) ∧ w = w' := by
  have hmax : n ≤ 9223372036854775807 := by have := s.max; have := s.le; unfold maxLen at *; omega
  have hlen := s.len
  have S := Lib.hid s
  have HB := Lib.hid hb
  have HL := Lib.hid hlen
  clear s hb hlen
  go_enter Try.func37, Try.ntmps37
  go_wp2
  go_loop [2, 3] (fun at_ many => ∃ i m : Nat, m ≤ i ∧ i ≤ n ∧ at_ = .int .i64 i ∧ many = .int .i64 m ∧ chk l = (i + (chk (l.drop i)).1, m + (chk (l.drop i)).2.1, (chk (l.drop i)).2.2)) (fun at_ _ => n - (intOf at_).toNat)
  case atStart => exact ⟨0, 0, Nat.le_refl _, Nat.zero_le _, rfl, rfl, by simp⟩
  case round =>
    obtain ⟨i, m, h1, h2, rfl, rfl, hc⟩ := hrel
    have HC := Lib.hid hc
    clear hc
    by_cases hi : i < n
    · rcases chk_here HB.out (i := i) (by rw [HL.out]; exact hi) with ⟨c, hf, hd, hle, hk⟩ | ⟨e, he, hd, hk⟩
      · rw [HL.out] at hle
        have hp : 0 < (enc c).length := List.length_pos_iff.2 (enc_ne hf)
        have HD := Lib.hid hd
        have HK := Lib.hid hk
        clear hd hk hf
        generalize (enc c).length = z at *
        go_wp2_with fail
        refine (decode_at _ _ _ _ l _ S.out HB.out HD.out).mono ?_
        rintro e w' ⟨rfl, rfl⟩
        go_wp2
        go_round
        case rel => exact ⟨i + z, m + 1, by omega, by omega, by go_num, by go_num, by rw [HC.out, HK.out]; simp only [Prod.mk.injEq, and_true]; omega⟩
        case measure => simp [intOf]; omega
      · have he' : (e != 0) = true := by simpa using he
        have HD := Lib.hid hd
        have HK := Lib.hid hk
        clear hd hk he
        go_wp2_with fail
        refine (decode_at _ _ _ _ l _ S.out HB.out HD.out).mono ?_
        rintro e w' ⟨rfl, rfl⟩
        go_wp2
        go_ret3
        exact ⟨by rw [HC.out, HK.out]; rfl, rfl⟩
    · obtain rfl : i = n := by omega
      go_wp2
      go_ret3
      have hz : l.drop i = [] := List.drop_eq_nil_of_le (by rw [HL.out]; exact Nat.le_refl _)
      exact ⟨by rw [HC.out, hz, chk_nil]; rfl, rfl⟩

theorem walk_at (A : Option Addr) (n cp : Nat) (l : List Int) (w : World) (s : Sl .u8 w A n cp l) (hb : IsB l) {i m : Nat} {e : Int} (h : chk l = (i, m, e)) :
    Calls Try.prog 37 #[.slice A n cp] w fun r w' => r = .returned (.tuple #[.int .i64 i, .int .i64 m, .int .i64 e]) ∧ w = w' := by
  have := walk_any A n cp l w s hb
  rw [h] at this
  exact this

set_option maxHeartbeats 800000 in
theorem check_at (A : Option Addr) (n cp : Nat) (l : List Int) (w : World) (s : Sl .u8 w A n cp l) (hb : IsB l) {i m : Nat} {e : Int} (h : chk l = (i, m, e)) :
    Calls Try.prog 24 #[.slice A n cp] w fun r w' => r = .returned (.tuple #[.int .i64 i, .int .i64 e]) ∧ w = w' := by
  have S := Lib.hid s
  have H := Lib.hid h
  clear s h
  go_enter Try.func24, Try.ntmps24
  go_wp2_with fail
  refine (walk_at _ _ _ l _ S.out hb H.out).mono ?_
  rintro r w' ⟨rfl, rfl⟩
  go_wp2
  go_ret2
  exact ⟨rfl, rfl⟩

end Wr
end Go.Proofs.Ytjkaccmhpilojaa
