/-
  What width, upper, lower, walk of package units compute.
-/
import Derived.Test.YtfpgnnjkojpmdaaWc
import Derived.Test.YtfpgnnjkojpmdaaUn
import Derived.Test.YtfpgnnjkojpmdaaWz
namespace Go.Proofs.Ytfpgnnjkojpmdaa
set_option linter.unusedVariables false
open Go.RowKit
namespace Uw
open Utf Wd Wr We Wi

set_option maxHeartbeats 400000 in
theorem width_any (c : Int) (w : World) : Calls Try.prog 69 #[.int .i64 c] w fun e w' => e = .returned (.int .i64 (us c).length) ∧ w = w' := by
  rcases us_len c with ⟨h, g⟩ | ⟨h, g⟩
  · rw [h]; clear h
    go_enter Try.func69, Try.ntmps69
    go_wp2; go_ret; exact ⟨rfl, rfl⟩
  · rw [h]; clear h
    go_enter Try.func69, Try.ntmps69
    go_wp2; go_ret; exact ⟨rfl, rfl⟩

set_option maxHeartbeats 800000 in
theorem walk_any (A : Option Addr) (n cp : Nat) (cs : List Int) (w : World) (hc : Chars cs) (s : Sl .u8 w A n cp (encs cs)) (most : Nat) (hm : most ≤ 9223372036854775807) :
    Calls Try.prog 55 #[.slice A n cp, .int .i64 most] w fun e w' => e = .returned (.tuple #[.int .i64 (ends cs most).1, .int .i64 (ends cs most).2]) ∧ w = w' := by
  have hmax : n ≤ 9223372036854775807 := by have := s.max; have := s.le; unfold maxLen at *; omega
  have hlen := s.len
  have S := Lib.hid s
  have HC := Lib.hid hc
  have HL := Lib.hid hlen
  clear s hc hlen
  go_enter Try.func55, Try.ntmps55
  go_wp2
  go_step3
  go_wp2
  go_step3
  go_wp2
  go_loop [4, 5] (fun at_ many => ∃ pre post, cs = pre ++ post ∧ (uns pre).length ≤ most ∧ at_ = .int .i64 (encs pre).length ∧ many = .int .i64 (uns pre).length) (fun at_ _ => n - (intOf at_).toNat)
  case atStart => exact ⟨[], cs, rfl, Nat.zero_le _, rfl, rfl⟩
  case round =>
    obtain ⟨pre, post, hcs, hm1, rfl, rfl⟩ := hrel
    cases post with
    | nil =>
      rw [List.append_nil] at hcs
      subst hcs
      have hi : (encs cs).length = n := HL.out
      have HE := Lib.hid (ends_all hm1)
      clear hm1
      rw [hi]
      clear hi
      go_wp2
      go_ret2
      exact ⟨by rw [HE.out, HL.out]; rfl, rfl⟩
    | cons c post =>
      have hf : Utf.form c ≠ 0 := HC.out c (by rw [hcs]; simp)
      have hd : decAt (encs cs) ((encs pre).length : Int) = (c, ((enc c).length : Int), 0) := by
        have h1 := dec_here (pre := pre) (post := post) (r := []) hf
        rw [List.append_nil, ← hcs] at h1
        rw [decAt_in, h1]
        rw [hcs, encs_append, encs_cons, List.length_append, List.length_append]
        have := List.length_pos_iff.2 (enc_ne hf)
        omega
      have hle : (encs pre).length + (enc c).length ≤ n := by
        rw [← HL.out, hcs, encs_append, encs_cons, List.length_append, List.length_append]; omega
      have hp : 0 < (enc c).length := List.length_pos_iff.2 (enc_ne hf)
      have hu := us_len c
      have hue := us_enc hf
      have hB := Lib.hid (encs_byte cs)
      have HD := Lib.hid hd
      have hun : (uns pre).length ≤ n := by
        have h1 := HC.out
        rw [hcs] at h1
        have := (uns_len h1.left).1
        omega
      have HCS := Lib.hid hcs
      clear hd hcs hf
      have E1 := Lib.hid (ends_pre pre (post := c :: post) hm1)
      have X1 := Lib.hid (encs_snoc pre c)
      have X2 := Lib.hid (uns_snoc pre c)
      generalize hg1 : (encs pre).length = i at *
      generalize hg2 : (uns pre).length = m at *
      generalize hg3 : (enc c).length = z at *
      generalize hg4 : (us c).length = y at *
      have G1 := Lib.hid hg1
      have G2 := Lib.hid hg2
      have G3 := Lib.hid hg3
      have G4 := Lib.hid hg4
      clear hg1 hg2 hg3 hg4
      have i1 : (i : Int) < (n : Int) := by omega
      go_wp2_with fail
      refine (decode_at _ _ _ _ _ _ S.out hB.out HD.out).mono ?_
      rintro e w' ⟨rfl, rfl⟩
      go_wp2_with fail
      refine (width_any _ _).mono ?_
      rintro e w' ⟨rfl, rfl⟩
      rw [G4.out]
      by_cases hgt : most < m + y
      · have q : decide ((y : Int) > (most : Int) - (m : Int)) = true := by simp; omega
        go_wp2
        rw [Exit.noGoto_ret]
        go_ret2
        exact ⟨by rw [HCS.out, E1.out, ends_stop (by rw [G4.out]; omega)]; rfl, rfl⟩
      · have q : decide ((y : Int) > (most : Int) - (m : Int)) = false := by simp; omega
        go_wp2
        go_round
        case rel => exact ⟨pre ++ [c], post, by rw [HCS.out]; simp, by rw [X2.out, List.length_append, G2.out, G4.out]; omega, by rw [X1.out, List.length_append, G1.out, G3.out]; go_num, by rw [X2.out, List.length_append, G2.out, G4.out]; go_num⟩
        case measure => simp [intOf]; omega

theorem walk_at (A : Option Addr) (n cp : Nat) (cs : List Int) (w : World) (hc : Chars cs) (s : Sl .u8 w A n cp (encs cs)) (most : Nat) (hm : most ≤ 9223372036854775807) {x y : Nat} (h : ends cs most = (x, y)) :
    Calls Try.prog 55 #[.slice A n cp, .int .i64 most] w fun e w' => e = .returned (.tuple #[.int .i64 x, .int .i64 y]) ∧ w = w' := by
  have := walk_any A n cp cs w hc s most hm
  rw [h] at this
  exact this

set_option maxHeartbeats 800000 in
theorem of_txt (A : Option Addr) (n cp : Nat) (cs : List Int) (w : World) (hc : Chars cs) (s : Sl .u8 w A n cp (encs cs)) :
    Calls Try.prog 35 #[.slice A n cp] w fun e w' => e = .returned (.tuple #[.int .i64 (uns cs).length, .int .i64 0]) ∧ w = w' := by
  have hmax : n ≤ 9223372036854775807 := by have := s.max; have := s.le; unfold maxLen at *; omega
  have hu := (uns_len hc).1
  rw [s.len] at hu
  have E := Lib.hid (ends_all hu)
  have S := Lib.hid s
  have HC := Lib.hid hc
  have K := Lib.hid (chk_encs hc)
  clear s hc hu
  go_enter Try.func35, Try.ntmps35
  go_wp2_with fail
  refine (check_at _ _ _ _ _ S.out (encs_byte cs) K.out).mono ?_
  rintro r w' ⟨rfl, rfl⟩
  go_wp2_with fail
  refine (walk_at _ _ _ cs _ HC.out S.out n hmax E.out).mono ?_
  rintro r w' ⟨rfl, rfl⟩
  go_wp2
  go_ret2
  exact ⟨rfl, rfl⟩

set_option maxHeartbeats 800000 in
theorem of_bad (A : Option Addr) (n cp : Nat) (l : List Int) (w : World) (s : Sl .u8 w A n cp l) (hb : IsB l) {x y : Nat} {e : Int} (h : chk l = (x, y, e)) (he : e ≠ 0) :
    Calls Try.prog 35 #[.slice A n cp] w fun r w' => r = .returned (.tuple #[.int .i64 0, .int .i64 e]) ∧ w = w' := by
  have he' : (e != 0) = true := by simpa using he
  have S := Lib.hid s
  have K := Lib.hid h
  clear s h he
  go_enter Try.func35, Try.ntmps35
  go_wp2_with fail
  refine (check_at _ _ _ _ _ S.out hb K.out).mono ?_
  rintro r w' ⟨rfl, rfl⟩
  go_wp2
  go_ret2
  exact ⟨rfl, rfl⟩

set_option maxHeartbeats 800000 in
theorem offset_txt (A : Option Addr) (n cp : Nat) (cs : List Int) (w : World) (hc : Chars cs) (s : Sl .u8 w A n cp (encs cs)) (most : Nat) (hm : most ≤ 9223372036854775807) :
    Calls Try.prog 36 #[.slice A n cp, .int .i64 most] w fun e w' => e = .returned (.tuple #[.int .i64 (ends cs most).1, .int .i64 0]) ∧ w = w' := by
  have S := Lib.hid s
  have HC := Lib.hid hc
  have K := Lib.hid (chk_encs hc)
  have q : decide ((most : Int) < 0) = false := by simp
  clear s hc
  go_enter Try.func36, Try.ntmps36
  go_wp2_with fail
  refine (check_at _ _ _ _ _ S.out (encs_byte cs) K.out).mono ?_
  rintro r w' ⟨rfl, rfl⟩
  go_wp2_with fail
  refine (walk_any _ _ _ cs _ HC.out S.out most hm).mono ?_
  rintro r w' ⟨rfl, rfl⟩
  go_wp2
  go_ret2
  exact ⟨rfl, rfl⟩

set_option maxHeartbeats 800000 in
theorem offset_neg (A : Option Addr) (n cp : Nat) (cs : List Int) (w : World) (hc : Chars cs) (s : Sl .u8 w A n cp (encs cs)) (most : Int) (hm : most < 0) :
    Calls Try.prog 36 #[.slice A n cp, .int .i64 most] w fun e w' => e = .returned (.tuple #[.int .i64 0, .int .i64 9]) ∧ w = w' := by
  have S := Lib.hid s
  have HC := Lib.hid hc
  have K := Lib.hid (chk_encs hc)
  have q : decide ((most : Int) < 0) = true := by simpa using hm
  clear s hc hm
  go_enter Try.func36, Try.ntmps36
  go_wp2_with fail
  refine (check_at _ _ _ _ _ S.out (encs_byte cs) K.out).mono ?_
  rintro r w' ⟨rfl, rfl⟩
  go_wp2
  go_ret2
  exact ⟨rfl, rfl⟩

set_option maxHeartbeats 800000 in
theorem offset_bad (A : Option Addr) (n cp : Nat) (l : List Int) (w : World) (s : Sl .u8 w A n cp l) (hb : IsB l) (most : Int) {x y : Nat} {e : Int} (h : chk l = (x, y, e)) (he : e ≠ 0) :
    Calls Try.prog 36 #[.slice A n cp, .int .i64 most] w fun r w' => r = .returned (.tuple #[.int .i64 0, .int .i64 e]) ∧ w = w' := by
  have he' : (e != 0) = true := by simpa using he
  have S := Lib.hid s
  have K := Lib.hid h
  clear s h he
  go_enter Try.func36, Try.ntmps36
  go_wp2_with fail
  refine (check_at _ _ _ _ _ S.out hb K.out).mono ?_
  rintro r w' ⟨rfl, rfl⟩
  go_wp2
  go_ret2
  exact ⟨rfl, rfl⟩
end Uw
end Go.Proofs.Ytfpgnnjkojpmdaa
