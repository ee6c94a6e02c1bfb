/-
  What end of colophonref03 (the document's answer) does; two rows of spans in a struct.
-/
import Derived.Test.YtfpgnnjkojpmdaaLs
import Derived.Test.YtfpgnnjkojpmdaaWq
import Derived.Maps.AppendAt
namespace Go.Proofs.Ytfpgnnjkojpmdaa
set_option linter.unusedVariables false
set_option linter.unusedSimpArgs false
open Go.RowKit Go.Shelf
namespace Lc
open Utf Wd Wr We Wi Lm

set_option maxHeartbeats 1600000 in
theorem rend_any (A : Option Addr) (n c : Nat) (l : List Int) (k : Nat) (w : World) (s : Sl .u8 w A n c l) (hk : k < n) :
    Calls Try.prog 57 #[.slice A n c, .int .i64 (k : Nat)] w fun e w' => e = .returned (.int .i64 (esz (l.drop k) : Nat)) ∧ w = w' := by
  have hmax : n ≤ 9223372036854775807 := by have := s.max; have := s.le; unfold maxLen at *; omega
  obtain ⟨b, off, x, rfl, hx, hc0, _⟩ := s.row.look hk
  have hlen := s.len
  have hd : l.drop k = x :: l.drop (k + 1) := by
    rw [List.drop_eq_getElem_cons (by omega)]
    rw [List.getElem?_eq_getElem (by omega)] at hx
    cases hx; rfl
  have S := Lib.hid s
  have HD := Lib.hid hd
  clear s hx hd
  have i0 : (k : Int) < (n : Int) := by omega
  have j0 : IntKind.i64.wrap ((k : Int) + 1) = (k : Int) + 1 := by rw [IntKind.wrap_i64]; omega
  by_cases h10 : x = 10
  · subst h10
    go_enter Try.func57, Try.ntmps57
    go_wp2
    go_ret
    exact ⟨by rw [HD.out, esz_feed]; rfl, rfl⟩
  · have d2 : (x == 10) = false := by simpa using h10
    have H2 := Lib.hid h10; clear h10
    by_cases h13 : x = 13
    · subst h13
      by_cases hkn : k + 1 < n
      · obtain ⟨_, _, y, e', hy, hc1, _⟩ := S.out.row.look (j := k + 1) hkn
        injection e' with e'; injection e' with e1 e2; subst e1; subst e2
        have hd2 : (l.drop (k + 1)).head? = some y := by rw [List.head?_drop]; exact hy
        have HY := Lib.hid hd2
        have i1 : (k : Int) + 1 < (n : Int) := by omega
        clear hy hd2
        by_cases hy10 : y = 10
        · subst hy10
          go_enter Try.func57, Try.ntmps57
          go_wp2
          go_ret
          refine ⟨?_, rfl⟩
          rw [HD.out]
          cases hq : l.drop (k + 1) with
          | nil => have := HY.out; rw [hq] at this; cases this
          | cons z r => have := HY.out; rw [hq] at this; cases this; rw [esz_two]; rfl
        · have d3 : (y == 10) = false := by simpa using hy10
          have H3 := Lib.hid hy10; clear hy10
          go_enter Try.func57, Try.ntmps57
          go_wp2
          go_ret
          exact ⟨by rw [HD.out, esz_back (by rw [HY.out]; simpa using H3.out)]; rfl, rfl⟩
      · have i1 : ¬ (k : Int) + 1 < (n : Int) := by omega
        go_enter Try.func57, Try.ntmps57
        go_wp2
        go_ret
        refine ⟨?_, rfl⟩
        rw [HD.out, List.drop_of_length_le (by omega), esz_back (by simp)]; rfl
    · have d1 : (x == 13) = false := by simpa using h13
      have H := Lib.hid h13; clear h13
      go_enter Try.func57, Try.ntmps57
      go_wp2
      go_ret
      exact ⟨by rw [HD.out, esz0 H.out H2.out]; rfl, rfl⟩
end Lc
end Go.Proofs.Ytfpgnnjkojpmdaa
