/-
  What endSize, ends and the function that ends hands back (package lines) do.
-/
import Derived.Test.YtfpgnnjkojpmdaaRows
import Derived.Test.YtfpgnnjkojpmdaaLm
import Derived.Test.YtfpgnnjkojpmdaaWx
import Derived.RangeFuncNested
import Derived.RangeFuncBound
import Derived.RangeFuncCalls
import Derived.RangeFuncLeaves
import Derived.Shelf.Abstract
import Derived.Shelf.RegionOpen
import Derived.WalkKit
import Derived.OwnWalkIn
import Derived.TacticsInMore
import Derived.LoopNIn
import Derived.LoopIn
import Derived.Outline
namespace Go.Proofs.Ytfpgnnjkojpmdaa
set_option linter.unusedVariables false
open Go.RowKit Go.Shelf
namespace Lc
open Utf Wd Wr We Wi Lm
attribute [local go_sem] Oper.semAt_some

set_option maxHeartbeats 800000 in
theorem esize_any (A : Option Addr) (n c : Nat) (l : List Int) (w : World) (s : Sl .u8 w A n c l) (h0 : 0 < n) :
    Calls Try.prog 67 #[.slice A n c] w fun e w' => e = .returned (.int .i64 (esz l)) ∧ w = w' := by
  have hmax : n ≤ 9223372036854775807 := by have := s.max; have := s.le; unfold maxLen at *; omega
  obtain ⟨b, off, x, rfl, hx, hc0, _⟩ := s.row.look h0
  rw [Nat.add_zero] at hc0
  have hlen := s.len
  obtain ⟨r, rfl⟩ : ∃ r, l = x :: r := by
    cases l with
    | nil => simp at hx
    | cons y r => simp at hx; subst hx; exact ⟨r, rfl⟩
  have S := Lib.hid s
  clear s hx
  have i0 : (0 : Int) < (n : Int) := by omega
  by_cases h13 : x = 13
  · subst h13
    cases r with
    | nil =>
      obtain rfl : n = 1 := by simpa using hlen.symm
      clear hlen
      go_enter Try.func67, Try.ntmps67
      go_wp2
      go_ret
      exact ⟨rfl, rfl⟩
    | cons y r =>
      obtain ⟨_, _, y', e', hy, hc1, _⟩ := S.out.row.look (j := 1) (by simp at hlen; omega)
      injection e' with e'; injection e' with e1 e2; subst e1; subst e2
      simp at hy; subst hy
      have hn : 1 < (n : Int) := by simp at hlen; omega
      clear hlen
      by_cases h10 : y = 10
      · subst h10
        go_enter Try.func67, Try.ntmps67
        go_wp2
        go_ret
        exact ⟨rfl, rfl⟩
      · have d : (y == 10) = false := by simpa using h10
        have H := Lib.hid h10; clear h10
        go_enter Try.func67, Try.ntmps67
        go_wp2
        go_ret
        exact ⟨by rw [esz_back (by simpa using H.out)]; rfl, rfl⟩
  · have d : (x == 13) = false := by simpa using h13
    have H := Lib.hid h13; clear h13
    by_cases h10 : x = 10
    · subst h10
      go_enter Try.func67, Try.ntmps67
      go_wp2
      go_ret
      exact ⟨by rw [esz_feed]; rfl, rfl⟩
    · have d2 : (x == 10) = false := by simpa using h10
      have H2 := Lib.hid h10; clear h10
      go_enter Try.func67, Try.ntmps67
      go_wp2
      go_ret
      exact ⟨by rw [esz0 H.out H2.out]; rfl, rfl⟩
end Lc
end Go.Proofs.Ytfpgnnjkojpmdaa
