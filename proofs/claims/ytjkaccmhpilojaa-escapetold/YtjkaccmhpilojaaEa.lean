/-
  What the document's short, digit, long, value, four and escape of layer 8 compute.
-/
import Derived.Test.YtjkaccmhpilojaaEp
import Derived.Test.YtjkaccmhpilojaaWq
namespace Go.Proofs.Ytjkaccmhpilojaa
set_option linter.unusedVariables false
set_option linter.unusedSimpArgs false
open Go.RowKit
namespace Em
open Wd We Utf

set_option maxHeartbeats 800000 in
theorem rshort_any (c : Int) (w : World) : Calls Try.prog 31 #[.int .i64 c] w fun e w' => e = .returned (.int .u8 (sh c)) ∧ w = w' := by
  by_cases h1 : c = 34
  · subst h1
    go_enter Try.func31, Try.ntmps31
    go_wp2
    go_ret
    exact ⟨rfl, rfl⟩
  by_cases h2 : c = 92
  · subst h2
    go_enter Try.func31, Try.ntmps31
    go_wp2
    go_ret
    exact ⟨rfl, rfl⟩
  by_cases h3 : c = 8
  · subst h3
    go_enter Try.func31, Try.ntmps31
    go_wp2
    go_ret
    exact ⟨rfl, rfl⟩
  by_cases h4 : c = 12
  · subst h4
    go_enter Try.func31, Try.ntmps31
    go_wp2
    go_ret
    exact ⟨rfl, rfl⟩
  by_cases h5 : c = 10
  · subst h5
    go_enter Try.func31, Try.ntmps31
    go_wp2
    go_ret
    exact ⟨rfl, rfl⟩
  by_cases h6 : c = 13
  · subst h6
    go_enter Try.func31, Try.ntmps31
    go_wp2
    go_ret
    exact ⟨rfl, rfl⟩
  by_cases h7 : c = 9
  · subst h7
    go_enter Try.func31, Try.ntmps31
    go_wp2
    go_ret
    exact ⟨rfl, rfl⟩
  have hs : sh c = 0 := by unfold sh; rw [if_neg (by omega), if_neg h3, if_neg h4, if_neg h5, if_neg h6, if_neg h7]
  rw [hs]
  go_enter Try.func31, Try.ntmps31
  go_wp2
  go_ret
  exact ⟨rfl, rfl⟩
set_option maxHeartbeats 800000 in
theorem rdigit_any (n : Int) (h0 : 0 ≤ n) (h1 : n < 16) (w : World) : Calls Try.prog 32 #[.int .i64 n] w fun e w' => e = .returned (.int .u8 (hx n)) ∧ w = w' := by
  by_cases h : n < 10
  · have e : hx n = 48 + n := if_pos h
    rw [e]
    go_enter Try.func32, Try.ntmps32
    go_wp2
    go_ret
    exact ⟨by first | rfl | (congr 2; done) | (congr 2; go_num), rfl⟩
  · have e : hx n = 87 + n := if_neg h
    rw [e]
    go_enter Try.func32, Try.ntmps32
    go_wp2
    go_ret
    exact ⟨by first | rfl | (congr 2; done) | (congr 2; go_num), rfl⟩
set_option maxHeartbeats 800000 in
theorem rlong_any (k : Int) (w : World) : Calls Try.prog 49 #[.int .u8 k] w fun e w' => e = .returned (.int .i64 (lg k)) ∧ w = w' := by
  by_cases h34 : k = 34
  · subst h34
    go_enter Try.func49, Try.ntmps49
    go_wp2
    go_ret
    exact ⟨rfl, rfl⟩
  by_cases h92 : k = 92
  · subst h92
    go_enter Try.func49, Try.ntmps49
    go_wp2
    go_ret
    exact ⟨rfl, rfl⟩
  by_cases h47 : k = 47
  · subst h47
    go_enter Try.func49, Try.ntmps49
    go_wp2
    go_ret
    exact ⟨rfl, rfl⟩
  by_cases h98 : k = 98
  · subst h98
    go_enter Try.func49, Try.ntmps49
    go_wp2
    go_ret
    exact ⟨rfl, rfl⟩
  by_cases h102 : k = 102
  · subst h102
    go_enter Try.func49, Try.ntmps49
    go_wp2
    go_ret
    exact ⟨rfl, rfl⟩
  by_cases h110 : k = 110
  · subst h110
    go_enter Try.func49, Try.ntmps49
    go_wp2
    go_ret
    exact ⟨rfl, rfl⟩
  by_cases h114 : k = 114
  · subst h114
    go_enter Try.func49, Try.ntmps49
    go_wp2
    go_ret
    exact ⟨rfl, rfl⟩
  by_cases h116 : k = 116
  · subst h116
    go_enter Try.func49, Try.ntmps49
    go_wp2
    go_ret
    exact ⟨rfl, rfl⟩
  have hs : lg k = -1 := by unfold lg; rw [if_neg (by omega), if_neg h98, if_neg h102, if_neg h110, if_neg h114, if_neg h116]
  rw [hs]
  go_enter Try.func49, Try.ntmps49
  go_wp2
  go_ret
  exact ⟨rfl, rfl⟩
set_option maxHeartbeats 800000 in
theorem rvalue_any (c : Int) (h0 : 0 ≤ c) (h1 : c ≤ 255) (w : World) : Calls Try.prog 59 #[.int .u8 c] w fun e w' => e = .returned (.int .i64 (vx c)) ∧ w = w' := by
  by_cases g1 : 48 ≤ c ∧ c ≤ 57
  · have e : vx c = c - 48 := if_pos g1
    obtain ⟨i1, i2⟩ := g1
    rw [e]
    go_enter Try.func59, Try.ntmps59
    go_wp2
    go_ret
    exact ⟨by first | rfl | (congr 2; done) | (congr 2; go_num), rfl⟩
  by_cases g2 : 97 ≤ c ∧ c ≤ 102
  · have e : vx c = c - 97 + 10 := by unfold vx; rw [if_neg g1, if_pos g2]
    obtain ⟨i1, i2⟩ := g2
    rw [e]
    have i3 : ¬ c ≤ 57 := by omega
    go_enter Try.func59, Try.ntmps59
    go_wp2
    go_ret
    exact ⟨by first | rfl | (congr 2; done) | (congr 2; go_num), rfl⟩
  by_cases g3 : 65 ≤ c ∧ c ≤ 70
  · have e : vx c = c - 65 + 10 := by unfold vx; rw [if_neg g1, if_neg g2, if_pos g3]
    obtain ⟨i1, i2⟩ := g3
    rw [e]
    have i3 : ¬ c ≤ 57 := by omega
    have i4 : ¬ 97 ≤ c := by omega
    go_enter Try.func59, Try.ntmps59
    go_wp2
    go_ret
    exact ⟨by first | rfl | (congr 2; done) | (congr 2; go_num), rfl⟩
  have e : vx c = -1 := by unfold vx; rw [if_neg g1, if_neg g2, if_neg g3]
  rw [e]
  have d1 : (decide (48 ≤ c) && decide (c ≤ 57)) = false := by simp; omega
  have d2 : (decide (97 ≤ c) && decide (c ≤ 102)) = false := by simp; omega
  have d3 : (decide (65 ≤ c) && decide (c ≤ 70)) = false := by simp; omega
  rcases (show c < 48 ∨ (57 < c ∧ c < 65) ∨ (70 < c ∧ c < 97) ∨ 102 < c by omega) with g | ⟨g, g'⟩ | ⟨g, g'⟩ | g
  all_goals
    go_enter Try.func59, Try.ntmps59
    go_wp2
    go_ret
    exact ⟨rfl, rfl⟩
end Em
end Go.Proofs.Ytjkaccmhpilojaa
