/-
  What the document's answers Is, Encode, joined of layer 1 compute.
-/
import Derived.Test.YtjkaccmhpilojaaWc
namespace Go.Proofs.Ytjkaccmhpilojaa
set_option linter.unusedVariables false
set_option linter.unusedSimpArgs false
open Go.RowKit
namespace Wf
open Utf Wd Wr We Wi

/-- is a number a character? -/
def chB (c : Int) : Bool := decide (Utf.form c ≠ 0)
set_option maxHeartbeats 800000 in
theorem is_any (c : Int) (w : World) : Calls Try.prog 36 #[.int .i64 c] w fun e w' => e = .returned (.bool (chB c)) ∧ w = w' := by
  have hf := form_cases c
  have key : chB c = decide (0 ≤ c ∧ c ≤ 1114111 ∧ ¬ (55296 ≤ c ∧ c ≤ 57343)) := by
    unfold chB; rw [decide_eq_decide]; omega
  have K := Lib.hid key
  clear key hf
  by_cases a1 : 0 ≤ c
  · have d1 : decide (0 ≤ c) = true := by simpa using a1
    by_cases a2 : c ≤ 1114111
    · have d2 : decide (c ≤ 1114111) = true := by simpa using a2
      by_cases a3 : 55296 ≤ c
      · have d3 : decide (55296 ≤ c) = true := by simpa using a3
        by_cases a4 : c ≤ 57343
        · have d4 : decide (c ≤ 57343) = true := by simpa using a4
          go_enter Try.func36, Try.ntmps36
          go_wp2
          go_ret
          exact ⟨ret1 (congrArg Value.bool (by rw [K.out]; symm; rw [decide_eq_false_iff_not]; omega)), rfl⟩
        · have d4 : decide (c ≤ 57343) = false := by simpa using a4
          go_enter Try.func36, Try.ntmps36
          go_wp2
          go_ret
          exact ⟨ret1 (congrArg Value.bool (by rw [K.out]; symm; rw [decide_eq_true_iff]; omega)), rfl⟩
      · have d3 : decide (55296 ≤ c) = false := by simpa using a3
        go_enter Try.func36, Try.ntmps36
        go_wp2
        go_ret
        exact ⟨ret1 (congrArg Value.bool (by rw [K.out]; symm; rw [decide_eq_true_iff]; omega)), rfl⟩
    · have d2 : decide (c ≤ 1114111) = false := by simpa using a2
      go_enter Try.func36, Try.ntmps36
      go_wp2
      go_ret
      exact ⟨ret1 (congrArg Value.bool (by rw [K.out]; symm; rw [decide_eq_false_iff_not]; omega)), rfl⟩
  · have d1 : decide (0 ≤ c) = false := by simpa using a1
    go_enter Try.func36, Try.ntmps36
    go_wp2
    go_ret
    exact ⟨ret1 (congrArg Value.bool (by rw [K.out]; symm; rw [decide_eq_false_iff_not]; omega)), rfl⟩

set_option maxHeartbeats 800000 in
theorem rencode_no (c : Int) (h : Utf.form c = 0) (w : World) : Calls Try.prog 23 #[.int .i64 c] w fun e w' =>
    e = .returned (.tuple #[.slice none 0 0, .int .i64 10]) ∧ w = w' := by
  have hc : chB c = false := by simp [chB, h]
  have H := Lib.hid hc; clear h hc
  go_enter Try.func23, Try.ntmps23
  go_wp2_with fail
  refine (is_any _ _).mono ?_
  rintro e w' ⟨rfl, rfl⟩
  rw [H.out]
  go_wp2
  go_ret2
  exact ⟨rfl, rfl⟩

set_option maxHeartbeats 800000 in
theorem rencode_ok (c : Int) (h : Utf.form c ≠ 0) (w : World) : Calls Try.prog 23 #[.int .i64 c] w fun e w' =>
    e = .returned (.tuple #[.slice (some ⟨w.heap.size, 0, none⟩) (enc c).length (enc c).length, .int .i64 0]) ∧ w.alloc (.cells (bs (enc c)) 5) = w' := by
  have hc : chB c = true := by simp [chB, h]
  have H := Lib.hid hc
  clear hc
  rcases form_cases c with k | k | k | k | k
  · exact absurd k.1 h
  · obtain ⟨k, k1, k2⟩ := k
    rw [enc1 k]
    clear h k
    have a1 : c < 128 := by omega
    go_enter Try.func23, Try.ntmps23
    go_wp2_with fail
    refine (is_any _ _).mono ?_
    rintro e w' ⟨rfl, rfl⟩
    rw [H.out]
    go_wp2
    go_ret2
    exact ⟨rfl, rfl⟩
  · obtain ⟨k, k1, k2⟩ := k
    rw [enc2 k]
    clear h k
    have a1 : ¬ c < 128 := by omega
    have a2 : c < 2048 := by omega
    go_enter Try.func23, Try.ntmps23
    go_wp2_with fail
    refine (is_any _ _).mono ?_
    rintro e w' ⟨rfl, rfl⟩
    rw [H.out]
    go_wp2
    go_ret2
    exact ⟨rfl, rfl⟩
  · obtain ⟨k, k1, k2, _⟩ := k
    rw [enc3 k]
    clear h k
    have a1 : ¬ c < 128 := by omega
    have a2 : ¬ c < 2048 := by omega
    have a3 : c < 65536 := by omega
    go_enter Try.func23, Try.ntmps23
    go_wp2_with fail
    refine (is_any _ _).mono ?_
    rintro e w' ⟨rfl, rfl⟩
    rw [H.out]
    go_wp2
    go_ret2
    exact ⟨rfl, rfl⟩
  · obtain ⟨k, k1, k2⟩ := k
    rw [enc4 k]
    clear h k
    have a1 : ¬ c < 128 := by omega
    have a2 : ¬ c < 2048 := by omega
    have a3 : ¬ c < 65536 := by omega
    go_enter Try.func23, Try.ntmps23
    go_wp2_with fail
    refine (is_any _ _).mono ?_
    rintro e w' ⟨rfl, rfl⟩
    rw [H.out]
    go_wp2
    go_ret2
    exact ⟨rfl, rfl⟩
end Wf
end Go.Proofs.Ytjkaccmhpilojaa
