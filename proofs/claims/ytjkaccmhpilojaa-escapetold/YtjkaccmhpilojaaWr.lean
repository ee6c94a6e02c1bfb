/-
  What the functions of package runes compute: form, tail, first, begins, Encode.
-/
import Derived.Test.YtjkaccmhpilojaaRows
import Derived.Test.YtjkaccmhpilojaaUtf
import Derived.Test.YtjkaccmhpilojaaWd
import Derived.Outline
namespace Go.Proofs.Ytjkaccmhpilojaa
set_option linter.unusedVariables false
open Go.RowKit
namespace Wr
open Utf Wd

set_option maxHeartbeats 400000 in
theorem form_any (c : Int) (w : World) : Calls Try.prog 57 #[.int .i64 c] w fun e w' => e = .returned (.int .i64 (Utf.form c)) ∧ w = w' := by
  have hf := form_cases c
  have H := Lib.hid (rfl : Utf.form c = Utf.form c)
  rcases hf with h | h | h | h | h
  · obtain ⟨h, g⟩ := h
    have K := Lib.hid h; clear h
    rcases g with g | ⟨g1, g2⟩ | g
    · go_enter Try.func57, Try.ntmps57
      go_wp2; go_ret; exact ⟨by rw [K.out]; rfl, rfl⟩
    · have a1 : ¬ c < 0 := by omega
      have a2 : ¬ c ≤ 127 := by omega
      have a3 : ¬ c ≤ 2047 := by omega
      go_enter Try.func57, Try.ntmps57
      go_wp2; go_ret; exact ⟨by rw [K.out]; rfl, rfl⟩
    · have a1 : ¬ c < 0 := by omega
      have a2 : ¬ c ≤ 127 := by omega
      have a3 : ¬ c ≤ 2047 := by omega
      have a4 : ¬ c ≤ 57343 := by omega
      have a5 : ¬ c ≤ 65535 := by omega
      have a6 : ¬ c ≤ 1114111 := by omega
      have a7 : 55296 ≤ c := by omega
      go_enter Try.func57, Try.ntmps57
      go_wp2; go_ret; exact ⟨by rw [K.out]; rfl, rfl⟩
  · obtain ⟨h, g1, g2⟩ := h
    have K := Lib.hid h; clear h
    have a1 : ¬ c < 0 := by omega
    go_enter Try.func57, Try.ntmps57
    go_wp2; go_ret; exact ⟨by rw [K.out]; rfl, rfl⟩
  · obtain ⟨h, g1, g2⟩ := h
    have K := Lib.hid h; clear h
    have a1 : ¬ c < 0 := by omega
    have a2 : ¬ c ≤ 127 := by omega
    go_enter Try.func57, Try.ntmps57
    go_wp2; go_ret; exact ⟨by rw [K.out]; rfl, rfl⟩
  · obtain ⟨h, g1, g2, g⟩ := h
    have K := Lib.hid h; clear h
    have a1 : ¬ c < 0 := by omega
    have a2 : ¬ c ≤ 127 := by omega
    have a3 : ¬ c ≤ 2047 := by omega
    rcases g with g | g
    · have a4 : ¬ 55296 ≤ c := by omega
      go_enter Try.func57, Try.ntmps57
      go_wp2; go_ret; exact ⟨by rw [K.out]; rfl, rfl⟩
    · have a4 : ¬ c ≤ 57343 := by omega
      have a7 : 55296 ≤ c := by omega
      go_enter Try.func57, Try.ntmps57
      go_wp2; go_ret; exact ⟨by rw [K.out]; rfl, rfl⟩
  · obtain ⟨h, g1, g2⟩ := h
    have K := Lib.hid h; clear h
    have a1 : ¬ c < 0 := by omega
    have a2 : ¬ c ≤ 127 := by omega
    have a3 : ¬ c ≤ 2047 := by omega
    have a4 : ¬ c ≤ 57343 := by omega
    have a5 : ¬ c ≤ 65535 := by omega
    have a7 : 55296 ≤ c := by omega
    go_enter Try.func57, Try.ntmps57
    go_wp2; go_ret; exact ⟨by rw [K.out]; rfl, rfl⟩

set_option maxHeartbeats 400000 in
theorem tail_any (c : Int) (w : World) : Calls Try.prog 58 #[.int .i64 c] w fun e w' => e = .returned (.int .u8 (128 + c % 64)) ∧ w = w' := by
  go_enter Try.func58, Try.ntmps58
  go_wp2; go_ret
  refine ⟨ret1 ?_, rfl⟩
  show Value.int _ _ = _
  rw [and_63, or_u8 7 (by decide) (by decide) (by omega) (by decide) (by omega) (by omega)]
  congr 1; omega

/-- a first byte's bits, and its form's length -/
def fst (x : Int) : Int × Int :=
  if x < 128 then (x, 1) else if x < 192 then (0, 0) else if x < 224 then (x - 192, 2) else if x < 240 then (x - 224, 3) else if x < 248 then (x - 240, 4) else (0, 0)

theorem fst1 {x : Int} (h1 : x ≤ 255) (h0 : 0 ≤ x) (a : (x - x % 128 == 0) = true) : fst x = (x % 128, 1) := by
  simp at a; unfold fst; rw [if_pos (by omega)]; simp; omega
theorem fst2 {x : Int} (h1 : x ≤ 255) (h0 : 0 ≤ x) (a : (x - x % 32 == 192) = true) : fst x = (x % 32, 2) := by
  simp at a; unfold fst; rw [if_neg (by omega), if_neg (by omega), if_pos (by omega)]; simp; omega
theorem fst3 {x : Int} (h1 : x ≤ 255) (h0 : 0 ≤ x) (a : (x - x % 16 == 224) = true) : fst x = (x % 16, 3) := by
  simp at a; unfold fst; rw [if_neg (by omega), if_neg (by omega), if_neg (by omega), if_pos (by omega)]; simp; omega
theorem fst4 {x : Int} (h1 : x ≤ 255) (h0 : 0 ≤ x) (a : (x - x % 8 == 240) = true) : fst x = (x % 8, 4) := by
  simp at a; unfold fst; rw [if_neg (by omega), if_neg (by omega), if_neg (by omega), if_neg (by omega), if_pos (by omega)]; simp; omega
theorem fst5 {x : Int} (h1 : x ≤ 255) (h0 : 0 ≤ x) (a : (x - x % 128 == 0) = false) (b : (x - x % 32 == 192) = false) (c : (x - x % 16 == 224) = false) (d : (x - x % 8 == 240) = false) : fst x = (0, 0) := by
  simp at a b c d; unfold fst
  repeat' split
  all_goals first | rfl | omega

set_option maxHeartbeats 400000 in
theorem first_any (x : Int) (h0 : 0 ≤ x) (h1 : x ≤ 255) (w : World) : Calls Try.prog 54 #[.int .u8 x] w fun e w' => e = .returned (.tuple #[.int .i64 (fst x).1, .int .i64 (fst x).2]) ∧ w = w' := by
  have e1 := andNot_127 h0 h1
  have e2 := andNot_31 h0 h1
  have e3 := andNot_15 h0 h1
  have e4 := andNot_7 h0 h1
  have e5 := and_127 h0 h1
  go_enter Try.func54, Try.ntmps54
  go_wp2
  all_goals go_ret2
  · exact ⟨ret1 (by rw [fst1 h1 h0 ‹_›]; rfl), rfl⟩
  · exact ⟨ret1 (by rw [fst2 h1 h0 ‹_›]; rfl), rfl⟩
  · exact ⟨ret1 (by rw [fst3 h1 h0 ‹_›]; rfl), rfl⟩
  · exact ⟨ret1 (by rw [fst4 h1 h0 ‹_›]; rfl), rfl⟩
  · exact ⟨ret1 (by rw [fst5 h1 h0 ‹_› ‹_› ‹_› ‹_›]; rfl), rfl⟩

/-- whether some character of a form has these bits, with so many bytes to come -/
def bg (c l s : Int) : Bool := Utf.form (c * 64 ^ l.toNat) == s || Utf.form (c * 64 ^ l.toNat + (64 ^ l.toNat - 1)) == s
theorem bg0 (c s : Int) : bg c 0 s = (Utf.form c == s || Utf.form c == s) := by simp [bg]
theorem bg1 (c s : Int) : bg c 1 s = (Utf.form (c * 64) == s || Utf.form (c * 64 + 63) == s) := by simp [bg]
theorem bg2 (c s : Int) : bg c 2 s = (Utf.form (c * 4096) == s || Utf.form (c * 4096 + 4095) == s) := by simp [bg]
theorem bg3 (c s : Int) : bg c 3 s = (Utf.form (c * 262144) == s || Utf.form (c * 262144 + 262143) == s) := by simp [bg]

set_option maxHeartbeats 400000 in
theorem begins_any (c l s : Int) (h0 : 0 ≤ c) (h1 : c < 2097152) (hl : 0 ≤ l) (hl2 : l ≤ 3) (w : World) : Calls Try.prog 55 #[.int .i64 c, .int .i64 l, .int .i64 s] w fun e w' =>
    e = .returned (.bool (bg c l s)) ∧ w = w' := by
  rcases (by omega : l = 0 ∨ l = 1 ∨ l = 2 ∨ l = 3) with rfl | rfl | rfl | rfl
  · have ho : bits .or .i64 c 0 = c := by have := or_join 0 (a := c) (b := 0) h0 (by omega) (by omega) (by omega) (by simp) (by decide); simpa using this
    rw [bg0]
    go_enter Try.func55, Try.ntmps55
    go_wp2_with (go_at_call 57; refine (form_any _ _).mono ?_; rintro e w' ⟨rfl, rfl⟩)
    all_goals go_ret
    · exact ⟨ret1 (by simp [*]), rfl⟩
    · exact ⟨ret1 (by simp), rfl⟩
  · have ho : bits .or .i64 (c * 64) 63 = c * 64 + 63 := or_join 6 (by omega) (by omega) (by omega) (by omega) (by simp) (by decide)
    rw [bg1]
    go_enter Try.func55, Try.ntmps55
    go_wp2_with (go_at_call 57; refine (form_any _ _).mono ?_; rintro e w' ⟨rfl, rfl⟩)
    all_goals go_ret
    · exact ⟨ret1 (by simp [*]), rfl⟩
    · exact ⟨ret1 rfl, rfl⟩
  · have ho : bits .or .i64 (c * 4096) 4095 = c * 4096 + 4095 := or_join 12 (by omega) (by omega) (by omega) (by omega) (by simp) (by decide)
    rw [bg2]
    go_enter Try.func55, Try.ntmps55
    go_wp2_with (go_at_call 57; refine (form_any _ _).mono ?_; rintro e w' ⟨rfl, rfl⟩)
    all_goals go_ret
    · exact ⟨ret1 (by simp [*]), rfl⟩
    · exact ⟨ret1 rfl, rfl⟩
  · have ho : bits .or .i64 (c * 262144) 262143 = c * 262144 + 262143 := or_join 18 (by omega) (by omega) (by omega) (by omega) (by simp) (by decide)
    rw [bg3]
    go_enter Try.func55, Try.ntmps55
    go_wp2_with (go_at_call 57; refine (form_any _ _).mono ?_; rintro e w' ⟨rfl, rfl⟩)
    all_goals go_ret
    · exact ⟨ret1 (by simp [*]), rfl⟩
    · exact ⟨ret1 rfl, rfl⟩

/-- bytes as a block's cells -/
def bs (l : List Int) : Array Value := (l.map (Value.int .u8)).toArray

set_option maxHeartbeats 800000 in
theorem encode_no (c : Int) (h : Utf.form c = 0) (w : World) : Calls Try.prog 48 #[.int .i64 c] w fun e w' =>
    e = .returned (.tuple #[.slice none 0 0, .int .i64 10]) ∧ w = w' := by
  have H := Lib.hid h; clear h
  go_enter Try.func48, Try.ntmps48
  go_wp2_with (go_at_call 57; refine (form_any _ _).mono ?_; rintro e w' ⟨rfl, rfl⟩; rw [H.out])
  go_ret2
  exact ⟨rfl, rfl⟩

set_option maxHeartbeats 800000 in
theorem encode_ok (c : Int) (h : Utf.form c ≠ 0) (w : World) : Calls Try.prog 48 #[.int .i64 c] w fun e w' =>
    e = .returned (.tuple #[.slice (some ⟨w.heap.size, 0, none⟩) (enc c).length (enc c).length, .int .i64 0]) ∧ w.alloc (.cells (bs (enc c)) 5) = w' := by
  rcases form_cases c with k | k | k | k | k
  · exact absurd k.1 h
  · obtain ⟨k, k1, k2⟩ := k
    have H := Lib.hid k; clear k h
    rw [enc1 H.out]
    go_enter Try.func48, Try.ntmps48
    go_wp2_with (go_at_call 57; refine (form_any _ _).mono ?_; rintro e w' ⟨rfl, rfl⟩; rw [H.out])
    go_ret2
    exact ⟨rfl, rfl⟩
  · obtain ⟨k, k1, k2⟩ := k
    have H := Lib.hid k; clear k h
    rw [enc2 H.out]
    go_enter Try.func48, Try.ntmps48
    go_wp2_with (first | (go_at_call 57; refine (form_any _ _).mono ?_; rintro e w' ⟨rfl, rfl⟩; rw [H.out]) | (go_at_call 58; refine (tail_any _ _).mono ?_; rintro e w' ⟨rfl, rfl⟩))
    go_ret2
    exact ⟨rfl, rfl⟩
  · obtain ⟨k, k1, k2, _⟩ := k
    have H := Lib.hid k; clear k h
    rw [enc3 H.out]
    go_enter Try.func48, Try.ntmps48
    go_wp2_with (first | (go_at_call 57; refine (form_any _ _).mono ?_; rintro e w' ⟨rfl, rfl⟩; rw [H.out]) | (go_at_call 58; refine (tail_any _ _).mono ?_; rintro e w' ⟨rfl, rfl⟩))
    go_ret2
    exact ⟨rfl, rfl⟩
  · obtain ⟨k, k1, k2⟩ := k
    have H := Lib.hid k; clear k h
    rw [enc4 H.out]
    go_enter Try.func48, Try.ntmps48
    go_wp2_with (first | (go_at_call 57; refine (form_any _ _).mono ?_; rintro e w' ⟨rfl, rfl⟩; rw [H.out]) | (go_at_call 58; refine (tail_any _ _).mono ?_; rintro e w' ⟨rfl, rfl⟩))
    go_ret2
    exact ⟨rfl, rfl⟩
end Wr
end Go.Proofs.Ytjkaccmhpilojaa
