/-
  The walk of RunesKnown.
-/
import Derived.Test.YtjicaoljecpapaaWc
import Derived.Test.YtjicaoljecpapaaWp
import Derived.Test.YtjicaoljecpapaaWt
namespace Go.Proofs.Ytjicaoljecpapaa
set_option linter.unusedVariables false
open Go.RowKit Go.ChangeShapes Go.WideShapes
open Utf Wd Wr We Wi

def bads : List (List Int) := [[128], [192, 128], [193, 191], [194, 65], [224, 159, 191], [237, 160, 128], [237, 160], [224, 128], [240, 143], [244, 144], [244, 144, 128, 128], [245], [255], [226, 65], [226, 130, 65], [240, 159, 152, 65]]
def pieces : List (List Int) := [[194], [224], [224, 160], [237, 159], [240], [240, 144], [244, 143, 191]]
def nots : List Int := [-1, 55296, 57343, 1114112, 4611686018427387904, -9223372036854775808]
theorem bads_short : ∀ l ∈ bads, l.length ≤ maxLen := by decide
theorem pieces_short : ∀ l ∈ pieces, l.length ≤ maxLen := by decide
theorem bads_are : ∀ l ∈ bads, IsB l ∧ decAt l 0 = (0, 0, 10) := by unfold IsB; decide
theorem pieces_are : ∀ l ∈ pieces, IsB l ∧ decAt l 0 = (0, 0, 3) ∧ chk (65 :: l) = (1, 1, 3) ∧ l.length ≤ 4 := by unfold IsB; decide
theorem nots_are : ∀ c ∈ nots, Utf.form c = 0 := by decide
theorem nots_get {k : Nat} (h : k < 6) : ∃ c, nots[k]? = some c ∧ Utf.form c = 0 := by
  have hk : k < nots.length := h
  exact ⟨nots[k], List.getElem?_eq_getElem hk, nots_are _ (List.getElem_mem hk)⟩

set_option maxRecDepth 1000000 in
set_option maxHeartbeats 3200000 in
theorem walk_RunesKnown  (w : World)  :
    Calls Try.prog 13 #[] w fun e w' => e = .returned (.bool true) ∧ Below w.heap.size w w' := by
  go_enter Try.func13, Try.ntmps13
  go_wp2_with fail
  refine (is_true 0 _ _ _ _ (by decide) (Sl.new w [0] 5 .u8 (by decide))).mono ?_
  rintro e x0 ⟨rfl, hb0⟩
  have B0 := Lib.hid (ext_trans (below_alloc _ _) hb0)
  clear hb0
  go_wp2_with fail
  refine (is_true 127 _ _ _ _ (by decide) (Sl.new x0 [127] 5 .u8 (by decide))).mono ?_
  rintro e x1 ⟨rfl, hb1⟩
  have B1 := Lib.hid (ext_trans B0.out (ext_trans (below_alloc _ _) hb1))
  clear hb1
  go_wp2_with fail
  refine (is_true 128 _ _ _ _ (by decide) (Sl.new x1 [194, 128] 5 .u8 (by decide))).mono ?_
  rintro e x2 ⟨rfl, hb2⟩
  have B2 := Lib.hid (ext_trans B1.out (ext_trans (below_alloc _ _) hb2))
  clear hb2
  go_wp2_with fail
  refine (is_true 2047 _ _ _ _ (by decide) (Sl.new x2 [223, 191] 5 .u8 (by decide))).mono ?_
  rintro e x3 ⟨rfl, hb3⟩
  have B3 := Lib.hid (ext_trans B2.out (ext_trans (below_alloc _ _) hb3))
  clear hb3
  go_wp2_with fail
  refine (is_true 2048 _ _ _ _ (by decide) (Sl.new x3 [224, 160, 128] 5 .u8 (by decide))).mono ?_
  rintro e x4 ⟨rfl, hb4⟩
  have B4 := Lib.hid (ext_trans B3.out (ext_trans (below_alloc _ _) hb4))
  clear hb4
  go_wp2_with fail
  refine (is_true 55295 _ _ _ _ (by decide) (Sl.new x4 [237, 159, 191] 5 .u8 (by decide))).mono ?_
  rintro e x5 ⟨rfl, hb5⟩
  have B5 := Lib.hid (ext_trans B4.out (ext_trans (below_alloc _ _) hb5))
  clear hb5
  go_wp2_with fail
  refine (is_true 57344 _ _ _ _ (by decide) (Sl.new x5 [238, 128, 128] 5 .u8 (by decide))).mono ?_
  rintro e x6 ⟨rfl, hb6⟩
  have B6 := Lib.hid (ext_trans B5.out (ext_trans (below_alloc _ _) hb6))
  clear hb6
  go_wp2_with fail
  refine (is_true 65535 _ _ _ _ (by decide) (Sl.new x6 [239, 191, 191] 5 .u8 (by decide))).mono ?_
  rintro e x7 ⟨rfl, hb7⟩
  have B7 := Lib.hid (ext_trans B6.out (ext_trans (below_alloc _ _) hb7))
  clear hb7
  go_wp2_with fail
  refine (is_true 65536 _ _ _ _ (by decide) (Sl.new x7 [240, 144, 128, 128] 5 .u8 (by decide))).mono ?_
  rintro e x8 ⟨rfl, hb8⟩
  have B8 := Lib.hid (ext_trans B7.out (ext_trans (below_alloc _ _) hb8))
  clear hb8
  go_wp2_with fail
  refine (is_true 1114111 _ _ _ _ (by decide) (Sl.new x8 [244, 143, 191, 191] 5 .u8 (by decide))).mono ?_
  rintro e x9 ⟨rfl, hb9⟩
  have B9 := Lib.hid (ext_trans B8.out (ext_trans (below_alloc _ _) hb9))
  clear hb9
  clear B0 B1 B2 B3 B4 B5 B6 B7 B8
  go_wp2_with fail
  have R1 : Hid (Row .i64 (x9.alloc (.cells #[.int .i64 (-1), .int .i64 55296, .int .i64 57343, .int .i64 1114112, .int .i64 4611686018427387904, .int .i64 (-9223372036854775808)] 3)) (some ⟨x9.heap.size, 0, none⟩) 6 nots) := Row.new x9 nots 3 .i64
  have C1 : Hid (Below w.heap.size w (x9.alloc (.cells #[.int .i64 (-1), .int .i64 55296, .int .i64 57343, .int .i64 1114112, .int .i64 4611686018427387904, .int .i64 (-9223372036854775808)] 3))) := ext_trans B9.out (below_alloc _ _)
  clear B9
  generalize (x9.alloc (.cells #[.int .i64 (-1), .int .i64 55296, .int .i64 57343, .int .i64 1114112, .int .i64 4611686018427387904, .int .i64 (-9223372036854775808)] 3)) = W1 at *
  go_loop [75] (fun ix => ∃ k : Nat, k ≤ 6 ∧ ix = .int .i64 k) (fun ix => 6 - (intOf ix).toNat)
  case atStart => exact ⟨0, by omega, rfl⟩
  case round =>
    obtain ⟨k, hk, rfl⟩ := hrel
    by_cases hk6 : k < 6
    · obtain ⟨b, off, c, e, hc, hcell, _⟩ := R1.out.look hk6
      obtain ⟨rfl, rfl⟩ : x9.heap.size = b ∧ 0 = off := by injection e with e; injection e with e1 e2; exact ⟨e1, e2⟩
      rw [Nat.zero_add] at hcell
      have hf : Utf.form c = 0 := nots_are c (List.mem_of_getElem? hc)
      have HF := Lib.hid hf
      clear hc e hf
      have i1 : (k : Int) < 6 := by omega
      go_wp2_with fail
      refine (encode_no c HF.out _).mono ?_
      rintro e w2 ⟨rfl, rfl⟩
      go_wp2
      go_round
      case rel => exact ⟨k + 1, by omega, by go_num⟩
      case measure => simp [intOf]; omega
    · obtain rfl : k = 6 := by omega
      go_wp2_with fail
      have T2 : Hid (∀ j, j < 16 → ∃ A n l, (((((((((((((((((W1.alloc (.cells #[.int .u8 128] 5)).alloc (.cells #[.int .u8 192, .int .u8 128] 5)).alloc (.cells #[.int .u8 193, .int .u8 191] 5)).alloc (.cells #[.int .u8 194, .int .u8 65] 5)).alloc (.cells #[.int .u8 224, .int .u8 159, .int .u8 191] 5)).alloc (.cells #[.int .u8 237, .int .u8 160, .int .u8 128] 5)).alloc (.cells #[.int .u8 237, .int .u8 160] 5)).alloc (.cells #[.int .u8 224, .int .u8 128] 5)).alloc (.cells #[.int .u8 240, .int .u8 143] 5)).alloc (.cells #[.int .u8 244, .int .u8 144] 5)).alloc (.cells #[.int .u8 244, .int .u8 144, .int .u8 128, .int .u8 128] 5)).alloc (.cells #[.int .u8 245] 5)).alloc (.cells #[.int .u8 255] 5)).alloc (.cells #[.int .u8 226, .int .u8 65] 5)).alloc (.cells #[.int .u8 226, .int .u8 130, .int .u8 65] 5)).alloc (.cells #[.int .u8 240, .int .u8 159, .int .u8 152, .int .u8 65] 5)).alloc (.cells #[.slice (some ⟨W1.heap.size, 0, none⟩) 1 1, .slice (some ⟨W1.heap.size + 1, 0, none⟩) 2 2, .slice (some ⟨W1.heap.size + 1 + 1, 0, none⟩) 2 2, .slice (some ⟨W1.heap.size + 1 + 1 + 1, 0, none⟩) 2 2, .slice (some ⟨W1.heap.size + 1 + 1 + 1 + 1, 0, none⟩) 3 3, .slice (some ⟨W1.heap.size + 1 + 1 + 1 + 1 + 1, 0, none⟩) 3 3, .slice (some ⟨W1.heap.size + 1 + 1 + 1 + 1 + 1 + 1, 0, none⟩) 2 2, .slice (some ⟨W1.heap.size + 1 + 1 + 1 + 1 + 1 + 1 + 1, 0, none⟩) 2 2, .slice (some ⟨W1.heap.size + 1 + 1 + 1 + 1 + 1 + 1 + 1 + 1, 0, none⟩) 2 2, .slice (some ⟨W1.heap.size + 1 + 1 + 1 + 1 + 1 + 1 + 1 + 1 + 1, 0, none⟩) 2 2, .slice (some ⟨W1.heap.size + 1 + 1 + 1 + 1 + 1 + 1 + 1 + 1 + 1 + 1, 0, none⟩) 4 4, .slice (some ⟨W1.heap.size + 1 + 1 + 1 + 1 + 1 + 1 + 1 + 1 + 1 + 1 + 1, 0, none⟩) 1 1, .slice (some ⟨W1.heap.size + 1 + 1 + 1 + 1 + 1 + 1 + 1 + 1 + 1 + 1 + 1 + 1, 0, none⟩) 1 1, .slice (some ⟨W1.heap.size + 1 + 1 + 1 + 1 + 1 + 1 + 1 + 1 + 1 + 1 + 1 + 1 + 1, 0, none⟩) 2 2, .slice (some ⟨W1.heap.size + 1 + 1 + 1 + 1 + 1 + 1 + 1 + 1 + 1 + 1 + 1 + 1 + 1 + 1, 0, none⟩) 3 3, .slice (some ⟨W1.heap.size + 1 + 1 + 1 + 1 + 1 + 1 + 1 + 1 + 1 + 1 + 1 + 1 + 1 + 1 + 1, 0, none⟩) 4 4] 22)).cell? ⟨W1.heap.size + 1 + 1 + 1 + 1 + 1 + 1 + 1 + 1 + 1 + 1 + 1 + 1 + 1 + 1 + 1 + 1, j, none⟩ = some (.slice A n n) ∧ Sl .u8 (((((((((((((((((W1.alloc (.cells #[.int .u8 128] 5)).alloc (.cells #[.int .u8 192, .int .u8 128] 5)).alloc (.cells #[.int .u8 193, .int .u8 191] 5)).alloc (.cells #[.int .u8 194, .int .u8 65] 5)).alloc (.cells #[.int .u8 224, .int .u8 159, .int .u8 191] 5)).alloc (.cells #[.int .u8 237, .int .u8 160, .int .u8 128] 5)).alloc (.cells #[.int .u8 237, .int .u8 160] 5)).alloc (.cells #[.int .u8 224, .int .u8 128] 5)).alloc (.cells #[.int .u8 240, .int .u8 143] 5)).alloc (.cells #[.int .u8 244, .int .u8 144] 5)).alloc (.cells #[.int .u8 244, .int .u8 144, .int .u8 128, .int .u8 128] 5)).alloc (.cells #[.int .u8 245] 5)).alloc (.cells #[.int .u8 255] 5)).alloc (.cells #[.int .u8 226, .int .u8 65] 5)).alloc (.cells #[.int .u8 226, .int .u8 130, .int .u8 65] 5)).alloc (.cells #[.int .u8 240, .int .u8 159, .int .u8 152, .int .u8 65] 5)).alloc (.cells #[.slice (some ⟨W1.heap.size, 0, none⟩) 1 1, .slice (some ⟨W1.heap.size + 1, 0, none⟩) 2 2, .slice (some ⟨W1.heap.size + 1 + 1, 0, none⟩) 2 2, .slice (some ⟨W1.heap.size + 1 + 1 + 1, 0, none⟩) 2 2, .slice (some ⟨W1.heap.size + 1 + 1 + 1 + 1, 0, none⟩) 3 3, .slice (some ⟨W1.heap.size + 1 + 1 + 1 + 1 + 1, 0, none⟩) 3 3, .slice (some ⟨W1.heap.size + 1 + 1 + 1 + 1 + 1 + 1, 0, none⟩) 2 2, .slice (some ⟨W1.heap.size + 1 + 1 + 1 + 1 + 1 + 1 + 1, 0, none⟩) 2 2, .slice (some ⟨W1.heap.size + 1 + 1 + 1 + 1 + 1 + 1 + 1 + 1, 0, none⟩) 2 2, .slice (some ⟨W1.heap.size + 1 + 1 + 1 + 1 + 1 + 1 + 1 + 1 + 1, 0, none⟩) 2 2, .slice (some ⟨W1.heap.size + 1 + 1 + 1 + 1 + 1 + 1 + 1 + 1 + 1 + 1, 0, none⟩) 4 4, .slice (some ⟨W1.heap.size + 1 + 1 + 1 + 1 + 1 + 1 + 1 + 1 + 1 + 1 + 1, 0, none⟩) 1 1, .slice (some ⟨W1.heap.size + 1 + 1 + 1 + 1 + 1 + 1 + 1 + 1 + 1 + 1 + 1 + 1, 0, none⟩) 1 1, .slice (some ⟨W1.heap.size + 1 + 1 + 1 + 1 + 1 + 1 + 1 + 1 + 1 + 1 + 1 + 1 + 1, 0, none⟩) 2 2, .slice (some ⟨W1.heap.size + 1 + 1 + 1 + 1 + 1 + 1 + 1 + 1 + 1 + 1 + 1 + 1 + 1 + 1, 0, none⟩) 3 3, .slice (some ⟨W1.heap.size + 1 + 1 + 1 + 1 + 1 + 1 + 1 + 1 + 1 + 1 + 1 + 1 + 1 + 1 + 1, 0, none⟩) 4 4] 22)) A n n l ∧ (IsB l ∧ decAt l 0 = (0, 0, 10))) := tbl_look (k := .u8) (e := 5) W1 22 bads bads_short _ bads_are
      have C2 : Hid (Below w.heap.size w (((((((((((((((((W1.alloc (.cells #[.int .u8 128] 5)).alloc (.cells #[.int .u8 192, .int .u8 128] 5)).alloc (.cells #[.int .u8 193, .int .u8 191] 5)).alloc (.cells #[.int .u8 194, .int .u8 65] 5)).alloc (.cells #[.int .u8 224, .int .u8 159, .int .u8 191] 5)).alloc (.cells #[.int .u8 237, .int .u8 160, .int .u8 128] 5)).alloc (.cells #[.int .u8 237, .int .u8 160] 5)).alloc (.cells #[.int .u8 224, .int .u8 128] 5)).alloc (.cells #[.int .u8 240, .int .u8 143] 5)).alloc (.cells #[.int .u8 244, .int .u8 144] 5)).alloc (.cells #[.int .u8 244, .int .u8 144, .int .u8 128, .int .u8 128] 5)).alloc (.cells #[.int .u8 245] 5)).alloc (.cells #[.int .u8 255] 5)).alloc (.cells #[.int .u8 226, .int .u8 65] 5)).alloc (.cells #[.int .u8 226, .int .u8 130, .int .u8 65] 5)).alloc (.cells #[.int .u8 240, .int .u8 159, .int .u8 152, .int .u8 65] 5)).alloc (.cells #[.slice (some ⟨W1.heap.size, 0, none⟩) 1 1, .slice (some ⟨W1.heap.size + 1, 0, none⟩) 2 2, .slice (some ⟨W1.heap.size + 1 + 1, 0, none⟩) 2 2, .slice (some ⟨W1.heap.size + 1 + 1 + 1, 0, none⟩) 2 2, .slice (some ⟨W1.heap.size + 1 + 1 + 1 + 1, 0, none⟩) 3 3, .slice (some ⟨W1.heap.size + 1 + 1 + 1 + 1 + 1, 0, none⟩) 3 3, .slice (some ⟨W1.heap.size + 1 + 1 + 1 + 1 + 1 + 1, 0, none⟩) 2 2, .slice (some ⟨W1.heap.size + 1 + 1 + 1 + 1 + 1 + 1 + 1, 0, none⟩) 2 2, .slice (some ⟨W1.heap.size + 1 + 1 + 1 + 1 + 1 + 1 + 1 + 1, 0, none⟩) 2 2, .slice (some ⟨W1.heap.size + 1 + 1 + 1 + 1 + 1 + 1 + 1 + 1 + 1, 0, none⟩) 2 2, .slice (some ⟨W1.heap.size + 1 + 1 + 1 + 1 + 1 + 1 + 1 + 1 + 1 + 1, 0, none⟩) 4 4, .slice (some ⟨W1.heap.size + 1 + 1 + 1 + 1 + 1 + 1 + 1 + 1 + 1 + 1 + 1, 0, none⟩) 1 1, .slice (some ⟨W1.heap.size + 1 + 1 + 1 + 1 + 1 + 1 + 1 + 1 + 1 + 1 + 1 + 1, 0, none⟩) 1 1, .slice (some ⟨W1.heap.size + 1 + 1 + 1 + 1 + 1 + 1 + 1 + 1 + 1 + 1 + 1 + 1 + 1, 0, none⟩) 2 2, .slice (some ⟨W1.heap.size + 1 + 1 + 1 + 1 + 1 + 1 + 1 + 1 + 1 + 1 + 1 + 1 + 1 + 1, 0, none⟩) 3 3, .slice (some ⟨W1.heap.size + 1 + 1 + 1 + 1 + 1 + 1 + 1 + 1 + 1 + 1 + 1 + 1 + 1 + 1 + 1, 0, none⟩) 4 4] 22))) := ext_trans C1.out (ext_trans (tbl_below (k := .u8) (e := 5) bads W1) (below_alloc _ _))
      generalize (((((((((((((((((W1.alloc (.cells #[.int .u8 128] 5)).alloc (.cells #[.int .u8 192, .int .u8 128] 5)).alloc (.cells #[.int .u8 193, .int .u8 191] 5)).alloc (.cells #[.int .u8 194, .int .u8 65] 5)).alloc (.cells #[.int .u8 224, .int .u8 159, .int .u8 191] 5)).alloc (.cells #[.int .u8 237, .int .u8 160, .int .u8 128] 5)).alloc (.cells #[.int .u8 237, .int .u8 160] 5)).alloc (.cells #[.int .u8 224, .int .u8 128] 5)).alloc (.cells #[.int .u8 240, .int .u8 143] 5)).alloc (.cells #[.int .u8 244, .int .u8 144] 5)).alloc (.cells #[.int .u8 244, .int .u8 144, .int .u8 128, .int .u8 128] 5)).alloc (.cells #[.int .u8 245] 5)).alloc (.cells #[.int .u8 255] 5)).alloc (.cells #[.int .u8 226, .int .u8 65] 5)).alloc (.cells #[.int .u8 226, .int .u8 130, .int .u8 65] 5)).alloc (.cells #[.int .u8 240, .int .u8 159, .int .u8 152, .int .u8 65] 5)).alloc (.cells #[.slice (some ⟨W1.heap.size, 0, none⟩) 1 1, .slice (some ⟨W1.heap.size + 1, 0, none⟩) 2 2, .slice (some ⟨W1.heap.size + 1 + 1, 0, none⟩) 2 2, .slice (some ⟨W1.heap.size + 1 + 1 + 1, 0, none⟩) 2 2, .slice (some ⟨W1.heap.size + 1 + 1 + 1 + 1, 0, none⟩) 3 3, .slice (some ⟨W1.heap.size + 1 + 1 + 1 + 1 + 1, 0, none⟩) 3 3, .slice (some ⟨W1.heap.size + 1 + 1 + 1 + 1 + 1 + 1, 0, none⟩) 2 2, .slice (some ⟨W1.heap.size + 1 + 1 + 1 + 1 + 1 + 1 + 1, 0, none⟩) 2 2, .slice (some ⟨W1.heap.size + 1 + 1 + 1 + 1 + 1 + 1 + 1 + 1, 0, none⟩) 2 2, .slice (some ⟨W1.heap.size + 1 + 1 + 1 + 1 + 1 + 1 + 1 + 1 + 1, 0, none⟩) 2 2, .slice (some ⟨W1.heap.size + 1 + 1 + 1 + 1 + 1 + 1 + 1 + 1 + 1 + 1, 0, none⟩) 4 4, .slice (some ⟨W1.heap.size + 1 + 1 + 1 + 1 + 1 + 1 + 1 + 1 + 1 + 1 + 1, 0, none⟩) 1 1, .slice (some ⟨W1.heap.size + 1 + 1 + 1 + 1 + 1 + 1 + 1 + 1 + 1 + 1 + 1 + 1, 0, none⟩) 1 1, .slice (some ⟨W1.heap.size + 1 + 1 + 1 + 1 + 1 + 1 + 1 + 1 + 1 + 1 + 1 + 1 + 1, 0, none⟩) 2 2, .slice (some ⟨W1.heap.size + 1 + 1 + 1 + 1 + 1 + 1 + 1 + 1 + 1 + 1 + 1 + 1 + 1 + 1, 0, none⟩) 3 3, .slice (some ⟨W1.heap.size + 1 + 1 + 1 + 1 + 1 + 1 + 1 + 1 + 1 + 1 + 1 + 1 + 1 + 1 + 1, 0, none⟩) 4 4] 22)) = W2 at *
      clear C1 R1
      generalize W1.heap.size + 1 + 1 + 1 + 1 + 1 + 1 + 1 + 1 + 1 + 1 + 1 + 1 + 1 + 1 + 1 + 1 = O2 at *
      go_loop [7] (fun ix => ∃ k : Nat, k ≤ 16 ∧ ix = .int .i64 k) (fun ix => 16 - (intOf ix).toNat)
      case atStart => exact ⟨0, by omega, rfl⟩
      case round =>
        obtain ⟨k, hk, rfl⟩ := hrel
        by_cases hk6 : k < 16
        · obtain ⟨A, n, l, hcell, hs, hB, hd⟩ := T2.out k hk6
          have HS := Lib.hid hs
          have HB := Lib.hid hB
          have HD := Lib.hid hd
          clear hs hB hd
          have i1 : (k : Int) < 16 := by omega
          go_wp2_with fail
          refine (decode_at _ _ _ _ l _ HS.out HB.out HD.out).mono ?_
          rintro e w2 ⟨rfl, rfl⟩
          go_wp2
          go_round
          case rel => exact ⟨k + 1, by omega, by go_num⟩
          case measure => simp [intOf]; omega
        · obtain rfl : k = 16 := by omega
          go_wp2_with fail
          have T3 : Hid (∀ j, j < 7 → ∃ A n l, ((((((((W2.alloc (.cells #[.int .u8 194] 5)).alloc (.cells #[.int .u8 224] 5)).alloc (.cells #[.int .u8 224, .int .u8 160] 5)).alloc (.cells #[.int .u8 237, .int .u8 159] 5)).alloc (.cells #[.int .u8 240] 5)).alloc (.cells #[.int .u8 240, .int .u8 144] 5)).alloc (.cells #[.int .u8 244, .int .u8 143, .int .u8 191] 5)).alloc (.cells #[.slice (some ⟨W2.heap.size, 0, none⟩) 1 1, .slice (some ⟨W2.heap.size + 1, 0, none⟩) 1 1, .slice (some ⟨W2.heap.size + 1 + 1, 0, none⟩) 2 2, .slice (some ⟨W2.heap.size + 1 + 1 + 1, 0, none⟩) 2 2, .slice (some ⟨W2.heap.size + 1 + 1 + 1 + 1, 0, none⟩) 1 1, .slice (some ⟨W2.heap.size + 1 + 1 + 1 + 1 + 1, 0, none⟩) 2 2, .slice (some ⟨W2.heap.size + 1 + 1 + 1 + 1 + 1 + 1, 0, none⟩) 3 3] 22)).cell? ⟨W2.heap.size + 1 + 1 + 1 + 1 + 1 + 1 + 1, j, none⟩ = some (.slice A n n) ∧ Sl .u8 ((((((((W2.alloc (.cells #[.int .u8 194] 5)).alloc (.cells #[.int .u8 224] 5)).alloc (.cells #[.int .u8 224, .int .u8 160] 5)).alloc (.cells #[.int .u8 237, .int .u8 159] 5)).alloc (.cells #[.int .u8 240] 5)).alloc (.cells #[.int .u8 240, .int .u8 144] 5)).alloc (.cells #[.int .u8 244, .int .u8 143, .int .u8 191] 5)).alloc (.cells #[.slice (some ⟨W2.heap.size, 0, none⟩) 1 1, .slice (some ⟨W2.heap.size + 1, 0, none⟩) 1 1, .slice (some ⟨W2.heap.size + 1 + 1, 0, none⟩) 2 2, .slice (some ⟨W2.heap.size + 1 + 1 + 1, 0, none⟩) 2 2, .slice (some ⟨W2.heap.size + 1 + 1 + 1 + 1, 0, none⟩) 1 1, .slice (some ⟨W2.heap.size + 1 + 1 + 1 + 1 + 1, 0, none⟩) 2 2, .slice (some ⟨W2.heap.size + 1 + 1 + 1 + 1 + 1 + 1, 0, none⟩) 3 3] 22)) A n n l ∧ (IsB l ∧ decAt l 0 = (0, 0, 3) ∧ chk (65 :: l) = (1, 1, 3) ∧ l.length ≤ 4)) := tbl_look (k := .u8) (e := 5) W2 22 pieces pieces_short _ pieces_are
          have C3 : Hid (Below w.heap.size w ((((((((W2.alloc (.cells #[.int .u8 194] 5)).alloc (.cells #[.int .u8 224] 5)).alloc (.cells #[.int .u8 224, .int .u8 160] 5)).alloc (.cells #[.int .u8 237, .int .u8 159] 5)).alloc (.cells #[.int .u8 240] 5)).alloc (.cells #[.int .u8 240, .int .u8 144] 5)).alloc (.cells #[.int .u8 244, .int .u8 143, .int .u8 191] 5)).alloc (.cells #[.slice (some ⟨W2.heap.size, 0, none⟩) 1 1, .slice (some ⟨W2.heap.size + 1, 0, none⟩) 1 1, .slice (some ⟨W2.heap.size + 1 + 1, 0, none⟩) 2 2, .slice (some ⟨W2.heap.size + 1 + 1 + 1, 0, none⟩) 2 2, .slice (some ⟨W2.heap.size + 1 + 1 + 1 + 1, 0, none⟩) 1 1, .slice (some ⟨W2.heap.size + 1 + 1 + 1 + 1 + 1, 0, none⟩) 2 2, .slice (some ⟨W2.heap.size + 1 + 1 + 1 + 1 + 1 + 1, 0, none⟩) 3 3] 22))) := ext_trans C2.out (ext_trans (tbl_below (k := .u8) (e := 5) pieces W2) (below_alloc _ _))
          generalize ((((((((W2.alloc (.cells #[.int .u8 194] 5)).alloc (.cells #[.int .u8 224] 5)).alloc (.cells #[.int .u8 224, .int .u8 160] 5)).alloc (.cells #[.int .u8 237, .int .u8 159] 5)).alloc (.cells #[.int .u8 240] 5)).alloc (.cells #[.int .u8 240, .int .u8 144] 5)).alloc (.cells #[.int .u8 244, .int .u8 143, .int .u8 191] 5)).alloc (.cells #[.slice (some ⟨W2.heap.size, 0, none⟩) 1 1, .slice (some ⟨W2.heap.size + 1, 0, none⟩) 1 1, .slice (some ⟨W2.heap.size + 1 + 1, 0, none⟩) 2 2, .slice (some ⟨W2.heap.size + 1 + 1 + 1, 0, none⟩) 2 2, .slice (some ⟨W2.heap.size + 1 + 1 + 1 + 1, 0, none⟩) 1 1, .slice (some ⟨W2.heap.size + 1 + 1 + 1 + 1 + 1, 0, none⟩) 2 2, .slice (some ⟨W2.heap.size + 1 + 1 + 1 + 1 + 1 + 1, 0, none⟩) 3 3] 22)) = W3 at *
          clear C2 T2
          generalize W2.heap.size + 1 + 1 + 1 + 1 + 1 + 1 + 1 = O3 at *
          obtain ⟨i0, hi, hz0, hz1, hz2⟩ := info_parts u8_info
          go_loopw [12] (fun ix wr => ∃ k : Nat, k ≤ 7 ∧ ix = .int .i64 k ∧ Below W3.heap.size W3 wr) (fun ix _ => 7 - (intOf ix).toNat)
          case atStart => exact ⟨0, by omega, rfl, Below.refl _ _⟩
          case round =>
            obtain ⟨k, hk, rfl, hbel⟩ := hrel
            have HBE := Lib.hid hbel
            clear hbel
            by_cases hk6 : k < 7
            · obtain ⟨A, n, l, hcell, hs, hB, hd, hch, hl4⟩ := T3.out k hk6
              have hlt : O3 < W3.heap.size := lt_of_cell (p := ⟨O3, k, none⟩) hcell
              have hcell' : wr.cell? ⟨O3, k, none⟩ = some (.slice A n n) := (HBE.out.cell (p := ⟨O3, k, none⟩) hlt).trans hcell
              have hcell2 : (wr.alloc (.cells #[.int .u8 65] 5)).cell? ⟨O3, k, none⟩ = some (.slice A n n) := (World.cell?_alloc_lt wr _ ⟨O3, k, none⟩ (lt_of_cell (p := ⟨O3, k, none⟩) hcell')).trans hcell'
              have HS := Lib.hid (hs.below HBE.out)
              have HB := Lib.hid hB
              have HD := Lib.hid hd
              have HCH := Lib.hid hch
              have hn4 : n ≤ 4 := by rw [← hs.len]; exact hl4
              have HB65 : Hid (IsB (65 :: l)) := by
                intro x hx
                rcases List.mem_cons.1 hx with rfl | hx
                · omega
                · exact hB x hx
              clear hs hB hd hch hcell
              have i1 : (k : Int) < 7 := by omega
              have ON : Hid (Own .u8 5 (wr.alloc (.cells #[.int .u8 65] 5)) wr.heap.size (.slice (some ⟨wr.heap.size, 0, none⟩) 1 1) [65]) := Own.new wr [65] 5 .u8 (by decide) (Nat.le_refl _)
              have S2 := Lib.hid (HS.out.alloc (.cells #[.int .u8 65] 5))
              go_wp2_with fail
              refine (decode_at _ _ _ _ l _ HS.out HB.out HD.out).mono ?_
              rintro e w2 ⟨rfl, rfl⟩
              go_wp2_with (at_builtin; refine wp_app rfl _ _ _ rfl wr.heap.size Try.underlying22 hi hz0 hz1 hz2 rfl rfl ON.out rfl S2.out (by simp only [List.length_cons, List.length_nil]; omega) (by unfold maxLen; simp only [List.length_cons, List.length_nil]; omega) (by simp) ?_; intro v3 w3 ho3 hb3 _)
              obtain ⟨A3, c3, hv3, t3, _⟩ := ho3.sl
              rw [hv3]
              clear hv3
              refine (check_at _ _ _ (65 :: l) _ t3 HB65.out HCH.out).mono ?_
              rintro e w4 ⟨rfl, rfl⟩
              have HB3 := Lib.hid (ext_trans HBE.out ((below_alloc wr _).trans hb3))
              clear ho3 hb3 t3
              go_wp2
              go_roundw
              case rel => exact ⟨k + 1, by omega, by go_num, HB3.out⟩
              case measure => simp [intOf]; omega
            · obtain rfl : k = 7 := by omega
              have CC := Lib.hid (ext_trans C3.out HBE.out)
              clear C3 HBE T3
              go_wp2_with fail
              refine (decode_at _ _ _ _ [65] _ (show Sl .u8 (wr.alloc (.cells #[.int .u8 65] 5)) (some ⟨wr.heap.size, 0, none⟩) 1 1 [65] from Sl.new wr [65] 5 .u8 (by decide)) (by unfold IsB; decide) (show decAt [65] 1 = (0, 0, 9) by decide)).mono ?_
              rintro e w4 ⟨rfl, rfl⟩
              have C4 := Lib.hid (ext_trans CC.out (below_alloc wr (.cells #[.int .u8 65] 5)))
              generalize wr.alloc (.cells #[.int .u8 65] 5) = Y1 at *
              go_wp2_with fail
              refine (decode_at _ _ _ _ [65] _ (show Sl .u8 (Y1.alloc (.cells #[.int .u8 65] 5)) (some ⟨Y1.heap.size, 0, none⟩) 1 1 [65] from Sl.new Y1 [65] 5 .u8 (by decide)) (by unfold IsB; decide) (show decAt [65] (-1) = (0, 0, 9) by decide)).mono ?_
              rintro e w4 ⟨rfl, rfl⟩
              have C5 := Lib.hid (ext_trans C4.out (below_alloc Y1 (.cells #[.int .u8 65] 5)))
              generalize Y1.alloc (.cells #[.int .u8 65] 5) = Y2 at *
              go_wp2_with fail
              refine (decode_at _ _ _ _ [] _ Sl.none_ (by unfold IsB; decide) (show decAt [] 0 = (0, 0, 9) by decide)).mono ?_
              rintro e w4 ⟨rfl, rfl⟩
              go_wp2_with fail
              refine (check_at _ _ _ [65, 255] _ (show Sl .u8 (Y2.alloc (.cells #[.int .u8 65, .int .u8 255] 5)) (some ⟨Y2.heap.size, 0, none⟩) 2 2 [65, 255] from Sl.new Y2 [65, 255] 5 .u8 (by decide)) (by unfold IsB; decide) (show chk [65, 255] = (1, 1, 10) by decide)).mono ?_
              rintro e w4 ⟨rfl, rfl⟩
              have C6 := Lib.hid (ext_trans C5.out (below_alloc Y2 (.cells #[.int .u8 65, .int .u8 255] 5)))
              generalize Y2.alloc (.cells #[.int .u8 65, .int .u8 255] 5) = Y3 at *
              go_wp2_with fail
              refine (count_at _ _ _ [65, 195, 164] _ (show Sl .u8 (Y3.alloc (.cells #[.int .u8 65, .int .u8 195, .int .u8 164] 5)) (some ⟨Y3.heap.size, 0, none⟩) 3 3 [65, 195, 164] from Sl.new Y3 [65, 195, 164] 5 .u8 (by decide)) (by unfold IsB; decide) (show chk [65, 195, 164] = (3, 2, 0) by decide)).mono ?_
              rintro e w4 ⟨rfl, rfl⟩
              rw [show cnt 2 0 = 2 from rfl]
              have C7 := Lib.hid (ext_trans C6.out (below_alloc Y3 (.cells #[.int .u8 65, .int .u8 195, .int .u8 164] 5)))
              generalize Y3.alloc (.cells #[.int .u8 65, .int .u8 195, .int .u8 164] 5) = Y4 at *
              go_wp2_with fail
              refine (count_at _ _ _ [] _ Sl.none_ (by unfold IsB; decide) chk_nil).mono ?_
              rintro e w4 ⟨rfl, rfl⟩
              rw [show cnt 0 0 = 0 from rfl]
              go_wp2_with fail
              refine (count_at _ _ _ [65, 195] _ (show Sl .u8 (Y4.alloc (.cells #[.int .u8 65, .int .u8 195] 5)) (some ⟨Y4.heap.size, 0, none⟩) 2 2 [65, 195] from Sl.new Y4 [65, 195] 5 .u8 (by decide)) (by unfold IsB; decide) (show chk [65, 195] = (1, 1, 3) by decide)).mono ?_
              rintro e w4 ⟨rfl, rfl⟩
              rw [show cnt 1 3 = 0 from rfl]
              have C8 := Lib.hid (ext_trans C7.out (below_alloc Y4 (.cells #[.int .u8 65, .int .u8 195] 5)))
              generalize Y4.alloc (.cells #[.int .u8 65, .int .u8 195] 5) = Y5 at *
              go_wp2_with fail
              refine (works_true _).mono ?_
              rintro e w9 ⟨rfl, hb9⟩
              go_wp2
              go_ret
              exact ⟨rfl, ext_trans C8.out hb9⟩
end Go.Proofs.Ytjicaoljecpapaa
