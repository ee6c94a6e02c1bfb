/-
  What 'is' and 'works' of the statements of layer 1 answer: true.
-/
import Derived.Test.YtjicaoljecpapaaWe
import Derived.Test.YtjicaoljecpapaaWrd
namespace Go.Proofs.Ytjicaoljecpapaa
set_option linter.unusedVariables false
open Go.RowKit
namespace Wi
open Utf Wd Wr We

theorem decode_at (A : Option Addr) (n cp : Nat) (i : Int) (l : List Int) (w : World) (hr : Sl .u8 w A n cp l) (hb : IsB l) {c s e : Int} (h : decAt l i = (c, s, e)) :
    Calls Try.prog 19 #[.slice A n cp, .int .i64 i] w fun r w' => r = .returned (.tuple #[.int .i64 c, .int .i64 s, .int .i64 e]) ∧ w = w' := by
  have := decode_any A n cp i l w hr.row hb hr.le hr.max
  rw [h] at this
  exact this

theorem decAt0 {l : List Int} (h : l ≠ []) : decAt l 0 = dec l := by
  unfold decAt; rw [if_neg]; · rfl
  · have := List.length_pos_iff.2 h; omega

theorem decAt_out {l : List Int} {i : Int} (h : i < 0 ∨ (l.length : Int) ≤ i) : decAt l i = (0, 0, 9) := by unfold decAt; rw [if_pos h]
theorem decAt_in {l : List Int} {i : Nat} (h : i < l.length) : decAt l (i : Int) = dec (l.drop i) := by
  unfold decAt; rw [if_neg (by omega), Int.toNat_natCast]

theorem below_alloc (w : World) (o : Obj) : Below w.heap.size w (w.alloc o) := (Below.refl _ _).alloc (Nat.le_refl _) o

theorem ext_trans {a b c : World} (h : Below a.heap.size a b) (k : Below b.heap.size b c) : Below a.heap.size a c := h.trans (k.mono h.size)

set_option maxHeartbeats 800000 in
theorem is_true (c : Int) (A : Option Addr) (n cp : Nat) (w : World) (hf : Utf.form c ≠ 0) (h : Sl .u8 w A n cp (enc c)) :
    Calls Try.prog 27 #[.int .i64 c, .slice A n cp] w fun e w' => e = .returned (.bool true) ∧ Below w.heap.size w w' := by
  have hne : enc c ≠ [] := by
    intro e; have := enc_length c; rw [e] at this; simp at this; omega
  have hd : decAt (enc c) 0 = (c, (n : Int), 0) := by
    rw [decAt0 hne]; have := dec_enc hf []; rw [List.append_nil] at this
    rw [this, ← enc_length, h.len]
  have H := Lib.hid h
  have HF := Lib.hid hf
  have HD := Lib.hid hd
  have hl : (enc c).length = n := h.len
  have HL := Lib.hid hl
  clear h hf hd hl hne
  have d1 : ((c : Int) == c) = true := by simp
  have d2 : ((n : Int) == (n : Int)) = true := by simp
  go_enter Try.func27, Try.ntmps27
  go_wp2_with fail
  refine (encode_ok c HF.out w).mono ?_
  rintro e w1 ⟨rfl, rfl⟩
  go_wp2_with fail
  refine (decode_at A n cp 0 (enc c) _ (H.out.alloc _) (enc_byte c) HD.out).mono ?_
  rintro e w2 ⟨rfl, rfl⟩
  go_wp2_with fail
  refine (eq_any _ _ _ _ _ _ (enc c) (enc c) _ (Row.new w (enc c) _ .u8) (H.out.alloc _).row (by have := H.out.le; have := H.out.max; rw [HL.out]; omega)).mono ?_
  rintro e w2 ⟨rfl, q, rfl⟩
  rw [decide_eq_true rfl]
  go_wp2
  go_ret
  exact ⟨rfl, below_drewN (below_alloc _ _) q⟩

set_option maxHeartbeats 800000 in
theorem works_true (w : World) : Calls Try.prog 17 #[] w fun e w' => e = .returned (.bool true) ∧ Below w.heap.size w w' := by
  go_enter Try.func17, Try.ntmps17
  go_wp2_with fail
  refine (is_true 65 _ _ _ _ (by decide) (Sl.new w [65] 5 .u8 (by decide))).mono ?_
  rintro e w1 ⟨rfl, hb1⟩
  go_wp2_with fail
  refine (is_true 228 _ _ _ _ (by decide) (Sl.new w1 [195, 164] 5 .u8 (by decide))).mono ?_
  rintro e w2 ⟨rfl, hb2⟩
  go_wp2_with fail
  refine (is_true 8364 _ _ _ _ (by decide) (Sl.new w2 [226, 130, 172] 5 .u8 (by decide))).mono ?_
  rintro e w3 ⟨rfl, hb3⟩
  go_wp2_with fail
  refine (is_true 128512 _ _ _ _ (by decide) (Sl.new w3 [240, 159, 152, 128] 5 .u8 (by decide))).mono ?_
  rintro e w4 ⟨rfl, hb4⟩
  go_wp2
  go_ret
  exact ⟨rfl, ext_trans (ext_trans (below_alloc _ _) hb1) (ext_trans (ext_trans (below_alloc _ _) hb2) (ext_trans (ext_trans (below_alloc _ _) hb3) (ext_trans (below_alloc _ _) hb4)))⟩
end Wi
end Go.Proofs.Ytjicaoljecpapaa
