/-
  Decode at a place, with its answer named; worlds one behind the other.
-/
import Derived.Test.YtjkaccmhpilojaaWe
import Derived.Test.YtjkaccmhpilojaaWrd
namespace Go.Proofs.Ytjkaccmhpilojaa
set_option linter.unusedVariables false
open Go.RowKit
namespace Wi
open Utf Wd Wr We

theorem decode_at (A : Option Addr) (n cp : Nat) (i : Int) (l : List Int) (w : World) (hr : Sl .u8 w A n cp l) (hb : IsB l) {c s e : Int} (h : decAt l i = (c, s, e)) :
    Calls Try.prog 46 #[.slice A n cp, .int .i64 i] w fun r w' => r = .returned (.tuple #[.int .i64 c, .int .i64 s, .int .i64 e]) ∧ w = w' := by
  have := decode_any A n cp i l w hr.row hb hr.le hr.max
  rw [h] at this
  exact this

theorem decAt0 {l : List Int} (h : l ≠ []) : decAt l 0 = dec l := by
  unfold decAt; rw [if_neg]; · rfl
  · have := List.length_pos_iff.2 h; omega

theorem decAt_out {l : List Int} {i : Int} (h : i < 0 ∨ (l.length : Int) ≤ i) : decAt l i = (0, 0, 9) := by unfold decAt; rw [if_pos h]
theorem decAt_in {l : List Int} {i : Nat} (h : i < l.length) : decAt l (i : Int) = dec (l.drop i) := by
  unfold decAt; rw [if_neg (by omega), Int.toNat_natCast]

theorem below_alloc (w : World) (o : Obj) : Below w.heap.size w (w.alloc o) := (Below.refl _ _).alloc (Nat.le_refl _) o

theorem ext_trans {a b c : World} (h : Below a.heap.size a b) (k : Below b.heap.size b c) : Below a.heap.size a c := h.trans (k.mono h.size)

end Wi
end Go.Proofs.Ytjkaccmhpilojaa
