/-
  The walk of UnitsOffset.
-/
import Derived.Test.YtogljfblcbegbaaUs
import Derived.Test.YtogljfblcbegbaaWp
namespace Go.Proofs.Ytogljfblcbegbaa
set_option linter.unusedVariables false
open Go.RowKit Go.ChangeShapes Go.WideShapes
open Utf Wd Wr We Wi Wf Uw

/-- both answer the same, whatever the bytes and the number -/
theorem both_offset (l : List Int) (hb : IsB l) (m : Int) (hm : -9223372036854775808 ≤ m ∧ m ≤ 9223372036854775807) : ∃ x e : Int,
    (∀ A n cp (w : World), Sl .u8 w A n cp l → Calls Try.prog 22 #[.slice A n cp, .int .i64 m] w fun r w' => r = .returned (.tuple #[.int .i64 x, .int .i64 e]) ∧ w = w') ∧
    (∀ A n cp (w : World), Sl .u8 w A n cp l → Calls Try.prog 23 #[.slice A n cp, .int .i64 m] w fun r w' => r = .returned (.tuple #[.int .i64 x, .int .i64 e]) ∧ Below w.heap.size w w') := by
  rcases txt_or hb with ⟨cs, hc, rfl⟩ | ⟨x, y, er, he, hk⟩
  · by_cases hneg : m < 0
    · exact ⟨0, 9, fun A n cp w s => offset_neg A n cp cs w hc s m hneg, fun A n cp w s => roffset_neg A n cp cs w hc s m hneg⟩
    · obtain ⟨k, rfl⟩ := Int.eq_ofNat_of_zero_le (a := m) (by omega)
      exact ⟨_, 0, fun A n cp w s => offset_txt A n cp cs w hc s k (by omega), fun A n cp w s => roffset_txt A n cp cs w hc s k (by omega)⟩
  · exact ⟨0, er, fun A n cp w s => offset_bad A n cp l w s hb m hk he, fun A n cp w s => roffset_bad A n cp l w s hb m hk he⟩

set_option maxRecDepth 100000 in
set_option maxHeartbeats 1600000 in
theorem walk_UnitsOffset (A0 : Option Addr) (n0 c0 : Nat) (l0 : List Int) (a1 : Int) (w : World) (s0 : Sl .u8 w A0 n0 c0 l0) (b0 : ∀ x ∈ l0, (Lit.int .u8 x).wf = true) (z0 : c0 * 1 ≤ 140737488351232) (w1 : (Lit.int .i64 a1).wf = true) :
    Calls Try.prog 4 #[.slice A0 n0 c0, .int .i64 a1] w fun e w' => e = .returned (.bool true) ∧ Below w.heap.size w w' := by
  obtain ⟨x, er, h1, h2⟩ := both_offset l0 (isB_of b0) a1 (i64_of w1)
  have hle := s0.le
  have hlen := s0.len
  have S := Lib.hid s0
  have H1 := Lib.hid h1
  have H2 := Lib.hid h2
  have HL := Lib.hid hlen
  have hn : n0 ≤ 140737488355328 := by omega
  have q1 : (x == x) = true := by simp
  have q2 : (er == er) = true := by simp
  clear s0 b0 z0 w1 h1 h2 hlen
  go_enter Try.func4, Try.ntmps4
  go_wp2_with fail
  refine (copy_any _ _ _ _ _ S.out hn).mono ?_
  rintro e w1 ⟨v1, rfl, o1, hb1⟩
  obtain ⟨A1, c1, rfl, t1, _⟩ := o1.sl
  have T1 := Lib.hid t1
  have S1 := Lib.hid (S.out.below hb1)
  clear t1 o1
  go_wp2_with fail
  refine (H1.out _ _ _ _ T1.out).mono ?_
  rintro e w' ⟨rfl, rfl⟩
  go_wp2_with fail
  refine (H2.out _ _ _ _ S1.out).mono ?_
  rintro e w2 ⟨rfl, hb2⟩
  go_wp2_with fail
  refine (eq_any _ _ _ _ _ _ l0 l0 _ (T1.out.below hb2).row (S1.out.below hb2).row (by rw [HL.out]; unfold maxLen; omega)).mono ?_
  rintro e w3 ⟨rfl, q, rfl⟩
  rw [show decide (l0 = l0) = true from decide_eq_true rfl]
  go_wp2_with fail
  refine (works_true _).mono ?_
  rintro e w4 ⟨rfl, hb4⟩
  go_wp2
  go_ret
  exact ⟨rfl, ext_trans (below_drewN (ext_trans hb1 hb2) q) hb4⟩
end Go.Proofs.Ytogljfblcbegbaa
