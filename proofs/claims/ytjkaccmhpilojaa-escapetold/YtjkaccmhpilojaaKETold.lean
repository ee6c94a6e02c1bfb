/-
  The walk of EscapeTold.
-/
import Derived.Test.YtjkaccmhpilojaaEl
import Derived.Test.YtjkaccmhpilojaaEq
import Derived.Test.YtjkaccmhpilojaaWp
namespace Go.Proofs.Ytjkaccmhpilojaa
set_option linter.unusedVariables false
open Go.RowKit Go.ChangeShapes Go.WideShapes
open Wd We Utf Em

theorem walk_EscapeTold (A0 : Option Addr) (n0 c0 : Nat) (l0 : List Int) (a1 : Int) (w : World) (s0 : Sl .u8 w A0 n0 c0 l0) (b0 : ∀ x ∈ l0, (Lit.int .u8 x).wf = true) (z0 : c0 * 1 ≤ 140737488351232) (w1 : (Lit.int .i64 a1).wf = true) :
    Calls Try.prog 7 #[.slice A0 n0 c0, .int .i64 a1] w fun e w' => e = .returned (.bool true) ∧ Below w.heap.size w w' := by
  exact core_EscapeTold unq_ok quo_ok quo_wide A0 n0 c0 l0 a1 w s0 (isB_of b0) (by have := s0.le; omega) (i64_of w1).1 (i64_of w1).2
end Go.Proofs.Ytjkaccmhpilojaa
