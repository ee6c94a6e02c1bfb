/-
  The walk of EscapePairs.
-/
import Derived.Test.YtjkaccmhpilojaaEl
import Derived.Test.YtjkaccmhpilojaaEq
import Derived.Test.YtjkaccmhpilojaaWp
namespace Go.Proofs.Ytjkaccmhpilojaa
set_option linter.unusedVariables false
open Go.RowKit Go.ChangeShapes Go.WideShapes
open Wd We Utf Em

theorem walk_EscapePairs (a0 : Int) (a1 : Int) (a2 : Int) (w : World) (w0 : (Lit.int .i64 a0).wf = true) (w1 : (Lit.int .i64 a1).wf = true) (w2 : (Lit.int .i64 a2).wf = true) :
    Calls Try.prog 8 #[.int .i64 a0, .int .i64 a1, .int .i64 a2] w fun e w' => e = .returned (.bool true) ∧ Below w.heap.size w w' := by
  exact core_EscapePairs unq_ok quo_ok a0 a1 a2 w (i64_of w0).1 (i64_of w0).2 (i64_of w1).1 (i64_of w1).2 (i64_of w2).1 (i64_of w2).2
end Go.Proofs.Ytjkaccmhpilojaa
