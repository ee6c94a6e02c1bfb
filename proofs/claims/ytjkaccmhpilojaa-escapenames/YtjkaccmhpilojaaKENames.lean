/-
  The walk of EscapeNames.
-/
import Derived.Test.YtjkaccmhpilojaaEl
import Derived.Test.YtjkaccmhpilojaaEq
import Derived.Test.YtjkaccmhpilojaaWp
namespace Go.Proofs.Ytjkaccmhpilojaa
set_option linter.unusedVariables false
open Go.RowKit Go.ChangeShapes Go.WideShapes
open Wd We Utf Em

theorem walk_EscapeNames  (w : World)  :
    Calls Try.prog 9 #[] w fun e w' => e = .returned (.bool true) ∧ Below w.heap.size w w' := by
  exact core_EscapeNames unq_ok quo_ok w
end Go.Proofs.Ytjkaccmhpilojaa
