/-
  The walk of EscapeQuotes.
-/
import Derived.Test.YtjkaccmhpilojaaEl
import Derived.Test.YtjkaccmhpilojaaEq
import Derived.Test.YtjkaccmhpilojaaWp
namespace Go.Proofs.Ytjkaccmhpilojaa
set_option linter.unusedVariables false
open Go.RowKit Go.ChangeShapes Go.WideShapes
open Wd We Utf Em

theorem walk_EscapeQuotes (a0 : ByteArray) (w : World) (w0 : a0.size ≤ maxLen) (z0 : a0.size ≤ 140737488351232) (u0 : a0.size ≤ 1048576) :
    Calls Try.prog 3 #[.string a0] w fun e w' => e = .returned (.bool true) ∧ Below w.heap.size w w' := by
  exact core_EscapeQuotes unq_ok quo_ok a0 (by omega) w
end Go.Proofs.Ytjkaccmhpilojaa
