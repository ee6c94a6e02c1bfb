/-
  The walk of NumberInts.
-/
import Derived.Test.YtjgkaccmfdjffaaDoorOc
import Derived.Test.YtjgkaccmfdjffaaDoorWp
namespace Go.Proofs.YtjgkaccmfdjffaaDoor
set_option linter.unusedVariables false
open Go.RowKit Go.ChangeShapes Go.WideShapes
open Wd We Nu

theorem walk_NumberInts (a0 : ByteArray) (w : World) (w0 : a0.size ≤ maxLen) (z0 : a0.size ≤ 140737488351232) :
    Calls Tryd.prog 5 #[.string a0] w fun e w' => e = .returned (.bool true) ∧ Below w.heap.size w w' := by
  exact walk_ints a0 w z0
end Go.Proofs.YtjgkaccmfdjffaaDoor
