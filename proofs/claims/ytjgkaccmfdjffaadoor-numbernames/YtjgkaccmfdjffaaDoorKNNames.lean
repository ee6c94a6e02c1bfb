/-
  The walk of NumberNames.
-/
import Derived.Test.YtjgkaccmfdjffaaDoorOi
import Derived.Test.YtjgkaccmfdjffaaDoorWp
namespace Go.Proofs.YtjgkaccmfdjffaaDoor
set_option linter.unusedVariables false
open Go.RowKit Go.ChangeShapes Go.WideShapes
open Wd We Nu

theorem walk_NumberNames  (w : World)  :
    Calls Tryd.prog 11 #[] w fun e w' => e = .returned (.bool true) ∧ Below w.heap.size w w' := by
  exact core_NumberNames w
end Go.Proofs.YtjgkaccmfdjffaaDoor
