/-
  The walk of NumberSame.
-/
import Derived.Test.YtjgkaccmfdjffaaDoorOc
import Derived.Test.YtjgkaccmfdjffaaDoorWp
namespace Go.Proofs.YtjgkaccmfdjffaaDoor
set_option linter.unusedVariables false
open Go.RowKit Go.ChangeShapes Go.WideShapes
open Wd We Nu

theorem walk_NumberSame (a0 : ByteArray) (a1 : ByteArray) (w : World) (w0 : a0.size ≤ maxLen) (z0 : a0.size ≤ 140737488351232) (w1 : a1.size ≤ maxLen) (z1 : a1.size ≤ 140737488351232) :
    Calls Tryd.prog 4 #[.string a0, .string a1] w fun e w' => e = .returned (.bool true) ∧ Below w.heap.size w w' := by
  exact walk_same a0 a1 w z0 z1
end Go.Proofs.YtjgkaccmfdjffaaDoor
