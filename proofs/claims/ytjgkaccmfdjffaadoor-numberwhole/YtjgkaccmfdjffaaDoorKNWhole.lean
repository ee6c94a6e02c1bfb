/-
  The walk of NumberWhole.
-/
import Derived.Test.YtjgkaccmfdjffaaDoorOh
import Derived.Test.YtjgkaccmfdjffaaDoorWp
namespace Go.Proofs.YtjgkaccmfdjffaaDoor
set_option linter.unusedVariables false
open Go.RowKit Go.ChangeShapes Go.WideShapes
open Wd We Nu

theorem walk_NumberWhole (a0 : Int) (a1 : Int) (w : World) (w0 : (Lit.int .i64 a0).wf = true) (w1 : (Lit.int .i64 a1).wf = true) :
    Calls Tryd.prog 8 #[.int .i64 a0, .int .i64 a1] w fun e w' => e = .returned (.bool true) ∧ Below w.heap.size w w' := by
  exact core_NumberWhole num_ok a0 a1 w (i64_of w1).1 (i64_of w1).2
end Go.Proofs.YtjgkaccmfdjffaaDoor
