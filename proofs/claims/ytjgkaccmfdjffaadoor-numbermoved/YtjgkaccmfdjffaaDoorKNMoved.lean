/-
  The walk of NumberMoved.
-/
import Derived.Test.YtjgkaccmfdjffaaDoorOb
import Derived.Test.YtjgkaccmfdjffaaDoorWp
namespace Go.Proofs.YtjgkaccmfdjffaaDoor
set_option linter.unusedVariables false
open Go.RowKit Go.ChangeShapes Go.WideShapes
open Wd We Nu

theorem walk_NumberMoved (A0 : Option Addr) (n0 c0 : Nat) (l0 : List Int) (A1 : Option Addr) (n1 c1 : Nat) (l1 : List Int) (a2 b2 e2 : Int) (w : World) (s0 : Sl .u8 w A0 n0 c0 l0) (b0 : ∀ x ∈ l0, (Lit.int .u8 x).wf = true) (z0 : c0 * 1 ≤ 140737488351232) (s1 : Sl .u8 w A1 n1 c1 l1) (b1 : ∀ x ∈ l1, (Lit.int .u8 x).wf = true) (z1 : c1 * 1 ≤ 140737488351232) (w2 : (Lit.int .i64 a2).wf = true) (x2 : (Lit.int .i64 b2).wf = true) (y2 : (Lit.int .i64 e2).wf = true) :
    Calls Tryd.prog 6 #[.slice A0 n0 c0, .slice A1 n1 c1, .agg #[.int .i64 a2, .int .i64 b2, .int .i64 e2]] w fun e w' => e = .returned (.bool true) ∧ Below w.heap.size w w' := by
  exact core_NumberMoved num_ok A0 n0 c0 l0 A1 n1 c1 l1 a2 b2 e2 w s0 (isB_of b0) s1 (isB_of b1) (i64_of w2).1 (i64_of w2).2 (i64_of x2).1 (i64_of x2).2 (i64_of y2).1 (i64_of y2).2
end Go.Proofs.YtjgkaccmfdjffaaDoor
