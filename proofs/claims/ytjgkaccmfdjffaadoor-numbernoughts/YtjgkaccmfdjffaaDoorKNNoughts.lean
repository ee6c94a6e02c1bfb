/-
  The walk of NumberNoughts.
-/
import Derived.Test.YtjgkaccmfdjffaaDoorOd
import Derived.Test.YtjgkaccmfdjffaaDoorWp
namespace Go.Proofs.YtjgkaccmfdjffaaDoor
set_option linter.unusedVariables false
open Go.RowKit Go.ChangeShapes Go.WideShapes
open Wd We Nu

theorem walk_NumberNoughts (a0 : Int) (A1 : Option Addr) (n1 c1 : Nat) (l1 : List Int) (A2 : Option Addr) (n2 c2 : Nat) (l2 : List Int) (w : World) (w0 : (Lit.int .i64 a0).wf = true) (s1 : Sl .u8 w A1 n1 c1 l1) (b1 : ∀ x ∈ l1, (Lit.int .u8 x).wf = true) (z1 : c1 * 1 ≤ 140737488351232) (s2 : Sl .u8 w A2 n2 c2 l2) (b2 : ∀ x ∈ l2, (Lit.int .u8 x).wf = true) (z2 : c2 * 1 ≤ 140737488351232) :
    Calls Tryd.prog 7 #[.int .i64 a0, .slice A1 n1 c1, .slice A2 n2 c2] w fun e w' => e = .returned (.bool true) ∧ Below w.heap.size w w' := by
  exact core_NumberNoughts num_ok a0 A1 n1 c1 l1 A2 n2 c2 l2 w (i64_of w0).1 (i64_of w0).2 s1 (isB_of b1) s2 (isB_of b2)
end Go.Proofs.YtjgkaccmfdjffaaDoor
