/-
  The walk of EscapeBack.
-/
import Derived.Test.YtjkaccmhpilojaaEl
import Derived.Test.YtjkaccmhpilojaaEq
import Derived.Test.YtjkaccmhpilojaaWp
namespace Go.Proofs.Ytjkaccmhpilojaa
set_option linter.unusedVariables false
open Go.RowKit Go.ChangeShapes Go.WideShapes
open Wd We Utf Em

theorem walk_EscapeBack (A0 : Option Addr) (n0 c0 : Nat) (l0 : List Int) (A1 : Option Addr) (n1 c1 : Nat) (l1 : List Int) (A2 : Option Addr) (n2 c2 : Nat) (l2 : List Int) (w : World) (s0 : Sl .i64 w A0 n0 c0 l0) (b0 : ∀ x ∈ l0, (Lit.int .i64 x).wf = true) (z0 : c0 * 8 ≤ 140737488351232) (u0 : c0 ≤ 1048576) (s1 : Sl .u8 w A1 n1 c1 l1) (b1 : ∀ x ∈ l1, (Lit.int .u8 x).wf = true) (z1 : c1 * 1 ≤ 140737488351232) (u1 : c1 ≤ 1048576) (s2 : Sl .u8 w A2 n2 c2 l2) (b2 : ∀ x ∈ l2, (Lit.int .u8 x).wf = true) (z2 : c2 * 1 ≤ 140737488351232) (u2 : c2 ≤ 1048576) :
    Calls Try.prog 5 #[.slice A0 n0 c0, .slice A1 n1 c1, .slice A2 n2 c2] w fun e w' => e = .returned (.bool true) ∧ Below w.heap.size w w' := by
  exact core_EscapeBack unq_ok quo_ok A0 A1 A2 n0 c0 n1 c1 n2 c2 l0 l1 l2 w s0 (fun x hx => i64_of (b0 x hx)) s1 (isB_of b1) s2 (isB_of b2) (by have := s1.le; omega) (by have := s2.le; omega)
end Go.Proofs.Ytjkaccmhpilojaa
