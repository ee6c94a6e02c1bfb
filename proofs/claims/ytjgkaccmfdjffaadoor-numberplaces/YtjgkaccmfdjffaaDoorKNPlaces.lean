/-
  The walk of NumberPlaces.
-/
import Derived.Test.YtjgkaccmfdjffaaDoorOg
import Derived.Test.YtjgkaccmfdjffaaDoorWp
namespace Go.Proofs.YtjgkaccmfdjffaaDoor
set_option linter.unusedVariables false
open Go.RowKit Go.ChangeShapes Go.WideShapes
open Wd We Nu

theorem walk_NumberPlaces (A0 : Option Addr) (n0 c0 : Nat) (ls0 : List (List Int)) (A1 : Option Addr) (n1 c1 : Nat) (l1 : List Int) (a2 : Int) (w : World) (s0 : LL w A0 n0 c0 ls0) (b0 : ∀ l ∈ ls0, IsB l) (z0 : ∀ l ∈ ls0, l.length ≤ 140737488351232) (s1 : Sl .u8 w A1 n1 c1 l1) (b1 : ∀ x ∈ l1, (Lit.int .u8 x).wf = true) (z1 : c1 * 1 ≤ 140737488351232) (w2 : (Lit.int .u8 a2).wf = true) :
    Calls Tryd.prog 10 #[.slice A0 n0 c0, .slice A1 n1 c1, .int .u8 a2] w fun e w' => e = .returned (.bool true) ∧ Below w.heap.size w w' := by
  have hx : 0 ≤ a2 ∧ a2 ≤ 255 := isB_of (l := [a2]) (fun x hx => by have : x = a2 := by simpa using hx
                                                                    rw [this]; exact w2) a2 (by simp)
  exact core_NumberPlaces num_ok A0 n0 c0 ls0 A1 n1 c1 l1 a2 w s0 b0 s1 (isB_of b1) (by have := s1.le; omega) hx.1 hx.2
end Go.Proofs.YtjgkaccmfdjffaaDoor
