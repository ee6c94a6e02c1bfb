/-
  What a row's list of package-level variables gives: the table that Itoa reads; the world in which the lists are met.
-/
import Derived.Test.YtigiiofiajhnlaaGreatDoorCards
import Derived.Test.YtigiiofiajhnlaaGreatDoorTie
import Derived.Test.YtigiiofiajhnlaaGreatDoorIt
import Derived.Lib.LaidTab
import Derived.Stop.LaidErr
import Derived.LaidMore
import Derived.ProofKit
import Derived.OpenShut
import Derived.Stop.Joined
import Derived.SevenTiedAt
namespace Go.Proofs.YtigiiofiajhnlaaGreatDoor.Wl
set_option linter.unusedVariables false
open Go.RowKit Go.ChangeShapes Go.WideShapes It

theorem gTab : Tryz.prog.globalNamed "internal/strconv.uint64pow10" = some 4 := by kernel_rfl
theorem gType : (Tryz.prog.globals[4]?).map (·.type) = some 119 := by kernel_rfl
theorem gCells : Tryz.prog.cellsOf 119 = 20 := by kernel_rfl
theorem eCells : Tryz.prog.cellsOf 101 = 1 := by kernel_rfl

theorem tab_any {W : World} {rest : List (String × DataW Unit)} : ∀ (pre : List (String × DataW Unit)), laidMet Tryz.prog (pre ++ ("internal/strconv.uint64pow10", Lib.tabData .u64 Lib.pow10Tab) :: rest) W → Tab W
  | [], h => Lib.tabIs_of_head gTab gType Tryz.underlying119 Tryz.underlying101 eCells gCells h
  | x :: pre, h => tab_any pre h.tail
end Go.Proofs.YtigiiofiajhnlaaGreatDoor.Wl
