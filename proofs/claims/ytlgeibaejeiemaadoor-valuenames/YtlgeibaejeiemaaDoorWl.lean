/-
  What a row's list of package-level variables gives: the table that Itoa reads; the world in which the lists are met.
-/
import Derived.Test.YtlgeibaejeiemaaDoorCards
import Derived.Test.YtlgeibaejeiemaaDoorTie
import Derived.Test.YtlgeibaejeiemaaDoorIt
import Derived.Lib.LaidTab
import Derived.Stop.LaidErr
import Derived.LaidMore
import Derived.ProofKit
import Derived.OpenShut
import Derived.Stop.Joined
import Derived.SevenTiedAt
namespace Go.Proofs.YtlgeibaejeiemaaDoor.Wl
set_option linter.unusedVariables false
open Go.RowKit Go.ChangeShapes Go.WideShapes It

theorem gTab : Tryd.prog.globalNamed "internal/strconv.uint64pow10" = some 0 := by kernel_rfl
theorem gType : (Tryd.prog.globals[0]?).map (·.type) = some 70 := by kernel_rfl
theorem gCells : Tryd.prog.cellsOf 70 = 20 := by kernel_rfl
theorem eCells : Tryd.prog.cellsOf 63 = 1 := by kernel_rfl

theorem tab_any {W : World} {rest : List (String × DataW Unit)} : ∀ (pre : List (String × DataW Unit)), laidMet Tryd.prog (pre ++ ("internal/strconv.uint64pow10", Lib.tabData .u64 Lib.pow10Tab) :: rest) W → Tab W
  | [], h => Lib.tabIs_of_head gTab gType Tryd.underlying70 Tryd.underlying63 eCells gCells h
  | x :: pre, h => tab_any pre h.tail
end Go.Proofs.YtlgeibaejeiemaaDoor.Wl
