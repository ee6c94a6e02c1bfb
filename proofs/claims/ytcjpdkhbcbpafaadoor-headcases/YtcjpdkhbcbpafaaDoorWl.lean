/-
  What a row's list of package-level variables gives: the table that Itoa reads; the world in which the lists are met.
-/
import Derived.Test.YtcjpdkhbcbpafaaDoorCards
import Derived.Test.YtcjpdkhbcbpafaaDoorTie
import Derived.Test.YtcjpdkhbcbpafaaDoorIt
import Derived.Lib.LaidTab
import Derived.Stop.LaidErr
import Derived.LaidMore
import Derived.ProofKit
import Derived.OpenShut
import Derived.Stop.Joined
import Derived.SevenTiedAt
namespace Go.Proofs.YtcjpdkhbcbpafaaDoor.Wl
set_option linter.unusedVariables false
open Go.RowKit Go.ChangeShapes Go.WideShapes It

theorem gTab : Tryd.prog.globalNamed "internal/strconv.uint64pow10" = some 6 := by kernel_rfl
theorem gType : (Tryd.prog.globals[6]?).map (·.type) = some 107 := by kernel_rfl
theorem gCells : Tryd.prog.cellsOf 107 = 20 := by kernel_rfl
theorem eCells : Tryd.prog.cellsOf 93 = 1 := by kernel_rfl

theorem tab_any {W : World} {rest : List (String × DataW Unit)} : ∀ (pre : List (String × DataW Unit)), laidMet Tryd.prog (pre ++ ("internal/strconv.uint64pow10", Lib.tabData .u64 Lib.pow10Tab) :: rest) W → Tab W
  | [], h => Lib.tabIs_of_head gTab gType Tryd.underlying107 Tryd.underlying93 eCells gCells h
  | x :: pre, h => tab_any pre h.tail
end Go.Proofs.YtcjpdkhbcbpafaaDoor.Wl
