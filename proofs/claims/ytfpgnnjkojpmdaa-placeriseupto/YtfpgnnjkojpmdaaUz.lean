/-
  What Text of package units computes.
-/
import Derived.Test.YtfpgnnjkojpmdaaUy
namespace Go.Proofs.Ytfpgnnjkojpmdaa
set_option linter.unusedVariables false
open Go.RowKit
namespace Uw
open Utf Wd Wr We Wi

/-- what Text answers -/
def TextTo (w : World) (l : List Int) (e : Ending) (w' : World) : Prop :=
  Below w.heap.size w w' ∧ ((okB (ch l) = true ∧ ∃ v, e = .returned (.tuple #[v, .int .i64 0]) ∧ Own .u8 5 w' w.heap.size v (encs (ch l))) ∨
    (okB (ch l) = false ∧ e = .returned (.tuple #[.slice none 0 0, .int .i64 10])))

end Uw
end Go.Proofs.Ytfpgnnjkojpmdaa
