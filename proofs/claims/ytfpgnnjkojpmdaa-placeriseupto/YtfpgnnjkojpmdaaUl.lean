/-
  What Same of colophonref02 and the helpers chapter, works, text of colophonlaw02 compute.
-/
import Derived.Test.YtfpgnnjkojpmdaaUz
namespace Go.Proofs.Ytfpgnnjkojpmdaa
set_option linter.unusedVariables false
open Go.RowKit
namespace Uw
open Utf Wd Wr We Wi

def chap : List Int := [97, 228, 128512, 98]
theorem chap_ok : Chars chap := okB_true.1 (by decide)
theorem chap_enc : encs chap = [97, 195, 164, 240, 159, 152, 128, 98] := by decide
theorem chap_uns : uns chap = [97, 228, 55357, 56832, 98] := by decide

end Uw
end Go.Proofs.Ytfpgnnjkojpmdaa
