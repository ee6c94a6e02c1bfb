/-
  What Of16, join, Text of package units compute.
-/
import Derived.Test.YtfpgnnjkojpmdaaUw
namespace Go.Proofs.Ytfpgnnjkojpmdaa
set_option linter.unusedVariables false
open Go.RowKit
namespace Uw
open Utf Wd Wr We Wi

theorem u16_info : (Try.prog.info? 108).map (fun i => (i.zero, i.size, i.bytes)) = some (some (.int .u16 0), 1, 2) := by kernel_rfl

/-- what stands at a place between characters, as Decode tells it -/
theorem at_here {cs pre post r : List Int} {c : Int} (hf : Utf.form c ≠ 0) (hcs : cs = pre ++ c :: post) : decAt (encs cs ++ r) ((encs pre).length : Int) = (c, ((enc c).length : Int), 0) := by
  have h1 := dec_here (pre := pre) (post := post) (r := r) hf
  rw [← hcs] at h1
  rw [decAt_in, h1]
  rw [hcs, encs_append, encs_cons, List.length_append, List.length_append, List.length_append]
  have := List.length_pos_iff.2 (enc_ne hf)
  omega
theorem at_here0 {cs pre post : List Int} {c : Int} (hf : Utf.form c ≠ 0) (hcs : cs = pre ++ c :: post) : decAt (encs cs) ((encs pre).length : Int) = (c, ((enc c).length : Int), 0) := by
  have := at_here (r := []) hf hcs
  rwa [List.append_nil] at this

end Uw
end Go.Proofs.Ytfpgnnjkojpmdaa
