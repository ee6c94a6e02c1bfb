/-
  What ValueNames needs beside: what is nested may be spoilt; the numbers it tries.
-/
import Derived.Test.YtlgeibaejeiemaaDoorVxa
namespace Go.Proofs.YtlgeibaejeiemaaDoor
set_option linter.unusedVariables false
set_option linter.unusedSimpArgs false
open Go.RowKit
namespace Vt
open Wd We

theorem sm_nest {t : Tr} (h : Sm t) : ∀ n, Sm (nestT t n)
  | 0 => h
  | n + 1 => Sm.mk (fun x hx => by cases hx) (fun x hx => by
    obtain rfl : x = nestT t n := by simpa using hx
    exact sm_nest h n)
def nv8 : List Int := [0, 9, 10, -1, -9, -10, 9223372036854775807, -9223372036854775808]
theorem nv8_wf : ∀ x ∈ nv8, (Lit.int .i64 x).wf = true := by decide
theorem sm_plain (k : Int) (b : Bool) (s : ByteArray) : Sm (.mk k b s [] []) := Sm.mk (fun x hx => by cases hx) (fun x hx => by cases hx)
end Vt
end Go.Proofs.YtlgeibaejeiemaaDoor
