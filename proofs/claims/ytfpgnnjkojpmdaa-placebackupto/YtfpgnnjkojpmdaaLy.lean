/-
  A function value is not nil.
-/
import Derived.Test.YtfpgnnjkojpmdaaLw
namespace Go.Proofs.Ytfpgnnjkojpmdaa
set_option linter.unusedVariables false
open Go.RowKit Go.Shelf
namespace Lc

theorem func_not_nil (f : Fn) (a b : Array Value) (w : World) : (binOp .eql 55 (.func f a b) .nilFunc).run Try.prog w = .ok (.bool false) w := by
  have hm : Op.maxDepth = (Op.maxDepth - 1) + 1 := by decide
  simp only [binOp, Op.equal]
  rw [hm]
  simp [Op.equalIn, run_underlying Try.underlying55, Sem.run_bind, Sem.run_pure, Result.andThen]
end Lc
end Go.Proofs.Ytfpgnnjkojpmdaa
