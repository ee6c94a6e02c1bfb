/-
  A function value is not nil.
-/
import Derived.Test.YtlicfeepmhaemaaLw
namespace Go.Proofs.Ytlicfeepmhaemaa
set_option linter.unusedVariables false
open Go.RowKit Go.Shelf
namespace Lc

theorem func_not_nil (f : Fn) (a b : Array Value) (w : World) : (binOp .eql 40 (.func f a b) .nilFunc).run Try.prog w = .ok (.bool false) w := by
  have hm : Op.maxDepth = (Op.maxDepth - 1) + 1 := by decide
  simp only [binOp, Op.equal]
  rw [hm]
  simp [Op.equalIn, run_underlying Try.underlying40, Sem.run_bind, Sem.run_pure, Result.andThen]
end Lc
end Go.Proofs.Ytlicfeepmhaemaa
