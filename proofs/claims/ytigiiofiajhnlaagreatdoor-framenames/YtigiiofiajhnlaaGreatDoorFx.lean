/-
  Words for a round of a loop over a function: append of values up to more bytes; a function value is not nil.
-/
import Derived.Test.YtigiiofiajhnlaaGreatDoorFk
import Derived.Test.YtigiiofiajhnlaaGreatDoorFl
import Derived.Test.YtigiiofiajhnlaaGreatDoorFh
import Derived.OwnWalkIn
namespace Go.Proofs.YtigiiofiajhnlaaGreatDoor
set_option linter.unusedVariables false
open Go.RowKit Go.Shelf
namespace Fa
open Wd We

theorem wpIn_own {F : Fence} {n : Nat} {P : Program} (w : World) {ops : Array Oper} {rest : List Oper} {o : Oper} {a : Act} {Q : Exit → Act → World → Prop} (hgd : o.guard = none) (s x : Operand) (t : TypeId)
    (ho : o.op = Op.call { callee := Callee.builtin Builtin.append, args := #[s, x], argTypes := #[t, t] })
    (B : Nat) (e : TypeId) (i : TypeInfo) (z : Value) (wide : Nat) (ht : P.underlying t = some (.slice e)) (hi : P.info? e = some i) (hz : i.zero = some z) (hs1 : i.size = 1) (hby : i.bytes = wide) (hzc : z.cells.size = 1)
    (v : Value) (k : Nat) (xs : List Value) (hs : a.eval s = v) (hown : w.ownsRow B e 1 v k xs) (ad : Addr) (m c : Nat) (news : List Value) (hx : a.eval x = .slice (some ad) m c) (hn : news.length = m)
    (hc : ∀ j u, news[j]? = some u → w.cell? (ad.add j) = some u) (h1c : ∀ u ∈ news, u.oneCell' = true) (hmax : k + m ≤ maxLen) (hlen : ((k + m) + (k + m) / 4 + 192) * wide ≤ 281474976710656) (hB : B ≤ w.heap.size)
    (hK : ∀ v' w', w'.ownsRow B e 1 v' (k + m) (xs ++ news) → w.grownBy w' v.ownBlock → wpListIn F n P ops Q rest (a.put o.dst v') w') : wpListIn F n P ops Q (o :: rest) a w := by
  refine wpListIn_plain hgd fun K hK' => ?_
  obtain ⟨v', w', hrun, r1, r2, _⟩ := run_own_at (P := P) w B t o.type e i z wide ht hi hz hs1 hby hzc v k xs hown ad m c news hn hc h1c hmax hlen hB
  unfold Oper.wpIn
  refine ⟨?_, ?_⟩
  · simp [Oper.about, ho, resolve, Target.leads, Sem.run_pure]
  · rw [Oper.semAt_plain F _ _ (by rw [ho]; intro c hc'; cases hc')]
    simp [execOp, ho, resolve, invoke, builtin, hs, hx, hrun, Result.andThen]
    exact hK' _ _ (hK v' w' r1 r2)
theorem seq_not_nil (f : Fn) (a b : Array Value) (w : World) : (binOp .eql 53 (.func f a b) .nilFunc).run Tryz.prog w = .ok (.bool false) w := by
  have hm : Op.maxDepth = (Op.maxDepth - 1) + 1 := by decide
  simp only [binOp, Op.equal]
  rw [hm]
  simp [Op.equalIn, run_underlying Tryz.underlying53, Sem.run_bind, Sem.run_pure, Result.andThen]
/-- a box of another type is no part of slices of the call's own -/
theorem OL.nobox {w : World} {B : Nat} {X : Nat → Prop} {v : Value} {ls : List (List Int)} {k : Nat} (o : OL 27 5 w B X v ls) (hk : k < B ∨ w.heap.size ≤ k) : OL 27 5 w B (fun q => X q ∧ q ≠ k) v ls ∧ v.ownBlock ≠ some k :=
  ⟨OL.mono (OL.bound o) (fun q h => ⟨h.1, by have := h.2; omega⟩), fun e => by have := OL.lt o k e; omega⟩
end Fa
end Go.Proofs.YtigiiofiajhnlaaGreatDoor
