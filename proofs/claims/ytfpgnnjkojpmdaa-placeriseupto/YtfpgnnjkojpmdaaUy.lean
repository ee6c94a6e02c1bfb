/-
  What Of16 (of what is no text), join, Text of package units compute.
-/
import Derived.Test.YtfpgnnjkojpmdaaUx
import Derived.Deep.QuietTactic
import Derived.BigQuiet
namespace Go.Proofs.Ytfpgnnjkojpmdaa
set_option linter.unusedVariables false
open Go.RowKit
namespace Uw
open Utf Wd Wr We Wi

def Is16 (l : List Int) : Prop := ∀ x ∈ l, 0 ≤ x ∧ x ≤ 65535
theorem Is16.drop {l : List Int} (h : Is16 l) (m : Nat) : Is16 (l.drop m) := fun x hx => h x (List.mem_of_mem_drop hx)

theorem pair_of {a b : Int} (ha : 0 ≤ a ∧ a ≤ 65535) (hb : 0 ≤ b ∧ b ≤ 65535) (p : (a - a % 1024 == 55296) = true) (q : (b - b % 1024 == 56320) = true) : pairB a b = true := by
  simp at p q; simp only [pairB, decide_eq_true_iff]; omega
theorem no_pair1 {a b : Int} (p : (a - a % 1024 == 55296) = false) : pairB a b = false := by
  simp at p; simp only [pairB, decide_eq_false_iff_not]; omega
theorem no_pair2 {a b : Int} (p : (b - b % 1024 == 56320) = false) : pairB a b = false := by
  simp at p; simp only [pairB, decide_eq_false_iff_not]; omega

end Uw
end Go.Proofs.Ytfpgnnjkojpmdaa
