/-
  No cell of these rows narrows 'for every input' (looked for: loops, veiled, ifaces, maps, wideKeys, modest, calm, conditions, laid).
  DERIVED. THE GIVEN ROWS OF THIS SEAT. 7 by the template 'for every input the law returns true; each argument reads behind the call as it read before'; 0 by the template 'total and deterministic' (their statements: YtjkaccmhpilojaaTotals.lean).
  GIVEN WITH THE SEED: the statements are not yours to turn. If you find one false, say at which input.
  Laid BY PROGRAM, IN A SANDBOX (cutbox-rows.mjs): the forced cells as the released guide's own fill.sh prints them over the translation 92ba8e8792fe8b3f… (all of the seat's roots in one cut). By AI agents, Wed Nov 11 2026. No macro, syntax, notation, axiom, sorry.
-/
import Derived.Test.YtjkaccmhpilojaaChecked
import GoSem.Claim
import GoSem.ClaimJoined
import GoSem.ClaimMapViews
import Derived.JoinedTies
import Derived.KernelRfl
namespace Go.Proofs.Ytjkaccmhpilojaa
/- THE CELL 'sum', in the pinned program and in every row, IS THE sha256 OF THE DUMP (.gsa) THAT YtjkaccmhpilojaaProg.lean LOADS. Nothing in Lean hashes anything: it is a label: what it is worth is what the hold of that sum in a sandbox is worth. -/
noncomputable def Try.pinned : Pinned := { name := "ytjkaccmhpilojaa", sum := "92ba8e8792fe8b3f2827f925620ce332f24a5b1750694242beedf390a23a6dd6", checked := Try.checked }
namespace Rows
def none {H : Type} : Left H := { results := [], args := [] }

/-- 'colophonlaw08.EscapeQuotes': WHATEVER THE INPUT: true; the input reads as it did. -/
def escapeQuotesSpec : ChangeSpec := { name := "escapeQuotes", fn := fun _ => fun
  | [d] => { results := [.lit (.bool true)], args := [d] }
  | _ => none }
def escapeQuotesRow : OpenClaim := { program := "ytjkaccmhpilojaa", sum := "92ba8e8792fe8b3f2827f925620ce332f24a5b1750694242beedf390a23a6dd6", func := "colophon/colophonlaw08.EscapeQuotes", spec := "escapeQuotes", inPlace := ["internal/abi.NoEscape", "internal/bytealg.IndexByteString", "internal/bytealg.IndexString"], named := ["internal/bytealg.MaxLen"], apart := false }
def EscapeQuotesSaid : Prop := escapeQuotesRow.holds Try.pinned (OpenSpec.ofChange escapeQuotesSpec)

/-- ITS FALSE NEIGHBOUR: 'it returns false'. Refute it at one input. -/
def escapeQuotesWrong : ChangeSpec := { name := "escapeQuotes", fn := fun _ => fun
  | [d] => { results := [.lit (.bool false)], args := [d] }
  | _ => none }
def EscapeQuotesWrongFalsely : Prop := escapeQuotesRow.holds Try.pinned (OpenSpec.ofChange escapeQuotesWrong)

/-- 'colophonlaw08.EscapeReads': WHATEVER THE INPUT: true; the input reads as it did. -/
def escapeReadsSpec : ChangeSpec := { name := "escapeReads", fn := fun _ => fun
  | [d1, d2] => { results := [.lit (.bool true)], args := [d1, d2] }
  | _ => none }
def escapeReadsRow : OpenClaim := { program := "ytjkaccmhpilojaa", sum := "92ba8e8792fe8b3f2827f925620ce332f24a5b1750694242beedf390a23a6dd6", func := "colophon/colophonlaw08.EscapeReads", spec := "escapeReads", inPlace := ["internal/bytealg.IndexByteString", "internal/abi.NoEscape", "internal/bytealg.IndexString"], named := ["internal/bytealg.MaxLen"], apart := false }
def EscapeReadsSaid : Prop := escapeReadsRow.holds Try.pinned (OpenSpec.ofChange escapeReadsSpec)

/-- ITS FALSE NEIGHBOUR: 'it returns false'. Refute it at one input. -/
def escapeReadsWrong : ChangeSpec := { name := "escapeReads", fn := fun _ => fun
  | [d1, d2] => { results := [.lit (.bool false)], args := [d1, d2] }
  | _ => none }
def EscapeReadsWrongFalsely : Prop := escapeReadsRow.holds Try.pinned (OpenSpec.ofChange escapeReadsWrong)

/-- 'colophonlaw08.EscapeBack': WHATEVER THE INPUT: true; the input reads as it did. -/
def escapeBackSpec : ChangeSpec := { name := "escapeBack", fn := fun _ => fun
  | [d1, d2, d3] => { results := [.lit (.bool true)], args := [d1, d2, d3] }
  | _ => none }
def escapeBackRow : OpenClaim := { program := "ytjkaccmhpilojaa", sum := "92ba8e8792fe8b3f2827f925620ce332f24a5b1750694242beedf390a23a6dd6", func := "colophon/colophonlaw08.EscapeBack", spec := "escapeBack", inPlace := ["internal/abi.NoEscape", "internal/bytealg.IndexByteString", "internal/bytealg.IndexString"], named := ["internal/bytealg.MaxLen"], apart := false }
def EscapeBackSaid : Prop := escapeBackRow.holds Try.pinned (OpenSpec.ofChange escapeBackSpec)

/-- ITS FALSE NEIGHBOUR: 'it returns false'. Refute it at one input. -/
def escapeBackWrong : ChangeSpec := { name := "escapeBack", fn := fun _ => fun
  | [d1, d2, d3] => { results := [.lit (.bool false)], args := [d1, d2, d3] }
  | _ => none }
def EscapeBackWrongFalsely : Prop := escapeBackRow.holds Try.pinned (OpenSpec.ofChange escapeBackWrong)

/-- 'colophonlaw08.EscapeShort': WHATEVER THE INPUT: true; the input reads as it did. -/
def escapeShortSpec : ChangeSpec := { name := "escapeShort", fn := fun _ => fun
  | [d1, d2] => { results := [.lit (.bool true)], args := [d1, d2] }
  | _ => none }
def escapeShortRow : OpenClaim := { program := "ytjkaccmhpilojaa", sum := "92ba8e8792fe8b3f2827f925620ce332f24a5b1750694242beedf390a23a6dd6", func := "colophon/colophonlaw08.EscapeShort", spec := "escapeShort", inPlace := ["internal/abi.NoEscape", "internal/bytealg.IndexByteString", "internal/bytealg.IndexString"], named := ["internal/bytealg.MaxLen"], apart := false }
def EscapeShortSaid : Prop := escapeShortRow.holds Try.pinned (OpenSpec.ofChange escapeShortSpec)

/-- ITS FALSE NEIGHBOUR: 'it returns false'. Refute it at one input. -/
def escapeShortWrong : ChangeSpec := { name := "escapeShort", fn := fun _ => fun
  | [d1, d2] => { results := [.lit (.bool false)], args := [d1, d2] }
  | _ => none }
def EscapeShortWrongFalsely : Prop := escapeShortRow.holds Try.pinned (OpenSpec.ofChange escapeShortWrong)

/-- 'colophonlaw08.EscapeTold': WHATEVER THE INPUT: true; the input reads as it did. -/
def escapeToldSpec : ChangeSpec := { name := "escapeTold", fn := fun _ => fun
  | [d1, d2] => { results := [.lit (.bool true)], args := [d1, d2] }
  | _ => none }
def escapeToldRow : OpenClaim := { program := "ytjkaccmhpilojaa", sum := "92ba8e8792fe8b3f2827f925620ce332f24a5b1750694242beedf390a23a6dd6", func := "colophon/colophonlaw08.EscapeTold", spec := "escapeTold", inPlace := ["internal/bytealg.IndexByteString", "internal/abi.NoEscape", "internal/bytealg.IndexString"], named := ["internal/bytealg.MaxLen"], apart := false }
def EscapeToldSaid : Prop := escapeToldRow.holds Try.pinned (OpenSpec.ofChange escapeToldSpec)

/-- ITS FALSE NEIGHBOUR: 'it returns false'. Refute it at one input. -/
def escapeToldWrong : ChangeSpec := { name := "escapeTold", fn := fun _ => fun
  | [d1, d2] => { results := [.lit (.bool false)], args := [d1, d2] }
  | _ => none }
def EscapeToldWrongFalsely : Prop := escapeToldRow.holds Try.pinned (OpenSpec.ofChange escapeToldWrong)

/-- 'colophonlaw08.EscapePairs': WHATEVER THE INPUT: true; the input reads as it did. -/
def escapePairsSpec : ChangeSpec := { name := "escapePairs", fn := fun _ => fun
  | [d1, d2, d3] => { results := [.lit (.bool true)], args := [d1, d2, d3] }
  | _ => none }
def escapePairsRow : OpenClaim := { program := "ytjkaccmhpilojaa", sum := "92ba8e8792fe8b3f2827f925620ce332f24a5b1750694242beedf390a23a6dd6", func := "colophon/colophonlaw08.EscapePairs", spec := "escapePairs", inPlace := ["internal/bytealg.IndexByteString", "internal/abi.NoEscape", "internal/bytealg.IndexString"], named := ["internal/bytealg.MaxLen"], apart := false }
def EscapePairsSaid : Prop := escapePairsRow.holds Try.pinned (OpenSpec.ofChange escapePairsSpec)

/-- ITS FALSE NEIGHBOUR: 'it returns false'. Refute it at one input. -/
def escapePairsWrong : ChangeSpec := { name := "escapePairs", fn := fun _ => fun
  | [d1, d2, d3] => { results := [.lit (.bool false)], args := [d1, d2, d3] }
  | _ => none }
def EscapePairsWrongFalsely : Prop := escapePairsRow.holds Try.pinned (OpenSpec.ofChange escapePairsWrong)

/-- 'colophonlaw08.EscapeNames': WHATEVER THE INPUT: true; the input reads as it did. -/
def escapeNamesSpec : ChangeSpec := { name := "escapeNames", fn := fun _ => fun
  | [] => { results := [.lit (.bool true)], args := [] }
  | _ => none }
def escapeNamesRow : OpenClaim := { program := "ytjkaccmhpilojaa", sum := "92ba8e8792fe8b3f2827f925620ce332f24a5b1750694242beedf390a23a6dd6", func := "colophon/colophonlaw08.EscapeNames", spec := "escapeNames", inPlace := ["internal/abi.NoEscape", "internal/bytealg.IndexByteString", "internal/bytealg.IndexString"], named := ["internal/bytealg.MaxLen"], apart := false }
def EscapeNamesSaid : Prop := escapeNamesRow.holds Try.pinned (OpenSpec.ofChange escapeNamesSpec)

/-- ITS FALSE NEIGHBOUR: 'it returns false'. Refute it at one input. -/
def escapeNamesWrong : ChangeSpec := { name := "escapeNames", fn := fun _ => fun
  | [] => { results := [.lit (.bool false)], args := [] }
  | _ => none }
def EscapeNamesWrongFalsely : Prop := escapeNamesRow.holds Try.pinned (OpenSpec.ofChange escapeNamesWrong)

/- THE SECOND FORM. 'bulk': how many values and letters a reading holds, each counted each time it is reached (what is shared counts as often as it is met; a slice's spare places count too). A statement '..UptoSaid' is the law's where the arguments, and the package variables that the reading takes, are together of bulk at most 1048576: NARROWER than '..Said'. Prove '..Said' where nothing that the law and all that it calls make is longer than what came in: it says more and counts as full. Else prove '..UptoSaid'. A law counts once. -/
mutual
def uptoBulk {H : Type} : DataW H → Nat
  | .lit (.string bytes) => bytes.length + 1
  | .lit _ => 1
  | .nil => 1
  | .ptr d => uptoBulk d + 1
  | .slice elems spare => uptoBulkAll elems + uptoBulkAll spare + 1
  | .agg parts => uptoBulkAll parts + 1
  | .iface _ d => uptoBulk d + 1
  | .map entries => uptoBulkEntries entries + 1
  | .held _ => 1
def uptoBulkAll {H : Type} : List (DataW H) → Nat
  | [] => 0
  | d :: r => uptoBulk d + uptoBulkAll r
def uptoBulkEntries {H : Type} : List (Lit × DataW H) → Nat
  | [] => 0
  | x :: r => uptoBulkEntry x + uptoBulkEntries r
def uptoBulkEntry {H : Type} : Lit × DataW H → Nat
  | (.string bytes, d) => bytes.length + uptoBulk d + 1
  | (_, d) => uptoBulk d + 1
 end
def uptoSmall : (H : Type) → List (DataW H) → Bool := fun _ ds => decide (uptoBulkAll ds ≤ 1048576)
def OpenSpec.upto (s : _root_.Go.ChangeSpec) : _root_.Go.OpenSpec := { _root_.Go.OpenSpec.ofChange s with cond := some uptoSmall }

/-- 'colophonlaw08.EscapeQuotes', WHERE WHAT IT READS IS OF BULK AT MOST 1048576: true; the input reads as it did. -/
def escapeQuotesUptoRow : OpenClaim := { program := "ytjkaccmhpilojaa", sum := "92ba8e8792fe8b3f2827f925620ce332f24a5b1750694242beedf390a23a6dd6", func := "colophon/colophonlaw08.EscapeQuotes", spec := "escapeQuotes", inPlace := ["internal/abi.NoEscape", "internal/bytealg.IndexByteString", "internal/bytealg.IndexString"], named := ["internal/bytealg.MaxLen"], apart := false, narrowed := true }
def EscapeQuotesUptoSaid : Prop := escapeQuotesUptoRow.holds Try.pinned (OpenSpec.upto escapeQuotesSpec)

/-- 'colophonlaw08.EscapeReads', WHERE WHAT IT READS IS OF BULK AT MOST 1048576: true; the input reads as it did. -/
def escapeReadsUptoRow : OpenClaim := { program := "ytjkaccmhpilojaa", sum := "92ba8e8792fe8b3f2827f925620ce332f24a5b1750694242beedf390a23a6dd6", func := "colophon/colophonlaw08.EscapeReads", spec := "escapeReads", inPlace := ["internal/bytealg.IndexByteString", "internal/abi.NoEscape", "internal/bytealg.IndexString"], named := ["internal/bytealg.MaxLen"], apart := false, narrowed := true }
def EscapeReadsUptoSaid : Prop := escapeReadsUptoRow.holds Try.pinned (OpenSpec.upto escapeReadsSpec)

/-- 'colophonlaw08.EscapeBack', WHERE WHAT IT READS IS OF BULK AT MOST 1048576: true; the input reads as it did. -/
def escapeBackUptoRow : OpenClaim := { program := "ytjkaccmhpilojaa", sum := "92ba8e8792fe8b3f2827f925620ce332f24a5b1750694242beedf390a23a6dd6", func := "colophon/colophonlaw08.EscapeBack", spec := "escapeBack", inPlace := ["internal/abi.NoEscape", "internal/bytealg.IndexByteString", "internal/bytealg.IndexString"], named := ["internal/bytealg.MaxLen"], apart := false, narrowed := true }
def EscapeBackUptoSaid : Prop := escapeBackUptoRow.holds Try.pinned (OpenSpec.upto escapeBackSpec)

/-- 'colophonlaw08.EscapeShort', WHERE WHAT IT READS IS OF BULK AT MOST 1048576: true; the input reads as it did. -/
def escapeShortUptoRow : OpenClaim := { program := "ytjkaccmhpilojaa", sum := "92ba8e8792fe8b3f2827f925620ce332f24a5b1750694242beedf390a23a6dd6", func := "colophon/colophonlaw08.EscapeShort", spec := "escapeShort", inPlace := ["internal/abi.NoEscape", "internal/bytealg.IndexByteString", "internal/bytealg.IndexString"], named := ["internal/bytealg.MaxLen"], apart := false, narrowed := true }
def EscapeShortUptoSaid : Prop := escapeShortUptoRow.holds Try.pinned (OpenSpec.upto escapeShortSpec)

/-- 'colophonlaw08.EscapeTold', WHERE WHAT IT READS IS OF BULK AT MOST 1048576: true; the input reads as it did. -/
def escapeToldUptoRow : OpenClaim := { program := "ytjkaccmhpilojaa", sum := "92ba8e8792fe8b3f2827f925620ce332f24a5b1750694242beedf390a23a6dd6", func := "colophon/colophonlaw08.EscapeTold", spec := "escapeTold", inPlace := ["internal/bytealg.IndexByteString", "internal/abi.NoEscape", "internal/bytealg.IndexString"], named := ["internal/bytealg.MaxLen"], apart := false, narrowed := true }
def EscapeToldUptoSaid : Prop := escapeToldUptoRow.holds Try.pinned (OpenSpec.upto escapeToldSpec)

/-- 'colophonlaw08.EscapePairs', WHERE WHAT IT READS IS OF BULK AT MOST 1048576: true; the input reads as it did. -/
def escapePairsUptoRow : OpenClaim := { program := "ytjkaccmhpilojaa", sum := "92ba8e8792fe8b3f2827f925620ce332f24a5b1750694242beedf390a23a6dd6", func := "colophon/colophonlaw08.EscapePairs", spec := "escapePairs", inPlace := ["internal/bytealg.IndexByteString", "internal/abi.NoEscape", "internal/bytealg.IndexString"], named := ["internal/bytealg.MaxLen"], apart := false, narrowed := true }
def EscapePairsUptoSaid : Prop := escapePairsUptoRow.holds Try.pinned (OpenSpec.upto escapePairsSpec)

/-- 'colophonlaw08.EscapeNames', WHERE WHAT IT READS IS OF BULK AT MOST 1048576: true; the input reads as it did. -/
def escapeNamesUptoRow : OpenClaim := { program := "ytjkaccmhpilojaa", sum := "92ba8e8792fe8b3f2827f925620ce332f24a5b1750694242beedf390a23a6dd6", func := "colophon/colophonlaw08.EscapeNames", spec := "escapeNames", inPlace := ["internal/abi.NoEscape", "internal/bytealg.IndexByteString", "internal/bytealg.IndexString"], named := ["internal/bytealg.MaxLen"], apart := false, narrowed := true }
def EscapeNamesUptoSaid : Prop := escapeNamesUptoRow.holds Try.pinned (OpenSpec.upto escapeNamesSpec)

end Rows
end Go.Proofs.Ytjkaccmhpilojaa
