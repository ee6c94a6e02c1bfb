/-
  What the helpers EqBytes, CopyBytes compute; append onto a row of the call's own, from any source.
-/
import Derived.Test.YtlgeibaejeiemaaDoorRows
import Derived.Test.YtlgeibaejeiemaaDoorWo
import Derived.Deep.QuietTactic
import Derived.BigQuiet
import Derived.Outline
import Derived.OwnWalk
namespace Go.Proofs.YtlgeibaejeiemaaDoor
set_option linter.unusedVariables false
open Go.RowKit
namespace We
open Wd

theorem take_next {l m : List Int} {k : Nat} {x : Int} (h : l.take k = m.take k) (hx : l[k]? = some x) (hy : m[k]? = some x) : l.take (k + 1) = m.take (k + 1) := by
  rw [List.take_add_one, List.take_add_one, h, hx, hy]

theorem u8_info : (Tryd.prog.info? 5).map (fun i => (i.zero, i.size, i.bytes)) = some (some (.int .u8 0), 1, 1) := by kernel_rfl

set_option maxHeartbeats 400000 in
theorem bring_any (i n : Int) (h0 : 0 < n) (h1 : n ≤ 9223372036854775807) (hi : -9223372036854775808 ≤ i) (hi' : i ≤ 9223372036854775807) (w : World) :
    Calls Tryd.prog 34 #[.int .i64 i, .int .i64 n] w fun e w' => e = .returned (.int .i64 (i % n)) ∧ w = w' := by
  have e1 := Int.tmod_eq_emod (a := i) (b := n)
  have e2 := Int.emod_nonneg i (b := n) (by omega)
  have e3 := Int.emod_lt_of_pos i h0
  by_cases hneg : i.tmod n < 0
  · have hs : i.tmod n + n = i % n := by
      split at e1 <;> omega
    have HS := Lib.hid hs
    have b1 : -n ≤ i.tmod n := by omega
    clear e1 hs
    go_enter Tryd.func34, Tryd.ntmps34
    go_wp2
    go_ret
    exact ⟨by rw [← HS.out]; rfl, rfl⟩
  · have hs : i.tmod n = i % n := by
      split at e1 <;> omega
    have HS := Lib.hid hs
    clear e1 hs
    go_enter Tryd.func34, Tryd.ntmps34
    go_wp2
    go_ret
    exact ⟨by rw [← HS.out]; rfl, rfl⟩
theorem bring_at (i n : Int) (h0 : 0 < n) (h1 : n ≤ 9223372036854775807) (hi : -9223372036854775808 ≤ i) (hi' : i ≤ 9223372036854775807) (w : World) {j : Int} (h : i % n = j) :
    Calls Tryd.prog 34 #[.int .i64 i, .int .i64 n] w fun e w' => e = .returned (.int .i64 j) ∧ w = w' := by
  rw [← h]; exact bring_any i n h0 h1 hi hi' w
end We
end Go.Proofs.YtlgeibaejeiemaaDoor
