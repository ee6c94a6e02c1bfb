/-
  What the helpers EqBytes, CopyBytes compute; append onto a row of the call's own, from any source.
-/
import Derived.Test.YtjgkaccmfdjffaaDoorRows
import Derived.Test.YtjgkaccmfdjffaaDoorWo
import Derived.Deep.QuietTactic
import Derived.BigQuiet
import Derived.Outline
import Derived.OwnWalk
namespace Go.Proofs.YtjgkaccmfdjffaaDoor
set_option linter.unusedVariables false
open Go.RowKit
namespace We
open Wd

theorem take_next {l m : List Int} {k : Nat} {x : Int} (h : l.take k = m.take k) (hx : l[k]? = some x) (hy : m[k]? = some x) : l.take (k + 1) = m.take (k + 1) := by
  rw [List.take_add_one, List.take_add_one, h, hx, hy]

set_option maxHeartbeats 800000 in
theorem eq_any (A B : Option Addr) (n m ca cb : Nat) (l r : List Int) (w : World) (ha : Row .u8 w A n l) (hb : Row .u8 w B m r) (hn : n ≤ maxLen) :
    Calls Tryd.prog 15 #[.slice A n ca, .slice B m cb] w fun e w' => e = .returned (.bool (decide (l = r))) ∧ ∃ q, w' = w.drewN q := by
  have hn' : n ≤ 9223372036854775807 := by unfold maxLen at hn; omega
  have hla := ha.1
  have hlb := hb.1
  have HA := Lib.hid ha
  have HB := Lib.hid hb
  have HLA := Lib.hid hla
  have HLB := Lib.hid hlb
  clear ha hb hla hlb hn
  by_cases hnm : n = m
  · subst hnm
    have d : ((n : Int) != (n : Int)) = false := by simp
    go_enter Tryd.func15, Tryd.ntmps15
    go_wp2
    go_loopw [5] (fun ix wr => ∃ k q : Nat, k ≤ n ∧ ix = .int .i64 k ∧ wr = w.drewN q ∧ l.take k = r.take k) (fun ix _ => n - (intOf ix).toNat)
    case atStart => exact ⟨0, 0, Nat.zero_le _, rfl, rfl, rfl⟩
    case round =>
      obtain ⟨k, q, hk, rfl, rfl, htk⟩ := hrel
      have HT := Lib.hid htk
      clear htk
      by_cases hkn : k < n
      · obtain ⟨b1, o1, x, rfl, hx, hcx, _⟩ := HA.out.look hkn
        obtain ⟨b2, o2, y, rfl, hy, hcy, _⟩ := HB.out.look hkn
        have HX := Lib.hid hx
        have HY := Lib.hid hy
        clear hx hy
        have i1 : (k : Int) < (n : Int) := by omega
        by_cases hxy : x = y
        · subst hxy
          have d2 : (x != x) = false := by simp
          go_wp2
          go_quiet (fail)
          go_wp2
          go_roundw
          case rel => exact ⟨k + 1, _, by omega, by go_num, rfl, take_next HT.out HX.out HY.out⟩
          case measure => simp [intOf]; omega
        · have d2 : (x != y) = true := by simpa using hxy
          have HXY := Lib.hid hxy
          clear hxy
          go_wp2
          go_quiet (fail)
          go_wp2
          go_ret
          refine ⟨ret1 (congrArg Value.bool ?_), _, World.drewN_drewN _ _ _⟩
          symm; rw [decide_eq_false_iff_not]
          intro e
          have h1 := HX.out
          rw [e, HY.out] at h1
          exact HXY.out (by injection h1 with h1; exact h1.symm)
      · obtain rfl : k = n := by omega
        go_wp2
        go_ret
        refine ⟨ret1 (congrArg Value.bool ?_), _, rfl⟩
        symm; rw [decide_eq_true_iff]
        have h1 := HT.out
        rwa [List.take_of_length_le (by rw [HLA.out]; exact Nat.le_refl _), List.take_of_length_le (by rw [HLB.out]; exact Nat.le_refl _)] at h1
  · have d : ((n : Int) != (m : Int)) = true := by simp; omega
    go_enter Tryd.func15, Tryd.ntmps15
    go_wp2
    go_ret
    refine ⟨ret1 (congrArg Value.bool ?_), 0, rfl⟩
    symm; rw [decide_eq_false_iff_not]
    rintro rfl
    exact hnm (HLA.out.symm.trans HLB.out)

theorem u8_info : (Tryd.prog.info? 5).map (fun i => (i.zero, i.size, i.bytes)) = some (some (.int .u8 0), 1, 1) := by kernel_rfl

set_option maxHeartbeats 800000 in
theorem copy_any (A : Option Addr) (n c : Nat) (l : List Int) (w : World) (h : Sl .u8 w A n c l) (hn : n ≤ 140737488355328) :
    Calls Tryd.prog 12 #[.slice A n c] w fun e w' => ∃ v, e = .returned v ∧ Own .u8 5 w' w.heap.size v l ∧ Below w.heap.size w w' := by
  obtain ⟨i0, hi, hz0, hz1, hz2⟩ := info_parts u8_info
  have H := Lib.hid h
  clear h
  go_enter Tryd.func12, Tryd.ntmps12
  go_wp2_with (at_builtin; refine wp_app rfl _ _ _ rfl w.heap.size Tryd.underlying22 hi hz0 hz1 hz2 rfl (v := .slice none 0 0) (l := []) rfl Own.nil rfl H.out (by simp; omega) (by simp [maxLen]; omega) (Nat.le_refl _) ?_; intro v1 w1 ho1 hb1 _)
  go_ret
  exact ⟨v1, rfl, by simpa using ho1, hb1⟩

set_option maxHeartbeats 400000 in
theorem bring_any (i n : Int) (h0 : 0 < n) (h1 : n ≤ 9223372036854775807) (hi : -9223372036854775808 ≤ i) (hi' : i ≤ 9223372036854775807) (w : World) :
    Calls Tryd.prog 21 #[.int .i64 i, .int .i64 n] w fun e w' => e = .returned (.int .i64 (i % n)) ∧ w = w' := by
  have e1 := Int.tmod_eq_emod (a := i) (b := n)
  have e2 := Int.emod_nonneg i (b := n) (by omega)
  have e3 := Int.emod_lt_of_pos i h0
  by_cases hneg : i.tmod n < 0
  · have hs : i.tmod n + n = i % n := by
      split at e1 <;> omega
    have HS := Lib.hid hs
    have b1 : -n ≤ i.tmod n := by omega
    clear e1 hs
    go_enter Tryd.func21, Tryd.ntmps21
    go_wp2
    go_ret
    exact ⟨by rw [← HS.out]; rfl, rfl⟩
  · have hs : i.tmod n = i % n := by
      split at e1 <;> omega
    have HS := Lib.hid hs
    clear e1 hs
    go_enter Tryd.func21, Tryd.ntmps21
    go_wp2
    go_ret
    exact ⟨by rw [← HS.out]; rfl, rfl⟩
theorem bring_at (i n : Int) (h0 : 0 < n) (h1 : n ≤ 9223372036854775807) (hi : -9223372036854775808 ≤ i) (hi' : i ≤ 9223372036854775807) (w : World) {j : Int} (h : i % n = j) :
    Calls Tryd.prog 21 #[.int .i64 i, .int .i64 n] w fun e w' => e = .returned (.int .i64 j) ∧ w = w' := by
  rw [← h]; exact bring_any i n h0 h1 hi hi' w
end We
end Go.Proofs.YtjgkaccmfdjffaaDoor
