/-
  What the document's Same, and the statements' cut, reads (layer 7) compute.
-/
import Derived.Test.YtigiiofiajhnlaaGreatDoorFe
import Derived.Test.YtigiiofiajhnlaaGreatDoorWe
namespace Go.Proofs.YtigiiofiajhnlaaGreatDoor
set_option linter.unusedVariables false
set_option linter.unusedSimpArgs false
open Go.RowKit Go.Shelf
namespace Fa
open Wd We Dm Dc Dd Hm Hb He Fm

set_option maxRecDepth 100000 in
set_option maxHeartbeats 2000000 in
theorem same_any (A B : Option Addr) (n m c d : Nat) (ls ms : List (List Int)) (w : World) (s : LL w A n c ls) (t : LL w B m d ms) :
    Calls Tryz.prog 20 #[.slice A n c, .slice B m d] w fun e w' => e = .returned (.bool (decide (ls = ms))) ∧ ∃ q, w' = w.drewN q := by
  have hn := s.len
  have hm := t.len
  have hmx : n ≤ 9223372036854775807 := by have := s.le; have := s.max; unfold maxLen at *; omega
  have S := Lib.hid s
  have T := Lib.hid t
  clear s t
  by_cases hnm : n = m
  · subst hnm
    have d0 : ((n : Int) != (n : Int)) = false := by simp
    go_enter Tryz.func20, Tryz.ntmps20
    go_wp2
    go_loopw [5] (fun ix wr => ∃ k q : Nat, k ≤ n ∧ ix = .int .i64 k ∧ wr = w.drewN q ∧ Hid (ls.take k = ms.take k)) (fun ix _ => n - (intOf ix).toNat)
    case atStart => exact ⟨0, 0, Nat.zero_le _, rfl, rfl, Lib.hid rfl⟩
    case round =>
      obtain ⟨k, q, hk, rfl, rfl, htk⟩ := hrel
      by_cases hkn : k < n
      · obtain ⟨b1, o1, X, m1, k1, x, rfl, hx, hc1, sx, _⟩ := (S.out.drewN q).look hkn
        obtain ⟨b2, o2, Y, m2, k2, y, rfl, hy, hc2, sy, _⟩ := (T.out.drewN q).look hkn
        have i1 : (k : Int) < (n : Int) := by omega
        obtain ⟨W, hW⟩ : ∃ W, w.drewN q = W := ⟨_, rfl⟩
        rw [hW] at hc1 hc2 sx sy ⊢
        have hq : Hid (∀ q', Calls Tryz.prog 22 #[.slice X m1 k1, .slice Y m2 k2] (W.drewN q') fun e w' => e = .returned (.bool (decide (x = y))) ∧ ∃ j, w' = (W.drewN q').drewN j) :=
          Lib.hid (fun q' => (eq_any _ _ _ _ _ _ _ _ _ (sx.drewN q').row (sy.drewN q').row (by have := sx.max; have := sx.le; omega)))
        have HW := Lib.hid hW
        clear hW
        have HX := Lib.hid hx
        have HY := Lib.hid hy
        clear hx hy sx sy
        by_cases hxy : x = y
        · subst hxy
          simp only [decide_true] at hq
          go_wp2
          go_quiet ((go_at_call 22; exact Calls.quiet_of (hq.out _)))
          go_wp2
          go_roundw
          case rel => exact ⟨k + 1, _, by omega, by go_num, by rw [← HW.out]; exact World.drewN_drewN _ _ _, Lib.hid (by rw [List.take_add_one, List.take_add_one, htk.out, HX.out, HY.out])⟩
          case measure => simp [intOf]; omega
        · have hd : decide (x = y) = false := decide_eq_false hxy
          rw [hd] at hq
          have HXY := Lib.hid hxy
          clear hxy hd
          go_wp2
          go_quiet ((go_at_call 22; exact Calls.quiet_of (hq.out _)))
          go_wp2
          go_ret
          refine ⟨ret1 (congrArg Value.bool ?_), _, by rw [← HW.out]; exact World.drewN_drewN _ _ _⟩
          symm; rw [decide_eq_false_iff_not]
          intro e
          have h1 := HX.out
          rw [e, HY.out] at h1
          exact HXY.out (by injection h1 with h1; exact h1.symm)
      · obtain rfl : k = n := by omega
        have i1 : ¬ (k : Int) < (k : Int) := by omega
        go_wp2
        go_ret
        refine ⟨ret1 (congrArg Value.bool ?_), _, rfl⟩
        symm; rw [decide_eq_true_iff]
        have h1 := htk.out
        rwa [List.take_of_length_le (by rw [S.out.len]; exact Nat.le_refl _), List.take_of_length_le (by rw [T.out.len]; exact Nat.le_refl _)] at h1
  · have d0 : ((n : Int) != (m : Int)) = true := by simp; omega
    go_enter Tryz.func20, Tryz.ntmps20
    go_wp2
    go_ret
    refine ⟨ret1 (congrArg Value.bool ?_), 0, rfl⟩
    symm; rw [decide_eq_false_iff_not]
    rintro rfl
    exact hnm (S.out.len.symm.trans T.out.len)
end Fa
end Go.Proofs.YtigiiofiajhnlaaGreatDoor
