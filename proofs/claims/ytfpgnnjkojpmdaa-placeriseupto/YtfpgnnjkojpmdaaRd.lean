/-
  What Line of colophonref03 (the document's answer) does.
-/
import Derived.Test.YtfpgnnjkojpmdaaRc
namespace Go.Proofs.Ytfpgnnjkojpmdaa
set_option linter.unusedVariables false
set_option linter.unusedSimpArgs false
open Go.RowKit Go.Shelf
namespace Lc
open Utf Wd Wr We Wi Lm

set_option maxHeartbeats 3200000 in
theorem rline_ok {B X : Nat} {vw vp : Value} (b : List Int) (k : Nat) (p q : Nat × Nat) (w : World) (h : Bi w B X vw vp (whs b) (lns b)) (hp : (lns b)[k]? = some p) (hq : (whs b)[k]? = some q) (hb : b.length ≤ 4611686018427387904) :
    Calls Try.prog 43 #[.pointer (some ⟨X, 0, none⟩), .int .i64 (k : Nat)] w fun e w' => e = .returned (.tuple #[sp q, sp p, .int .i64 0]) ∧ Below w.heap.size w w' := by
  obtain ⟨g, cap, rfl, h1, h2, h3, h4, h5⟩ := h.rw_.rd (by rw [whs_length]; omega)
  obtain ⟨g', cap', rfl, h1', h2', h3', h4', h5'⟩ := h.rp.rd (lns_ne b)
  have hl : (whs b).length = (lns b).length := by rw [whs_length, lns_length]
  have hX := h.two.lt
  have c0 := h.two.at0
  have c1 := h.two.at1
  obtain ⟨q0, q1⟩ := h5 k q hq
  obtain ⟨p0, p1⟩ := h5' k p hp
  have hkl := lt_of_some hp
  have hle := lns_le b
  rw [hl] at c0 h1
  generalize (lns b).length = m at c0 c1 h1 h1' hkl hle
  clear h h5 h5' hp hq hl
  have i1 : (k : Int) < (m : Int) := by omega
  have i2 : decide ((k : Int) < 0) = false := decide_eq_false (by omega)
  have i3 : ¬ (m : Int) ≤ (k : Int) := by omega
  have i4 : ¬ (k : Int) < 0 := by omega
  go_enter Try.func43, Try.ntmps43
  go_wp2_with fail
  go_region
  all_goals go_wp2_with fail
  all_goals
    refine bodyPost_ret (v := .tuple #[sp q, sp p, .int .i64 0]) ?_ rfl ⟨rfl, ?_⟩
    · simp only [results, sp]
      go_simp
    · exact below_drewN (((Below.refl _ w).alloc (Nat.le_refl _) _).alloc (by simp) _) 1

set_option maxHeartbeats 1600000 in
theorem rline_out {B X : Nat} {vw vp : Value} (b : List Int) (k : Int) (w : World) (h : Bi w B X vw vp (whs b) (lns b)) (hk : k < 0 ∨ ((lns b).length : Int) ≤ k) :
    Calls Try.prog 43 #[.pointer (some ⟨X, 0, none⟩), .int .i64 k] w fun e w' => e = .returned (.tuple #[sp (0, 0), sp (0, 0), .int .i64 9]) ∧ Below w.heap.size w w' := by
  obtain ⟨g, cap, rfl, h1, h2, h3, h4, h5⟩ := h.rw_.rd (by rw [whs_length]; omega)
  have hl : (whs b).length = (lns b).length := by rw [whs_length, lns_length]
  have hX := h.two.lt
  have c0 := h.two.at0
  rw [hl] at c0 h1
  generalize (lns b).length = m at c0 h1 hk
  clear h h5 hl
  have hB : Below w.heap.size w ((w.alloc (.cells #[.int .i64 0, .int .i64 0] 44)).alloc (.cells #[.int .i64 0, .int .i64 0] 44)) := ((Below.refl _ w).alloc (Nat.le_refl _) _).alloc (by simp) _
  have HB := Lib.hid hB
  clear hB
  by_cases hneg : k < 0
  · have j1 : decide (k < 0) = true := decide_eq_true hneg
    clear hk
    go_enter Try.func43, Try.ntmps43
    go_wp2_with fail
    refine bodyPost_ret (v := .tuple #[sp (0, 0), sp (0, 0), .int .i64 9]) ?_ rfl ⟨rfl, ?_⟩
    · simp only [results, sp]
      go_simp
    · exact HB.out
  · have j1 : decide (k < 0) = false := decide_eq_false hneg
    have j2 : (m : Int) ≤ k := by omega
    clear hk
    go_enter Try.func43, Try.ntmps43
    go_wp2_with fail
    refine bodyPost_ret (v := .tuple #[sp (0, 0), sp (0, 0), .int .i64 9]) ?_ rfl ⟨rfl, ?_⟩
    · simp only [results, sp]
      go_simp
    · exact HB.out
end Lc
end Go.Proofs.Ytfpgnnjkojpmdaa
