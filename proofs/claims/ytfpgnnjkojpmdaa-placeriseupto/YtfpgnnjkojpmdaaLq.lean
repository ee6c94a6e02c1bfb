/-
  What Line (package lines) does.
-/
import Derived.Test.YtfpgnnjkojpmdaaLp
import Derived.RegionTactic
namespace Go.Proofs.Ytfpgnnjkojpmdaa
set_option linter.unusedVariables false
set_option linter.unusedSimpArgs false
open Go.RowKit Go.Shelf
namespace Lc
open Utf Wd Wr We Wi Lm

set_option maxHeartbeats 1600000 in
theorem line_last (B P : Nat) (L : List (Nat × Nat)) (k : Nat) (x : Nat × Nat) (w : World) (h : Idx w B P L) (hk : L.length = k + 1) (hx : L[k]? = some x) :
    Calls Try.prog 34 #[.pointer (some ⟨P, 0, none⟩), .int .i64 (k : Nat)] w fun e w' =>
      e = .returned (.tuple #[sp x, sp x, .int .i64 0]) ∧ Below w.heap.size w w' := by
  obtain ⟨g, cap, hr, _, hg⟩ := h.rd (by omega)
  have hP : P < w.heap.size := h.2.choose_spec.1.lt
  have hmy : cap ≤ maxLen := hr.2.2.1
  have hmx := hr.2.1
  have hcc := hr.2.2.2 k x hx
  have hc1 := hr.1
  rw [hk] at hc1 hmx
  clear h hx hr
  have HK := Lib.hid hk
  clear hk
  have hmm : k + 1 ≤ 9223372036854775807 := by unfold maxLen at hmy; omega
  obtain ⟨hca, hcb⟩ := hcc
  have j1 : ¬ (k : Int) < 0 := by omega
  have j2 : (k : Int) < (k : Int) + 1 := by omega
  have j3 : ¬ (k : Int) + 1 ≤ (k : Int) := by omega
  have j6 : IntKind.i64.wrap (k : Int) = (k : Int) := by rw [IntKind.wrap_i64]; omega
  have j7 : ¬ (k : Int) < (k : Int) := by omega
  go_enter Try.func34, Try.ntmps34
  go_wp2_with fail
  have hc1' : ((w.alloc (.cells #[.int .i64 0, .int .i64 0] 44)).alloc (.cells #[.int .i64 0, .int .i64 0] 44)).cell? ⟨P, 0, none⟩ = some (.slice (some ⟨g, 0, none⟩) (k + 1) cap) := cell_alloc_l _ (cell_alloc_l _ hc1)
  refine (count_at P (k + 1) cap _ _ hc1').mono ?_
  rintro e w' ⟨rfl, rfl⟩
  have j5 : (((k + 1 : Nat) : Int) == 0) = false := by simp; omega
  go_wp2_with fail
  go_region
  all_goals go_wp2_with fail
  refine bodyPost_ret (v := .tuple #[sp x, sp x, .int .i64 0]) ?_ rfl ⟨rfl, ?_⟩
  · simp only [results, sp]
    go_simp
  · exact below_drewN (((Below.refl _ w).alloc (Nat.le_refl _) _).alloc (by simp) _) 1

set_option maxHeartbeats 1600000 in
theorem line_mid (B P : Nat) (L : List (Nat × Nat)) (k : Nat) (x y : Nat × Nat) (w : World) (h : Idx w B P L) (hx : L[k]? = some x) (hy : L[k + 1]? = some y) :
    Calls Try.prog 34 #[.pointer (some ⟨P, 0, none⟩), .int .i64 (k : Nat)] w fun e w' =>
      e = .returned (.tuple #[sp (x.1, y.1), sp x, .int .i64 0]) ∧ Below w.heap.size w w' := by
  have hkm : k + 1 < L.length := by
    rcases Nat.lt_or_ge (k + 1) L.length with q | q
    · exact q
    · rw [List.getElem?_eq_none q] at hy; cases hy
  obtain ⟨g, cap, hr, _, hg⟩ := h.rd (by omega)
  have hP : P < w.heap.size := h.2.choose_spec.1.lt
  have hmy : cap ≤ maxLen := hr.2.2.1
  have hmx := hr.2.1
  have hcc := hr.2.2.2 k x hx
  have hcd := hr.2.2.2 (k + 1) y hy
  have hc1 := hr.1
  generalize L.length = m at hc1 hmx hkm
  clear h hx hr hy
  have hmm : m ≤ 9223372036854775807 := by unfold maxLen at hmy; omega
  obtain ⟨hca, hcb⟩ := hcc
  obtain ⟨hce, _⟩ := hcd
  have j1 : ¬ (k : Int) < 0 := by omega
  have j2 : (k : Int) < (m : Int) := by omega
  have j3 : ¬ (m : Int) ≤ (k : Int) := by omega
  have j6 : IntKind.i64.wrap ((m : Int) - 1) = (m : Int) - 1 := by rw [IntKind.wrap_i64]; omega
  have j7 : (k : Int) < (m : Int) - 1 := by omega
  have j8 : IntKind.i64.wrap ((k : Int) + 1) = (k : Int) + 1 := by rw [IntKind.wrap_i64]; omega
  have j9 : (k : Int) + 1 < (m : Int) := by omega
  go_enter Try.func34, Try.ntmps34
  go_wp2_with fail
  have hc1' : ((w.alloc (.cells #[.int .i64 0, .int .i64 0] 44)).alloc (.cells #[.int .i64 0, .int .i64 0] 44)).cell? ⟨P, 0, none⟩ = some (.slice (some ⟨g, 0, none⟩) m cap) := cell_alloc_l _ (cell_alloc_l _ hc1)
  refine (count_at P m cap _ _ hc1').mono ?_
  rintro e w' ⟨rfl, rfl⟩
  have j5 : ((m : Int) == 0) = false := by simp; omega
  go_wp2_with fail
  go_region
  all_goals go_wp2_with fail
  refine bodyPost_ret (v := .tuple #[sp (x.1, y.1), sp x, .int .i64 0]) ?_ rfl ⟨rfl, ?_⟩
  · simp only [results, sp]
    go_simp
  · exact below_drewN (((Below.refl _ w).alloc (Nat.le_refl _) _).alloc (by simp) _) 1

set_option maxHeartbeats 1600000 in
theorem line_out (B P : Nat) (L : List (Nat × Nat)) (k : Int) (w : World) (h : Idx w B P L) (hL : 0 < L.length) (hk : k < 0 ∨ (L.length : Int) ≤ k) :
    Calls Try.prog 34 #[.pointer (some ⟨P, 0, none⟩), .int .i64 k] w fun e w' =>
      e = .returned (.tuple #[sp (0, 0), sp (0, 0), .int .i64 9]) ∧ Below w.heap.size w w' := by
  obtain ⟨g, cap, hr, _, hg⟩ := h.rd hL
  have hP : P < w.heap.size := h.2.choose_spec.1.lt
  have hc1 := hr.1
  generalize L.length = m at hc1 hk hL
  clear h hr
  have hc1' : ((w.alloc (.cells #[.int .i64 0, .int .i64 0] 44)).alloc (.cells #[.int .i64 0, .int .i64 0] 44)).cell? ⟨P, 0, none⟩ = some (.slice (some ⟨g, 0, none⟩) m cap) := cell_alloc_l _ (cell_alloc_l _ hc1)
  have hB : Below w.heap.size w ((w.alloc (.cells #[.int .i64 0, .int .i64 0] 44)).alloc (.cells #[.int .i64 0, .int .i64 0] 44)) := ((Below.refl _ w).alloc (Nat.le_refl _) _).alloc (by simp) _
  have HB := Lib.hid hB
  clear hB
  by_cases hneg : k < 0
  · have j1 : decide (k < 0) = true := decide_eq_true hneg
    clear hk
    go_enter Try.func34, Try.ntmps34
    go_wp2_with fail
    refine (count_at P m cap _ _ hc1').mono ?_
    rintro e w' ⟨rfl, rfl⟩
    have j5 : ((m : Int) == 0) = false := by simp; omega
    go_wp2_with fail
    refine bodyPost_ret (v := .tuple #[sp (0, 0), sp (0, 0), .int .i64 9]) ?_ rfl ⟨rfl, ?_⟩
    · simp only [results, sp]
      go_simp
    · exact HB.out
  · have j1 : decide (k < 0) = false := decide_eq_false hneg
    have j2 : (m : Int) ≤ k := by omega
    clear hk
    go_enter Try.func34, Try.ntmps34
    go_wp2_with fail
    refine (count_at P m cap _ _ hc1').mono ?_
    rintro e w' ⟨rfl, rfl⟩
    have j5 : ((m : Int) == 0) = false := by simp; omega
    go_wp2_with fail
    refine bodyPost_ret (v := .tuple #[sp (0, 0), sp (0, 0), .int .i64 9]) ?_ rfl ⟨rfl, ?_⟩
    · simp only [results, sp]
      go_simp
    · exact HB.out

/-- a whole line of a text and its plain line, by Line -/
theorem line_txt (B P : Nat) (b : List Int) (i : Nat) (p q : Nat × Nat) (w : World) (h : Idx w B P (lns b)) (hp : (lns b)[i]? = some p) (hq : (whs b)[i]? = some q) :
    Calls Try.prog 34 #[.pointer (some ⟨P, 0, none⟩), .int .i64 (i : Nat)] w fun e w' =>
      e = .returned (.tuple #[sp q, sp p, .int .i64 0]) ∧ Below w.heap.size w w' := by
  have hi : i < (lns b).length := by
    rcases Nat.lt_or_ge i (lns b).length with q | q
    · exact q
    · rw [List.getElem?_eq_none q] at hp; cases hp
  obtain ⟨h1, h2, h3, h4, h5, h6⟩ := ln_at b hp hq
  by_cases hl : i + 1 = (lns b).length
  · have := h6 hl
    obtain rfl : p = q := by
      obtain ⟨p1, p2⟩ := p
      obtain ⟨q1, q2⟩ := q
      simp at *
      omega
    exact line_last B P _ i p w h hl.symm hp
  · have hy : (lns b)[i + 1]? = some ((lns b)[i + 1]'(by omega)) := List.getElem?_eq_getElem _
    generalize (lns b)[i + 1]'(by omega) = y at hy
    have := h5 y hy
    obtain rfl : q = (p.1, y.1) := by
      obtain ⟨q1, q2⟩ := q
      simp at *
      omega
    exact line_mid B P _ i p y w h hp hy

/-- the lines of a text are as Find asks them to be -/
theorem ok_lns (b : List Int) (h : b.length + 1 ≤ 4611686018427387904) : Ok (lns b) b.length where
  ne := lns_ne b
  few := by have := lns_le b; omega
  rise := fun j k x y hjk hx hy => by have := ln_rise b (k - j) hx (q := y) (by rw [show j + (k - j) = k by omega]; exact hy); omega
  zero := fun x hx => ln_first b hx
  last := fun x hx => by
    obtain ⟨p, q, hp, hq⟩ := ln_both b (i := (lns b).length - 1) (by have := lns_ne b; omega)
    rw [hp] at hx; cases hx
    exact ((ln_at b hp hq).2.2.2.2.2 (by have := lns_ne b; omega)).1
/-- the line of a byte: Find's answer is the one whose whole line has it -/
theorem parts_txt (b : List Int) {at_ r : Nat} (h : Parts (lns b) at_ (r + 1)) (hat : at_ ≤ b.length) : ∃ p q, (lns b)[r]? = some p ∧ (whs b)[r]? = some q ∧ q.1 ≤ at_ ∧ (at_ < q.2 ∨ r + 1 = (lns b).length) := by
  have h1 : r < (lns b).length := h.1
  obtain ⟨p, q, hp, hq⟩ := ln_both b h1
  obtain ⟨e1, e2, e3, e4, e5, e6⟩ := ln_at b hp hq
  refine ⟨p, q, hp, hq, ?_, ?_⟩
  · have := h.2.1 r p (Nat.lt_succ_self _) hp; omega
  · by_cases hl : r + 1 = (lns b).length
    · exact .inr hl
    · left
      have hy : (lns b)[r + 1]? = some ((lns b)[r + 1]'(by omega)) := List.getElem?_eq_getElem _
      have h7 := h.2.2 (r + 1) _ (Nat.le_refl _) hy
      have h8 := e5 _ hy
      omega
end Lc
end Go.Proofs.Ytfpgnnjkojpmdaa
