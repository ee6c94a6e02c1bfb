/-
  What Count, Line, Find (package lines) do with an index.
-/
import Derived.Test.YtfpgnnjkojpmdaaLn
import Derived.Deep.QuietTactic
import Derived.BigQuiet
namespace Go.Proofs.Ytfpgnnjkojpmdaa
set_option linter.unusedVariables false
set_option linter.unusedSimpArgs false
open Go.RowKit Go.Shelf
namespace Lc
open Utf Wd Wr We Wi Lm

/-- an index, read: the slice and its cells -/
def Rd (w : World) (P g cap : Nat) (L : List (Nat × Nat)) : Prop :=
  w.cell? ⟨P, 0, none⟩ = some (.slice (some ⟨g, 0, none⟩) L.length cap) ∧ L.length ≤ cap ∧ cap ≤ maxLen ∧
    ∀ j x, L[j]? = some x → w.cell? ⟨g, j * 2, none⟩ = some (.int .i64 (x.1 : Int)) ∧ w.cell? ⟨g, j * 2 + 1, none⟩ = some (.int .i64 (x.2 : Int))
theorem Idx.rd {w : World} {B P : Nat} {L : List (Nat × Nat)} (h : Idx w B P L) (hn : 0 < L.length) : ∃ g cap, Rd w P g cap L ∧ B ≤ g ∧ g < w.heap.size := by
  obtain ⟨_, v, hv, hr⟩ := h
  have hr0 := hr
  rcases hr.2 with ⟨rfl, h0⟩ | ⟨g, cap, cur, rfl, hg, hh, hl, hm, hs, ht⟩
  · omega
  · refine ⟨g, cap, ⟨hv.cell, hl, hm, fun j x hx => ?_⟩, hg, (Array.getElem?_eq_some_iff.1 hh).1⟩
    have hf := flat_at L hx
    have hj : j < L.length := by
      rcases Nat.lt_or_ge j L.length with q | q
      · exact q
      · rw [List.getElem?_eq_none q] at hx; cases hx
    have at_ : ∀ k u, (flat L)[k]? = some u → w.cell? ⟨g, k, none⟩ = some u := by
      intro k u hk
      rw [← ht, List.getElem?_take] at hk
      rw [cell_of_row _ _ _ _ _ _ hh]
      split at hk
      · simpa using hk
      · cases hk
    exact ⟨at_ _ _ hf.1, at_ _ _ hf.2⟩
theorem Idx.below {w w' : World} {B P : Nat} {L : List (Nat × Nat)} (h : Idx w B P L) {B' : Nat} (hb : Below B' w w') (hB : w.heap.size ≤ B') : Idx w' B P L := by
  obtain ⟨h1, v, hv, hr⟩ := h
  refine ⟨h1, v, ?_, hr.1, ?_⟩
  · have := hv.lt
    exact (hb.block P (by omega)).trans hv
  · rcases hr.2 with h0 | ⟨g, cap, cur, h2, h3, h4, h5⟩
    · exact .inl h0
    · have := (Array.getElem?_eq_some_iff.1 h4).1
      exact .inr ⟨g, cap, cur, h2, h3, (hb.block g (by omega)).trans h4, h5⟩
theorem Idx.ext {w w' : World} {B P : Nat} {L : List (Nat × Nat)} (h : Idx w B P L) (hb : Below w.heap.size w w') : Idx w' B P L := h.below hb (Nat.le_refl _)
theorem Idx.mono {w : World} {B B' P : Nat} {L : List (Nat × Nat)} (h : Idx w B P L) (hB : B' ≤ B) : Idx w B' P L := by
  obtain ⟨h1, v, hv, hr⟩ := h
  refine ⟨by omega, v, hv, hr.1, ?_⟩
  rcases hr.2 with h0 | ⟨g, cap, cur, h2, h3, h4⟩
  · exact .inl h0
  · exact .inr ⟨g, cap, cur, h2, by omega, h4⟩
theorem Rd.below {w w' : World} {P g cap : Nat} {L : List (Nat × Nat)} (h : Rd w P g cap L) {B : Nat} (hb : Below B w w') (hP : P < B) (hg : g < B) : Rd w' P g cap L :=
  ⟨(hb.cell (p := ⟨P, 0, none⟩) hP).trans h.1, h.2.1, h.2.2.1, fun j x hx => ⟨(hb.cell (p := ⟨g, j * 2, none⟩) hg).trans (h.2.2.2 j x hx).1, (hb.cell (p := ⟨g, j * 2 + 1, none⟩) hg).trans (h.2.2.2 j x hx).2⟩⟩

set_option maxHeartbeats 400000 in
theorem count_at (P n c : Nat) (A : Option Addr) (w : World) (h : w.cell? ⟨P, 0, none⟩ = some (.slice A n c)) :
    Calls Try.prog 33 #[.pointer (some ⟨P, 0, none⟩)] w fun e w' => e = .returned (.int .i64 (n : Nat)) ∧ w = w' := by
  go_enter Try.func33, Try.ntmps33
  go_wp2
  go_ret
  exact ⟨rfl, rfl⟩
set_option maxHeartbeats 400000 in
theorem count_nil (w : World) :
    Calls Try.prog 33 #[.pointer none] w fun e w' => e = .returned (.int .i64 0) ∧ w = w' := by
  go_enter Try.func33, Try.ntmps33
  go_wp2
  go_ret
  exact ⟨rfl, rfl⟩

/-- the function literal of Find: does the line n begin behind the byte? -/
theorem find1_at (X At P g cap : Nat) (L : List (Nat × Nat)) (at_ : Int) (n : Nat) (x : Nat × Nat) (w : World) (h : Rd w P g cap L) (hx : L[n]? = some x) (hX : w.cell? ⟨X, 0, none⟩ = some (.pointer (some ⟨P, 0, none⟩))) (hAt : w.cell? ⟨At, 0, none⟩ = some (.int .i64 at_)) :
    Calls Try.prog 60 #[.int .i64 (n : Nat), .pointer (some ⟨X, 0, none⟩), .pointer (some ⟨At, 0, none⟩)] w fun e w' => e = .returned (.bool (decide ((x.1 : Int) > at_))) ∧ ∃ q, w' = w.drewN q := by
  have hn : n < L.length := by
    rcases Nat.lt_or_ge n L.length with q | q
    · exact q
    · rw [List.getElem?_eq_none q] at hx; cases hx
  have hl : L.length ≤ 9223372036854775807 := by have := h.2.1; have := h.2.2.1; unfold maxLen at *; omega
  have hc := (h.2.2.2 n x hx).1
  have h1 := h.1
  have H := Lib.hid h
  clear h hx
  generalize L.length = m at *
  have i1 : (n : Int) < (m : Int) := by omega
  go_enter Try.func60, Try.ntmps60
  go_wp2
  go_quiet (fail)
  go_wp2
  go_ret
  exact ⟨rfl, _, rfl⟩
end Lc
end Go.Proofs.Ytfpgnnjkojpmdaa
