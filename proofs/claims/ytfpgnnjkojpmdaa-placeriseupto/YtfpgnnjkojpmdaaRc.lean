/-
  What Count, Line, Find of colophonref03 (the document's answer) do.
-/
import Derived.Test.YtfpgnnjkojpmdaaRb
namespace Go.Proofs.Ytfpgnnjkojpmdaa
set_option linter.unusedVariables false
set_option linter.unusedSimpArgs false
open Go.RowKit Go.Shelf
namespace Lc
open Utf Wd Wr We Wi Lm

theorem Sp.rd {W : World} {B : Nat} {v : Value} {L : List (Nat × Nat)} (hr : Sp W B v L) (hn : 0 < L.length) : ∃ g cap, v = .slice (some ⟨g, 0, none⟩) L.length cap ∧ L.length ≤ cap ∧ cap ≤ maxLen ∧ B ≤ g ∧ g < W.heap.size ∧
    ∀ j x, L[j]? = some x → W.cell? ⟨g, j * 2, none⟩ = some (.int .i64 (x.1 : Int)) ∧ W.cell? ⟨g, j * 2 + 1, none⟩ = some (.int .i64 (x.2 : Int)) := by
  rcases hr.2 with ⟨rfl, h0⟩ | ⟨g, cap, cur, rfl, hg, hh, hl, hm, hs, ht⟩
  · omega
  · refine ⟨g, cap, rfl, hl, hm, hg, (Array.getElem?_eq_some_iff.1 hh).1, fun j x hx => ?_⟩
    have hf := flat_at L hx
    have at_ : ∀ k u, (flat L)[k]? = some u → W.cell? ⟨g, k, none⟩ = some u := by
      intro k u hk
      rw [← ht, List.getElem?_take] at hk
      rw [cell_of_row _ _ _ _ _ _ hh]
      split at hk
      · simpa using hk
      · cases hk
    exact ⟨at_ _ _ hf.1, at_ _ _ hf.2⟩
theorem Sp.below {W W' : World} {B : Nat} {v : Value} {L : List (Nat × Nat)} (h : Sp W B v L) {n : Nat} (hb : Below n W W') (hn : W.heap.size ≤ n) : Sp W' B v L := by
  refine ⟨h.1, ?_⟩
  rcases h.2 with h0 | ⟨g, cap, cur, h2, h3, h4, h5⟩
  · exact .inl h0
  · have := (Array.getElem?_eq_some_iff.1 h4).1
    exact .inr ⟨g, cap, cur, h2, h3, (hb.block g (by omega)).trans h4, h5⟩
theorem Bi.ext {W W' : World} {B X : Nat} {vw vp : Value} {Lw Lp : List (Nat × Nat)} (h : Bi W B X vw vp Lw Lp) (hb : Below W.heap.size W W') : Bi W' B X vw vp Lw Lp :=
  ⟨h.two.below hb h.two.lt, h.rw_.below hb (Nat.le_refl _), h.rp.below hb (Nat.le_refl _), h.ap, h.lo⟩

set_option maxHeartbeats 800000 in
theorem rcount_at (X n c : Nat) (A : Option Addr) (w : World) (h : w.cell? ⟨X, 0, none⟩ = some (.slice A n c)) :
    Calls Try.prog 42 #[.pointer (some ⟨X, 0, none⟩)] w fun e w' => e = .returned (.int .i64 (n : Nat)) ∧ w = w' := by
  go_enter Try.func42, Try.ntmps42
  go_wp2
  go_ret
  exact ⟨rfl, rfl⟩
theorem rcount_txt {B X : Nat} {vw vp : Value} (b : List Int) (w : World) (h : Bi w B X vw vp (whs b) (lns b)) :
    Calls Try.prog 42 #[.pointer (some ⟨X, 0, none⟩)] w fun e w' => e = .returned (.int .i64 ((lns b).length : Nat)) ∧ w = w' := by
  obtain ⟨g, cap, rfl, _⟩ := h.rw_.rd (by rw [whs_length]; omega)
  have hl : (whs b).length = (lns b).length := by rw [whs_length, lns_length]
  have := h.two.at0
  rw [hl] at this
  exact rcount_at X _ cap _ w this

/-- what the document's Find tells -/
def RFnd (b : List Int) (a r : Nat) : Prop := r < (whs b).length ∧ (∀ j q, j < r → (whs b)[j]? = some q → q.2 ≤ a) ∧ (r + 1 = (whs b).length ∨ ∀ q, (whs b)[r]? = some q → a < q.2)
theorem rfnd_same {b : List Int} {a r s : Nat} (ha : a ≤ b.length) (h : RFnd b a r) (k : Parts (lns b) a (s + 1)) : s = r := by
  have hl : (whs b).length = (lns b).length := by rw [whs_length, lns_length]
  obtain ⟨p, q, hp, hq, h1, h2⟩ := parts_txt b k ha
  have hs : s < (lns b).length := k.1
  have hr := h.1
  rw [hl] at hr
  rcases Nat.lt_trichotomy s r with g | g | g
  · have h3 := h.2.1 s q g hq
    omega
  · exact g
  · obtain ⟨p', q', hp', hq'⟩ := ln_both b hr
    rcases h.2.2 with e | e
    · omega
    · have h3 := e q' hq'
      have hr1 : r + 1 < (lns b).length := by omega
      have py := List.getElem?_eq_getElem hr1
      have h4 := ((ln_at b hp' hq').2.2.2.2.1 _ py).1
      have h5 := from_le b (show r + 1 ≤ s by omega) py hp
      have h6 := (ln_at b hp hq).1
      omega

set_option maxHeartbeats 1600000 in
theorem rfind_ok {B X : Nat} {vw vp : Value} (b : List Int) (a : Nat) (w : World) (h : Bi w B X vw vp (whs b) (lns b)) (ha : a ≤ b.length) (hb : b.length ≤ 4611686018427387904) :
    Calls Try.prog 47 #[.pointer (some ⟨X, 0, none⟩), .int .i64 (a : Nat)] w fun e w' => ∃ r : Nat, e = .returned (.tuple #[.int .i64 (r : Nat), .int .i64 0]) ∧ RFnd b a r ∧ w = w' := by
  obtain ⟨g, cap, rfl, h1, h2, h3, h4, h5⟩ := h.rw_.rd (by rw [whs_length]; omega)
  have hc := h.two.at0
  have hle := lns_le b
  have hl : (whs b).length = (lns b).length := by rw [whs_length, lns_length]
  obtain ⟨k, hk⟩ : ∃ k, (whs b).length = k + 1 := ⟨_, whs_length b⟩
  obtain ⟨p, q, hp, hq⟩ := ln_both b (i := k) (by omega)
  have hq2 := ((ln_at b hp hq).2.2.2.2.2 (by omega)).2
  have hcq := (h5 k q hq).2
  rw [hq2] at hcq
  rw [hk] at hc h1
  have H5 := Lib.hid h5
  have HK := Lib.hid hk
  clear h h5 hp hq hq2 hk
  generalize hN : b.length = N at hcq ha hb hle
  have hkN : k ≤ N := by have := HK.out; omega
  clear hN hl hle
  have j1 : decide ((a : Int) < 0) = false := decide_eq_false (by omega)
  have j2 : ¬ (N : Int) < (a : Int) := by omega
  have j3 : IntKind.i64.wrap (k : Int) = (k : Int) := by rw [IntKind.wrap_i64]; omega
  have j4 : (k : Int) < (k : Int) + 1 := by omega
  go_enter Try.func47, Try.ntmps47
  go_wp2_with fail
  go_loop [7] (fun x => ∃ i : Nat, x = .int .i64 (i : Nat) ∧ i ≤ k ∧ Hid (∀ j q, j < i → (whs b)[j]? = some q → q.2 ≤ a)) (fun x => k - (intOf x).toNat)
  case atStart => exact ⟨0, rfl, Nat.zero_le _, Lib.hid (fun j q hj => absurd hj (Nat.not_lt_zero _))⟩
  case round =>
    obtain ⟨i, rfl, hik, hlo⟩ := hrel
    by_cases hlt : i < k
    · have i1 : (i : Int) < (k : Int) := by omega
      have hiq : (whs b)[i]? = some ((whs b)[i]'(by rw [HK.out]; omega)) := List.getElem?_eq_getElem _
      generalize (whs b)[i]'(by rw [HK.out]; omega) = q' at hiq
      have hci := (H5.out i q' hiq).2
      have i2 : (i : Int) < (k : Int) + 1 := by omega
      have HQ := Lib.hid hiq
      clear hiq
      by_cases haq : a < q'.2
      · have i3 : (a : Int) < (q'.2 : Int) := by omega
        go_wp2_with fail
        go_ret2
        exact ⟨i, rfl, ⟨by rw [HK.out]; omega, hlo.out, .inr (fun q'' h => by rw [HQ.out] at h; cases h; exact haq)⟩, rfl⟩
      · have i3 : ¬ (a : Int) < (q'.2 : Int) := by omega
        go_wp2_with fail
        go_round
        case rel => exact ⟨i + 1, by go_num, by omega, Lib.hid (fun j q'' hj hq'' => by
          by_cases e : j = i
          · subst e; rw [HQ.out] at hq''; cases hq''; omega
          · exact hlo.out j q'' (by omega) hq'')⟩
        case measure => simp [intOf]; omega
    · obtain rfl : i = k := by omega
      have i1 : ¬ (i : Int) < (i : Int) := by omega
      go_wp2_with fail
      go_ret2
      exact ⟨i, rfl, ⟨by rw [HK.out]; omega, hlo.out, .inl HK.out.symm⟩, rfl⟩

set_option maxHeartbeats 1600000 in
theorem rfind_out {B X : Nat} {vw vp : Value} (b : List Int) (a : Int) (w : World) (h : Bi w B X vw vp (whs b) (lns b)) (ha : a < 0 ∨ (b.length : Int) < a) (hb : b.length ≤ 4611686018427387904) :
    Calls Try.prog 47 #[.pointer (some ⟨X, 0, none⟩), .int .i64 a] w fun e w' => e = .returned (.tuple #[.int .i64 0, .int .i64 9]) ∧ w = w' := by
  obtain ⟨g, cap, rfl, h1, h2, h3, h4, h5⟩ := h.rw_.rd (by rw [whs_length]; omega)
  have hc := h.two.at0
  have hle := lns_le b
  have hl : (whs b).length = (lns b).length := by rw [whs_length, lns_length]
  obtain ⟨k, hk⟩ : ∃ k, (whs b).length = k + 1 := ⟨_, whs_length b⟩
  obtain ⟨p, q, hp, hq⟩ := ln_both b (i := k) (by omega)
  have hq2 := ((ln_at b hp hq).2.2.2.2.2 (by omega)).2
  have hcq := (h5 k q hq).2
  rw [hq2] at hcq
  rw [hk] at hc h1
  have hkN : k ≤ b.length := by omega
  clear h h5 hp hq hq2 hk hl hle
  generalize hN : b.length = N at hcq ha hb hkN
  clear hN
  have j3 : IntKind.i64.wrap (k : Int) = (k : Int) := by rw [IntKind.wrap_i64]; omega
  have j4 : (k : Int) < (k : Int) + 1 := by omega
  by_cases hneg : a < 0
  · have j1 : decide (a < 0) = true := decide_eq_true hneg
    clear ha
    go_enter Try.func47, Try.ntmps47
    go_wp2_with fail
    go_ret2
    exact ⟨rfl, rfl⟩
  · have j1 : decide (a < 0) = false := decide_eq_false hneg
    have j2 : (N : Int) < a := by omega
    clear ha
    go_enter Try.func47, Try.ntmps47
    go_wp2_with fail
    go_ret2
    exact ⟨rfl, rfl⟩
end Lc
end Go.Proofs.Ytfpgnnjkojpmdaa
