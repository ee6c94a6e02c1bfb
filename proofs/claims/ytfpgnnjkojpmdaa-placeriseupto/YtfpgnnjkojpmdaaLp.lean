/-
  What sort.Search does, and Find (package lines).
-/
import Derived.Test.YtfpgnnjkojpmdaaLo
namespace Go.Proofs.Ytfpgnnjkojpmdaa
set_option linter.unusedVariables false
set_option linter.unusedSimpArgs false
open Go.RowKit Go.Shelf
namespace Lc
open Utf Wd Wr We Wi Lm

/-- the lines from r on begin behind the byte, those ahead of r do not -/
def Parts (L : List (Nat × Nat)) (at_ : Int) (r : Nat) : Prop := r ≤ L.length ∧ (∀ j x, j < r → L[j]? = some x → (x.1 : Int) ≤ at_) ∧ (∀ j x, r ≤ j → L[j]? = some x → at_ < (x.1 : Int))

set_option maxHeartbeats 1600000 in
theorem search_at (X At P g cap : Nat) (L : List (Nat × Nat)) (at_ : Int) (w : World) (h : Rd w P g cap L) (hX : w.cell? ⟨X, 0, none⟩ = some (.pointer (some ⟨P, 0, none⟩))) (hAt : w.cell? ⟨At, 0, none⟩ = some (.int .i64 at_))
    (hm : L.length ≤ 4611686018427387904) (hs : ∀ (j k : Nat) (x y : Nat × Nat), j ≤ k → L[j]? = some x → L[k]? = some y → x.1 ≤ y.1) :
    Calls Try.prog 59 #[.int .i64 (L.length : Nat), .func (.func 60) #[] #[.pointer (some ⟨X, 0, none⟩), .pointer (some ⟨At, 0, none⟩)]] w fun e w' =>
      ∃ r : Nat, e = .returned (.int .i64 (r : Nat)) ∧ Parts L at_ r ∧ ∃ q, w' = w.drewN q := by
  have H := Lib.hid h
  have HX := Lib.hid hX
  have HA := Lib.hid hAt
  have HS := Lib.hid hs
  clear h hX hAt hs
  have hnn : L.length = L.length := rfl
  generalize hN : L.length = N at hm ⊢
  have HN := Lib.hid hN
  clear hN hnn
  go_enter Try.func59, Try.ntmps59
  go_wp2
  go_loopw [5, 6] (fun a b wr => ∃ i j q : Nat, a = .int .i64 i ∧ b = .int .i64 j ∧ i ≤ j ∧ j ≤ N ∧ wr = w.drewN q ∧ Hid (∀ k x, k < i → L[k]? = some x → (x.1 : Int) ≤ at_) ∧ Hid (∀ k x, j ≤ k → L[k]? = some x → at_ < (x.1 : Int))) (fun a b _ => (intOf b).toNat - (intOf a).toNat)
  case atStart => exact ⟨0, N, 0, rfl, rfl, Nat.zero_le _, Nat.le_refl _, rfl, Lib.hid (fun k x hk => absurd hk (Nat.not_lt_zero _)), Lib.hid (fun k x hk hx => by rw [List.getElem?_eq_none (by rw [HN.out]; exact hk)] at hx; cases hx)⟩
  case round =>
    obtain ⟨i, j, q, rfl, rfl, hij, hj, rfl, hlo, hhi⟩ := hrel
    by_cases hlt : i < j
    · have i1 : (i : Int) < (j : Int) := by omega
      obtain ⟨k, hk⟩ : ∃ k : Nat, (i + j) / 2 = k := ⟨_, rfl⟩
      have hk1 : i ≤ k ∧ k < j := by omega
      have hx : L[k]? = some (L[k]'(by rw [HN.out]; omega)) := List.getElem?_eq_getElem _
      generalize L[k]'(by rw [HN.out]; omega) = x at hx
      have hki : ((i : Int) + (j : Int)) / 2 = (k : Int) := by omega
      have HK := Lib.hid hx
      clear hx hk
      go_wp2_with fail
      refine (find1_at X At P g cap L at_ k x (w.drewN q) H.out HK.out HX.out HA.out).mono ?_
      rintro e w' ⟨rfl, q', rfl⟩
      by_cases hx : (x.1 : Int) > at_
      · have hxi : at_ < (x.1 : Int) := hx
        rw [show decide ((x.1 : Int) > at_) = true from decide_eq_true hx]
        have hnew : Hid (∀ k' x', k ≤ k' → L[k']? = some x' → at_ < (x'.1 : Int)) := Lib.hid (fun k' x' hk' hx' => by have := HS.out k k' x x' hk' HK.out hx'; omega)
        clear hx hxi hki
        go_wp2_with fail
        go_roundw
        case rel => exact ⟨i, k, _, rfl, rfl, hk1.1, by omega, rfl, hlo, hnew⟩
        case measure => simp [intOf]; omega
      · rw [show decide ((x.1 : Int) > at_) = false from decide_eq_false hx]
        have hnew : Hid (∀ k' x', k' < k + 1 → L[k']? = some x' → (x'.1 : Int) ≤ at_) := Lib.hid (fun k' x' hk' hx' => by have := HS.out k' k x' x (by omega) hx' HK.out; omega)
        clear hx hki
        go_wp2_with fail
        go_roundw
        case rel => exact ⟨k + 1, j, _, by go_num, rfl, by omega, by omega, rfl, hnew, hhi⟩
        case measure => simp [intOf]; omega
    · obtain rfl : i = j := by omega
      have i1 : ¬ (i : Int) < (i : Int) := by omega
      go_wp2_with fail
      go_ret
      exact ⟨i, rfl, ⟨by rw [HN.out]; exact hj, hlo.out, hhi.out⟩, _, rfl⟩

/-- the lines begin one behind the other, the first one at 0, and the last one ends at n -/
structure Ok (L : List (Nat × Nat)) (n : Nat) : Prop where
  ne : 0 < L.length
  few : L.length ≤ 4611686018427387904
  rise : ∀ (j k : Nat) (x y : Nat × Nat), j ≤ k → L[j]? = some x → L[k]? = some y → x.1 ≤ y.1
  zero : ∀ x, L[0]? = some x → x.1 = 0
  last : ∀ x, L[L.length - 1]? = some x → x.2 = n

set_option maxHeartbeats 1600000 in
theorem find_ok (B P : Nat) (L : List (Nat × Nat)) (n : Nat) (at_ : Nat) (w : World) (h : Idx w B P L) (ok : Ok L n) (hn : at_ ≤ n) :
    Calls Try.prog 45 #[.pointer (some ⟨P, 0, none⟩), .int .i64 (at_ : Nat)] w fun e w' =>
      ∃ r : Nat, e = .returned (.tuple #[.int .i64 (r : Nat), .int .i64 0]) ∧ Parts L at_ (r + 1) ∧ Below w.heap.size w w' := by
  obtain ⟨g, cap, hr, _, hg⟩ := h.rd ok.ne
  have hP : P < w.heap.size := h.2.choose_spec.1.lt
  have OK := Lib.hid ok
  have RD := Lib.hid hr
  clear ok h
  obtain ⟨k, hk⟩ : ∃ k, L.length = k + 1 := ⟨L.length - 1, by have := OK.out.ne; omega⟩
  have hll : L[k]? = some (L[k]'(by omega)) := List.getElem?_eq_getElem _
  generalize L[k]'(by omega) = x at hll
  have hx2 := OK.out.last x (by rw [hk, Nat.add_sub_cancel]; exact hll)
  have hfew := OK.out.few
  have hmy : cap ≤ maxLen := hr.2.2.1
  obtain ⟨W0, hW0⟩ : ∃ W0, (w.alloc (.cells #[.pointer (some ⟨P, 0, none⟩)] 51)).alloc (.cells #[.int .i64 (at_ : Nat)] 3) = W0 := ⟨_, rfl⟩
  have hB0 : Below w.heap.size w W0 := by rw [← hW0]; exact ((Below.refl _ w).alloc (Nat.le_refl _) _).alloc (by simp) _
  have hr0 := hr.below hB0 hP hg
  have cX : W0.cell? ⟨w.heap.size, 0, none⟩ = some (.pointer (some ⟨P, 0, none⟩)) := by rw [← hW0]; exact ((Boxed.new w _ _).alloc _).cell
  have cA : W0.cell? ⟨w.heap.size + 1, 0, none⟩ = some (.int .i64 (at_ : Nat)) := by
    rw [← hW0]
    have := (Boxed.new (w.alloc (.cells #[.pointer (some ⟨P, 0, none⟩)] 51)) 3 (.int .i64 (at_ : Nat))).cell
    rw [World.size_alloc] at this
    exact this
  have R0 := Lib.hid hr0
  have hc2 := (hr0.2.2.2 k x hll).2
  have hc1 := hr0.1
  rw [hx2] at hc2
  rw [hk] at hc1 hfew
  have HW0 := Lib.hid hW0
  have HLL := Lib.hid hll
  have HKK := Lib.hid hk
  have HB := Lib.hid hB0
  clear hll hr hr0 hW0 hk hx2 hB0
  have CX := Lib.hid cX
  have CA := Lib.hid cA
  have C1 := Lib.hid hc1
  have j1 : ¬ (at_ : Int) < 0 := by omega
  have j2 : ¬ (n : Int) < (at_ : Int) := by omega
  have j3 : ¬ (at_ : Int) > (n : Int) := by omega
  go_enter Try.func45, Try.ntmps45
  go_wp2_with fail
  rw [HW0.out]
  refine (count_at P (k + 1) cap _ W0 hc1).mono ?_
  rintro e w' ⟨rfl, rfl⟩
  have j4 : ¬ ((k + 1 : Nat) : Int) = 0 := by omega
  have j5 : (((k + 1 : Nat) : Int) == 0) = false := by simp; omega
  have j6 : IntKind.i64.wrap (k : Int) = (k : Int) := by rw [IntKind.wrap_i64]; omega
  have j7 : decide ((at_ : Int) < 0) = false := decide_eq_false (by omega)
  have j8 : (k : Int) < (k : Int) + 1 := by omega
  go_wp2_with fail
  go_quiet (fail)
  go_wp2_with fail
  have hse := search_at w.heap.size (w.heap.size + 1) P g cap L (at_ : Int) (W0.drewN nq) R0.out CX.out CA.out (by rw [HKK.out]; exact hfew) OK.out.rise
  rw [HKK.out, show ((k + 1 : Nat) : Int) = (k : Int) + 1 by omega] at hse
  refine hse.mono ?_
  rintro e w' ⟨r, rfl, hp, q, rfl⟩
  obtain ⟨r, rfl⟩ : ∃ r', r = r' + 1 := by
    refine ⟨r - 1, ?_⟩
    rcases Nat.eq_zero_or_pos r with h0 | h0
    · subst h0
      have h00 : L[0]? = some (L[0]'OK.out.ne) := List.getElem?_eq_getElem _
      have h1 := hp.2.2 0 _ (Nat.le_refl _) h00
      have h2 := OK.out.zero _ h00
      rw [h2] at h1
      omega
    · omega
  have hrm : r + 1 ≤ k + 1 := by have := hp.1; rw [HKK.out] at this; exact this
  have HP := Lib.hid hp
  have j9 : IntKind.i64.wrap (r : Int) = (r : Int) := by rw [IntKind.wrap_i64]; omega
  clear hp
  go_wp2_with fail
  go_ret2
  exact ⟨r, rfl, HP.out, below_drewN HB.out _⟩

set_option maxHeartbeats 1600000 in
theorem find_out (B P : Nat) (L : List (Nat × Nat)) (n : Nat) (at_ : Int) (w : World) (h : Idx w B P L) (ok : Ok L n) (hn : at_ < 0 ∨ (n : Int) < at_) :
    Calls Try.prog 45 #[.pointer (some ⟨P, 0, none⟩), .int .i64 at_] w fun e w' =>
      e = .returned (.tuple #[.int .i64 0, .int .i64 9]) ∧ Below w.heap.size w w' := by
  obtain ⟨g, cap, hr, _, hg⟩ := h.rd ok.ne
  have hP : P < w.heap.size := h.2.choose_spec.1.lt
  have OK := Lib.hid ok
  have RD := Lib.hid hr
  clear ok h
  obtain ⟨k, hk⟩ : ∃ k, L.length = k + 1 := ⟨L.length - 1, by have := OK.out.ne; omega⟩
  have hll : L[k]? = some (L[k]'(by omega)) := List.getElem?_eq_getElem _
  generalize L[k]'(by omega) = x at hll
  have hx2 := OK.out.last x (by rw [hk, Nat.add_sub_cancel]; exact hll)
  have hfew := OK.out.few
  have hmy : cap ≤ maxLen := hr.2.2.1
  obtain ⟨W0, hW0⟩ : ∃ W0, (w.alloc (.cells #[.pointer (some ⟨P, 0, none⟩)] 51)).alloc (.cells #[.int .i64 at_] 3) = W0 := ⟨_, rfl⟩
  have hB0 : Below w.heap.size w W0 := by rw [← hW0]; exact ((Below.refl _ w).alloc (Nat.le_refl _) _).alloc (by simp) _
  have hr0 := hr.below hB0 hP hg
  have cX : W0.cell? ⟨w.heap.size, 0, none⟩ = some (.pointer (some ⟨P, 0, none⟩)) := by rw [← hW0]; exact ((Boxed.new w _ _).alloc _).cell
  have cA : W0.cell? ⟨w.heap.size + 1, 0, none⟩ = some (.int .i64 at_) := by
    rw [← hW0]
    have := (Boxed.new (w.alloc (.cells #[.pointer (some ⟨P, 0, none⟩)] 51)) 3 (.int .i64 at_)).cell
    rw [World.size_alloc] at this
    exact this
  have hc2 := (hr0.2.2.2 k x hll).2
  have hc1 := hr0.1
  rw [hx2] at hc2
  rw [hk] at hc1 hfew
  have HW0 := Lib.hid hW0
  have HB := Lib.hid hB0
  clear hll hr hr0 hW0 hk hx2 hB0
  have HH := Lib.hid hn
  by_cases hneg : at_ < 0
  · have j7 : decide (at_ < 0) = true := decide_eq_true hneg
    clear hn
    go_enter Try.func45, Try.ntmps45
    go_wp2_with fail
    rw [HW0.out]
    refine (count_at P (k + 1) cap _ W0 hc1).mono ?_
    rintro e w' ⟨rfl, rfl⟩
    have j5 : (((k + 1 : Nat) : Int) == 0) = false := by simp; omega
    go_wp2_with fail
    go_quiet (fail)
    go_wp2_with fail
    go_ret2
    exact ⟨rfl, below_drewN HB.out nq⟩
  · have j7 : decide (at_ < 0) = false := decide_eq_false hneg
    have j2 : (n : Int) < at_ := by omega
    have j8 : (k : Int) < (k : Int) + 1 := by omega
    have j6 : IntKind.i64.wrap (k : Int) = (k : Int) := by rw [IntKind.wrap_i64]; omega
    clear hn
    go_enter Try.func45, Try.ntmps45
    go_wp2_with fail
    rw [HW0.out]
    refine (count_at P (k + 1) cap _ W0 hc1).mono ?_
    rintro e w' ⟨rfl, rfl⟩
    have j5 : (((k + 1 : Nat) : Int) == 0) = false := by simp; omega
    go_wp2_with fail
    go_quiet (fail)
    go_wp2_with fail
    go_ret2
    exact ⟨rfl, below_drewN HB.out nq⟩
end Lc
end Go.Proofs.Ytfpgnnjkojpmdaa
