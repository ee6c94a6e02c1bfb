/-
  Mathematics of places, what follows: which line a byte has; there and back; the order. No program is named here but lines.Find's parts.
-/
import Derived.Test.YtfpgnnjkojpmdaaPm
import Derived.Test.YtfpgnnjkojpmdaaLs
namespace Go.Proofs.Ytfpgnnjkojpmdaa.Lm
set_option linter.unusedVariables false
open Utf (enc form encs uns us Chars chk dec)
open Lc

theorem lineOf_parts {L : List (Nat × Nat)} {a r : Nat} (h : Parts L a (r + 1)) : lineOf L a = r := by
  unfold lineOf
  have hl := h.1
  have e : L.countP (fun x => decide (x.1 ≤ a)) = r + 1 := by
    rw [← List.take_append_drop (r + 1) L, List.countP_append, List.countP_eq_length.2 ?_, List.countP_eq_zero.2 ?_, List.length_take]
    · omega
    · intro x hx
      obtain ⟨j, hj⟩ := List.mem_iff_getElem?.1 hx
      rw [List.getElem?_drop] at hj
      have := h.2.2 (r + 1 + j) x (by omega) hj
      simp; omega
    · intro x hx
      obtain ⟨j, hj⟩ := List.mem_iff_getElem?.1 hx
      rw [List.getElem?_take] at hj
      split at hj
      · have := h.2.1 j x (by assumption) hj
        simp; omega
      · cases hj
  omega
theorem parts_ex (b : List Int) (a : Nat) : ∃ r, Parts (lns b) a (r + 1) := by
  have key : ∀ n, n ≤ (lns b).length → (∀ j x, j < n → (lns b)[j]? = some x → (x.1 : Int) ≤ a) ∨ ∃ r, Parts (lns b) a r := by
    intro n
    induction n with
    | zero => intro _; left; intro j x hj; omega
    | succ n ih =>
      intro hn
      rcases ih (by omega) with h | h
      · obtain ⟨y, hy⟩ : ∃ y, (lns b)[n]? = some y := ⟨_, List.getElem?_eq_getElem (by omega)⟩
        by_cases hq : y.1 ≤ a
        · left
          intro j x hj hx
          rcases Nat.lt_or_ge j n with k | k
          · exact h j x k hx
          · obtain rfl : j = n := by omega
            rw [hy] at hx; cases hx; omega
        · right
          refine ⟨n, by omega, h, fun j x hj hx => ?_⟩
          have := from_le b hj hy hx
          omega
      · exact .inr h
  have hne := lns_ne b
  obtain ⟨x, hx⟩ : ∃ y, (lns b)[0]? = some y := ⟨_, List.getElem?_eq_getElem hne⟩
  have hx0 := ln_first b hx
  rcases key (lns b).length (Nat.le_refl _) with h | ⟨r, h⟩
  · refine ⟨(lns b).length - 1, ?_⟩
    rw [show (lns b).length - 1 + 1 = (lns b).length by omega]
    refine ⟨Nat.le_refl _, h, fun j x hj hx => ?_⟩
    rw [List.getElem?_eq_none hj] at hx; cases hx
  · refine ⟨r - 1, ?_⟩
    have : r ≠ 0 := by rintro rfl; have := h.2.2 0 x (Nat.le_refl _) hx; omega
    rw [show r - 1 + 1 = r by omega]; exact h

section
variable {cs mid : List Int} {i a : Nat} {p : Nat × Nat}
theorem Ln.lt (h : Ln cs i p mid) : i < (lns (encs cs)).length := lt_of_some h.at_
theorem Ln.from (h : Ln cs i p mid) : p.1 ≤ p.2 := by rw [h.len]; omega
theorem Ln.next (h : Ln cs i p mid) {q : Nat × Nat} (hq : (lns (encs cs))[i + 1]? = some q) : p.2 < q.1 := by
  obtain ⟨p', w, hp', hw⟩ := ln_both (encs cs) h.lt
  rw [h.at_] at hp'; cases hp'
  have := (ln_at _ h.at_ hw).2.2.2.2.1 q hq
  omega
theorem Ln.last (h : Ln cs i p mid) (hi : i + 1 = (lns (encs cs)).length) : p.2 = (encs cs).length := by
  obtain ⟨p', w, hp', hw⟩ := ln_both (encs cs) h.lt
  rw [h.at_] at hp'; cases hp'
  exact ((ln_at _ h.at_ hw).2.2.2.2.2 hi).1
theorem Ln.ahead (h : Ln cs i p mid) {j : Nat} {q : Nat × Nat} (hq : (lns (encs cs))[j]? = some q) (hij : i < j) : p.2 < q.1 := by
  have hlt := lt_of_some hq
  obtain ⟨y, hy⟩ : ∃ y, (lns (encs cs))[i + 1]? = some y := ⟨_, List.getElem?_eq_getElem (by omega)⟩
  have := h.next hy
  have := from_le _ hij hy hq
  omega
theorem parts_plain (h : Ln cs i p mid) (h1 : p.1 ≤ a) (h2 : a ≤ p.2) : Parts (lns (encs cs)) a (i + 1) := by
  refine ⟨h.lt, ?_, ?_⟩
  · intro j x hj hx
    have := from_le _ (show j ≤ i by omega) hx h.at_
    omega
  · intro j x hj hx
    have := h.ahead hx (by omega)
    omega
theorem Ln.plc (h : Ln cs i p mid) (hc : Chars cs) (hp : Parts (lns (encs cs)) a (i + 1)) : plc cs a = (i, (uns (fit mid (a - p.1))).length) := by
  unfold Lm.plc
  rw [lineOf_parts hp, h.at_]
  simp only [h.mids hc]
theorem line_ex (hc : Chars cs) (a : Nat) : ∃ i p mid, Ln cs i p mid ∧ Parts (lns (encs cs)) a (i + 1) ∧ p.1 ≤ a := by
  obtain ⟨r, hr⟩ := parts_ex (encs cs) a
  have h1 := hr.1
  obtain ⟨p, hp⟩ : ∃ y, (lns (encs cs))[r]? = some y := ⟨_, List.getElem?_eq_getElem (by omega)⟩
  obtain ⟨mid, hm⟩ := ln_ex hc hp
  exact ⟨r, p, mid, hm, hr, by have := hr.2.1 r p (by omega) hp; omega⟩
theorem Ln.back {pre post : List Int} (h : Ln cs i p (pre ++ post)) (hc : Chars cs) : Lm.plc cs (p.1 + (encs pre).length) = (i, (uns pre).length) ∧ Lm.off cs i (uns pre).length = p.1 + (encs pre).length := by
  have hm := h.chars hc
  refine ⟨?_, ?_⟩
  · rw [h.plc hc (parts_plain h (by omega) (by rw [h.len, Utf.encs_append, List.length_append]; omega)), Nat.add_sub_cancel_left, fit_pre hm.right]
  · rw [h.off hc, ends_at]
end
/-- what is told of a place: a line that there is, and the characters ahead of it there -/
structure Again (cs : List Int) (l ch i : Nat) (p : Nat × Nat) (pre post : List Int) : Prop where
  ln : Ln cs i p (pre ++ post)
  off : Lm.off cs l ch = p.1 + (encs pre).length
  plc : Lm.plc cs (Lm.off cs l ch) = (i, (uns pre).length)
  same : Lm.off cs i (uns pre).length = Lm.off cs l ch
  le : i ≤ l
  in_ : l < (lns (encs cs)).length → i = l ∧ (uns pre).length ≤ ch ∧ ∀ c rest, post = c :: rest → ch < (uns pre).length + (us c).length
  out : (lns (encs cs)).length ≤ l → Lm.off cs l ch = (encs cs).length
theorem again {cs : List Int} (hc : Chars cs) (l ch : Nat) : ∃ i p pre post, Again cs l ch i p pre post := by
  by_cases hl : l < (lns (encs cs)).length
  · obtain ⟨p, hp⟩ : ∃ y, (lns (encs cs))[l]? = some y := ⟨_, List.getElem?_eq_getElem hl⟩
    obtain ⟨mid, hm⟩ := ln_ex hc hp
    obtain ⟨pre, post, rfl, h1, h2, h3⟩ := Utf.ends_cut mid ch
    have ho : off cs l ch = p.1 + (encs pre).length := by rw [hm.off hc, h1]
    have hb := hm.back hc
    exact ⟨l, p, pre, post, hm, ho, by rw [ho]; exact hb.1, by rw [ho]; exact hb.2, Nat.le_refl _, fun _ => ⟨rfl, h2, h3⟩, fun h => absurd h (by omega)⟩
  · have hl' : (lns (encs cs)).length ≤ l := by omega
    have hne := lns_ne (encs cs)
    obtain ⟨p, hp⟩ : ∃ y, (lns (encs cs))[(lns (encs cs)).length - 1]? = some y := ⟨_, List.getElem?_eq_getElem (by omega)⟩
    obtain ⟨mid, hm⟩ := ln_ex hc hp
    have hla := hm.last (by omega)
    have hlen := hm.len
    have ho : off cs l ch = p.1 + (encs mid).length := by rw [off_out hl']; omega
    have hm' : Ln cs ((lns (encs cs)).length - 1) p (mid ++ []) := by rw [List.append_nil]; exact hm
    have hb := hm'.back hc
    exact ⟨_, p, mid, [], hm', ho, by rw [ho]; exact hb.1, by rw [ho]; exact hb.2, by omega, fun h => absurd h (by omega), fun _ => off_out hl' ch⟩
theorem off_le {cs : List Int} (hc : Chars cs) (l ch : Nat) : off cs l ch ≤ (encs cs).length := by
  obtain ⟨i, p, pre, post, h⟩ := again hc l ch
  have h1 := h.ln.le
  have h2 := h.ln.len
  rw [Utf.encs_append, List.length_append] at h2
  rw [h.off]; omega
theorem plc_rise {cs : List Int} (hc : Chars cs) {a b : Nat} (h : a ≤ b) : (plc cs a).1 < (plc cs b).1 ∨ ((plc cs a).1 = (plc cs b).1 ∧ (plc cs a).2 ≤ (plc cs b).2) := by
  obtain ⟨i, p, mid, hl, hp, _⟩ := line_ex hc a
  obtain ⟨j, q, mid', hl', hp', _⟩ := line_ex hc b
  rw [hl.plc hc hp, hl'.plc hc hp']
  rcases Nat.lt_or_ge i j with k | k
  · exact .inl k
  · right
    have hij : i = j := by
      rcases Nat.lt_or_ge j i with k' | k'
      · have h1 := hp.2.1 i p (by omega) hl.at_
        have h2 := hp'.2.2 i p (by omega) hl.at_
        omega
      · omega
    subst hij
    have e := hl.at_.symm.trans hl'.at_
    cases e
    have e2 : mid = mid' := (hl.mids hc).symm.trans (hl'.mids hc)
    subst e2
    exact ⟨rfl, fit_rise mid (by omega)⟩
theorem off_rise {cs : List Int} (hc : Chars cs) {l ch l' ch' : Nat} (h : l < l' ∨ (l = l' ∧ ch ≤ ch')) : off cs l ch ≤ off cs l' ch' := by
  rcases h with h | ⟨rfl, h⟩
  · by_cases h2 : l' < (lns (encs cs)).length
    · obtain ⟨i, p, pre, post, g⟩ := again hc l ch
      obtain ⟨j, q, pre', post', g'⟩ := again hc l' ch'
      obtain ⟨rfl, _⟩ := g.in_ (by omega)
      obtain ⟨rfl, _⟩ := g'.in_ h2
      have h1 := g.ln.ahead g'.ln.at_ h
      have h3 := g.ln.len
      rw [Utf.encs_append, List.length_append] at h3
      rw [g.off, g'.off]; omega
    · rw [off_out (show (lns (encs cs)).length ≤ l' by omega)]; exact off_le hc l ch
  · by_cases h2 : l < (lns (encs cs)).length
    · obtain ⟨p, hp⟩ : ∃ y, (lns (encs cs))[l]? = some y := ⟨_, List.getElem?_eq_getElem h2⟩
      obtain ⟨mid, hm⟩ := ln_ex hc hp
      rw [hm.off hc, hm.off hc]
      have := Utf.ends_rise mid h
      omega
    · rw [off_out (show (lns (encs cs)).length ≤ l by omega), off_out (show (lns (encs cs)).length ≤ l by omega)]; exact Nat.le_refl _
theorem plc_le {cs : List Int} (hc : Chars cs) (a : Nat) : (plc cs a).1 ≤ (encs cs).length ∧ (plc cs a).2 ≤ (encs cs).length := by
  obtain ⟨i, p, mid, hl, hp, _⟩ := line_ex hc a
  rw [hl.plc hc hp]
  have h1 := hl.lt
  have h2 := lns_le (encs cs)
  have h3 := (Utf.uns_len (fit_chars (hl.chars hc) (a - p.1))).1
  obtain ⟨post, h4, _⟩ := fit_cut mid (a - p.1)
  have h5 : (encs (fit mid (a - p.1))).length ≤ (encs mid).length := by
    have : encs mid = encs (fit mid (a - p.1)) ++ encs post := by rw [← Utf.encs_append, ← h4]
    rw [this, List.length_append]; omega
  have h6 := hl.len
  have h7 := hl.le
  exact ⟨by dsimp only; omega, by dsimp only; omega⟩
/-- the place of the text's end -/
theorem plc_end {cs mid : List Int} {i : Nat} {p : Nat × Nat} (hc : Chars cs) (h : Ln cs i p mid) (hi : i + 1 = (lns (encs cs)).length) : plc cs (encs cs).length = (i, (uns mid).length) := by
  have hm' : Ln cs i p (mid ++ []) := by rw [List.append_nil]; exact h
  have := (hm'.back hc).1
  rw [← h.last hi, h.len]; exact this

/-- Offset's answer: a byte, an error -/
def ofz (cs : List Int) (l ch : Int) : Int × Int := if l < 0 ∨ ch < 0 then (0, 9) else (((off cs l.toNat ch.toNat : Nat) : Int), 0)
/-- Pos' answer: a place, an error -/
def psz (cs : List Int) (a : Int) : Int × Int × Int := if a < 0 ∨ ((encs cs).length : Int) < a then (0, 0, 9) else ((((plc cs a.toNat).1 : Nat) : Int), (((plc cs a.toNat).2 : Nat) : Int), 0)
/-- Span's answer: a span, an error -/
def spz (cs : List Int) (l ch l' ch' : Int) : Int × Int × Int :=
  if (ofz cs l ch).2 ≠ 0 then (0, 0, (ofz cs l ch).2) else if (ofz cs l' ch').2 ≠ 0 then (0, 0, (ofz cs l' ch').2) else
  if (ofz cs l' ch').1 < (ofz cs l ch).1 then (0, 0, 2) else ((ofz cs l ch).1, (ofz cs l' ch').1, 0)
/-- Range's answer: two places, an error -/
def rgz (cs : List Int) (a b : Int) : (Int × Int) × (Int × Int) × Int :=
  if (psz cs a).2.2 ≠ 0 then ((0, 0), (0, 0), (psz cs a).2.2) else if (psz cs b).2.2 ≠ 0 then ((0, 0), (0, 0), (psz cs b).2.2) else
  if b < a then ((0, 0), (0, 0), 2) else (((psz cs a).1, (psz cs a).2.1), ((psz cs b).1, (psz cs b).2.1), 0)
theorem ofz_neg {cs : List Int} {l ch : Int} (h : l < 0 ∨ ch < 0) : ofz cs l ch = (0, 9) := by unfold ofz; rw [if_pos h]
theorem ofz_nat (cs : List Int) (l ch : Nat) : ofz cs l ch = (((off cs l ch : Nat) : Int), 0) := by unfold ofz; rw [if_neg (by omega)]; rfl
theorem psz_out {cs : List Int} {a : Int} (h : a < 0 ∨ ((encs cs).length : Int) < a) : psz cs a = (0, 0, 9) := by unfold psz; rw [if_pos h]
theorem psz_nat {cs : List Int} {a : Nat} (h : a ≤ (encs cs).length) : psz cs a = ((((plc cs a).1 : Nat) : Int), (((plc cs a).2 : Nat) : Int), 0) := by unfold psz; rw [if_neg (by omega)]; rfl
theorem spz_nat (cs : List Int) {l ch l' ch' : Nat} (h : off cs l ch ≤ off cs l' ch') : spz cs l ch l' ch' = (((off cs l ch : Nat) : Int), ((off cs l' ch' : Nat) : Int), 0) := by
  unfold spz; rw [ofz_nat, ofz_nat]; simp; omega
theorem spz_arg (cs : List Int) {l ch l' ch' : Nat} (h : off cs l' ch' < off cs l ch) : spz cs l ch l' ch' = (0, 0, 2) := by
  unfold spz; rw [ofz_nat, ofz_nat]; simp; omega
theorem rgz_nat {cs : List Int} {a b : Nat} (h : a ≤ b) (hb : b ≤ (encs cs).length) : rgz cs a b = (((((plc cs a).1 : Nat) : Int), (((plc cs a).2 : Nat) : Int)), ((((plc cs b).1 : Nat) : Int), (((plc cs b).2 : Nat) : Int)), 0) := by
  unfold rgz; rw [psz_nat (by omega), psz_nat hb]; simp; omega
end Go.Proofs.Ytfpgnnjkojpmdaa.Lm
