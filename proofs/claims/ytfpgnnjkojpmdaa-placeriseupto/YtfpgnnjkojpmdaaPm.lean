/-
  Mathematics of places: lines end between characters; the characters of a line; the byte of a place, the place of a byte. No program is named here.
-/
import Derived.Test.YtfpgnnjkojpmdaaUn
import Derived.Test.YtfpgnnjkojpmdaaLm
namespace Go.Proofs.Ytfpgnnjkojpmdaa.Lm
set_option linter.unusedVariables false
open Utf (enc form encs uns us Chars chk dec)

theorem enc_hi {c : Int} (h : form c ≠ 0) (hc : ¬ c < 128) : ∀ x ∈ enc c, x ≠ 10 ∧ x ≠ 13 := by
  rcases Utf.form_cases c with k | k | k | k | k
  · exact absurd k.1 h
  · omega
  · rw [Utf.enc2 k.1]; simp; omega
  · rw [Utf.enc3 k.1]; simp; omega
  · rw [Utf.enc4 k.1]; simp; omega
theorem enc_lo {c : Int} (h : form c ≠ 0) (hc : c < 128) : enc c = [c] := by
  rcases Utf.form_cases c with k | k | k | k | k
  · exact absurd k.1 h
  · exact Utf.enc1 k.1
  all_goals omega
theorem ends_hi (l : List Int) : ∀ (p : Nat) (r : List Int), (∀ x ∈ l, x ≠ 10 ∧ x ≠ 13) → ends p (l ++ r) = ends (p + l.length) r := by
  induction l with
  | nil => intro p r _; rfl
  | cons x l ih =>
    intro p r h
    have hx := h x (by simp)
    rw [List.cons_append, ends_miss p (esz0 hx.2 hx.1), ih (p + 1) r (fun y hy => h y (by simp [hy])), List.length_cons]
    congr 1; omega

/-- a place between characters -/
def Bd (cs : List Int) (k : Nat) : Prop := ∃ pre post, cs = pre ++ post ∧ k = (encs pre).length
theorem Bd.zero (cs : List Int) : Bd cs 0 := ⟨[], cs, rfl, rfl⟩
theorem Bd.all (cs : List Int) : Bd cs (encs cs).length := ⟨cs, [], by simp, rfl⟩
theorem Bd.cons {cs : List Int} {k : Nat} (h : Bd cs k) (c : Int) : Bd (c :: cs) ((enc c).length + k) := by
  obtain ⟨pre, post, rfl, rfl⟩ := h
  exact ⟨c :: pre, post, rfl, by rw [Utf.encs_cons, List.length_append]⟩

theorem ends_bd (n : Nat) : ∀ (cs : List Int), cs.length ≤ n → Chars cs → ∀ (p : Nat) (x : Nat × Nat), x ∈ ends p (encs cs) → ∃ a b, x.1 = p + a ∧ x.2 = p + b ∧ Bd cs a ∧ Bd cs b := by
  induction n with
  | zero =>
    intro cs h _ p x hx
    obtain rfl : cs = [] := List.eq_nil_of_length_eq_zero (by omega)
    simp [ends] at hx
  | succ n ih =>
    intro cs h hc p x hx
    cases cs with
    | nil => simp [ends] at hx
    | cons c cs =>
      have hf := hc.head
      have ht := hc.tail
      rw [List.length_cons] at h
      have go : ∀ z : Nat, x ∈ ends (p + z) (encs cs) → (enc c).length = z → ∃ a b, x.1 = p + a ∧ x.2 = p + b ∧ Bd (c :: cs) a ∧ Bd (c :: cs) b := by
        intro z hz e
        obtain ⟨a, b, h1, h2, h3, h4⟩ := ih cs (by omega) ht (p + z) x hz
        exact ⟨(enc c).length + a, (enc c).length + b, by omega, by omega, h3.cons c, h4.cons c⟩
      by_cases hlo : c < 128
      · have he := enc_lo hf hlo
        rw [Utf.encs_cons, he, List.singleton_append] at hx
        have hl : (enc c).length = 1 := by rw [he]; rfl
        by_cases h10 : c = 10
        · subst h10
          rw [ends_hit p (by rw [esz_feed]; omega), esz_feed] at hx
          rcases List.mem_cons.1 hx with rfl | hx
          · exact ⟨0, 1, rfl, rfl, Bd.zero _, by have := (Bd.zero cs).cons 10; rw [hl] at this; exact this⟩
          · exact go 1 (by simpa using hx) hl
        · by_cases h13 : c = 13
          · subst h13
            by_cases hh : (encs cs).head? = some 10
            · cases cs with
              | nil => simp at hh
              | cons d ds =>
                have hd : d = 10 := by
                  by_cases hdl : d < 128
                  · rw [Utf.encs_cons, enc_lo ht.head hdl] at hh; simpa using hh
                  · have hne := Utf.enc_ne ht.head
                    cases hq : enc d with
                    | nil => exact absurd hq hne
                    | cons y ys =>
                      rw [Utf.encs_cons, hq] at hh
                      have := enc_hi ht.head hdl y (by rw [hq]; simp)
                      simp at hh
                      exact absurd hh this.1
                subst hd
                have he2 := enc_lo ht.head (by decide : (10 : Int) < 128)
                rw [Utf.encs_cons, he2, List.singleton_append, ends_hit p (by rw [esz_two]; omega), esz_two] at hx
                have hl2 : (enc 10).length = 1 := by rw [he2]; rfl
                rcases List.mem_cons.1 hx with rfl | hx
                · refine ⟨0, 2, rfl, rfl, Bd.zero _, ?_⟩
                  have := ((Bd.zero ds).cons 10).cons 13
                  rw [hl, hl2] at this; exact this
                · obtain ⟨a, b, h1, h2, h3, h4⟩ := ih ds (by rw [List.length_cons] at h; omega) ht.tail (p + 2) x (by simpa using hx)
                  exact ⟨(enc 13).length + ((enc 10).length + a), (enc 13).length + ((enc 10).length + b), by omega, by omega, (h3.cons 10).cons 13, (h4.cons 10).cons 13⟩
            · rw [ends_hit p (by rw [esz_back hh]; omega), esz_back hh] at hx
              rcases List.mem_cons.1 hx with rfl | hx
              · exact ⟨0, 1, rfl, rfl, Bd.zero _, by have := (Bd.zero cs).cons 13; rw [hl] at this; exact this⟩
              · exact go 1 (by simpa using hx) hl
          · rw [ends_miss p (esz0 h13 h10)] at hx
            exact go 1 hx hl
      · rw [Utf.encs_cons, ends_hi _ p _ (enc_hi hf hlo)] at hx
        exact go _ hx rfl

theorem plains_all {Q : Nat → Prop} (es : List (Nat × Nat)) (n : Nat) (hn : Q n) : ∀ f, Q f → (∀ x ∈ es, Q x.1 ∧ Q x.2) → ∀ p ∈ plains f es n, Q p.1 ∧ Q p.2 := by
  induction es with
  | nil => intro f hf _ p hp; simp [plains, heads, lastTo] at hp; subst hp; exact ⟨hf, hn⟩
  | cons x es ih =>
    intro f hf h p hp
    have hx := h x (by simp)
    have hp' : p = (f, x.1) ∨ p ∈ plains x.2 es n := by simpa [plains, heads, lastTo, or_assoc] using hp
    rcases hp' with rfl | hp'
    · exact ⟨hf, hx.1⟩
    · exact ih x.2 hx.2 (fun y hy => h y (by simp [hy])) p hp'
theorem lns_bd {cs : List Int} (h : Chars cs) {p : Nat × Nat} (hp : p ∈ lns (encs cs)) : Bd cs p.1 ∧ Bd cs p.2 := by
  refine plains_all (Q := Bd cs) _ _ (Bd.all cs) 0 (Bd.zero cs) ?_ p hp
  intro x hx
  obtain ⟨a, b, h1, h2, h3, h4⟩ := ends_bd _ cs (Nat.le_refl _) h 0 x hx
  rw [h1, h2, Nat.zero_add, Nat.zero_add]; exact ⟨h3, h4⟩
theorem encs_ne {cs : List Int} (h : Chars cs) (hn : cs ≠ []) : 0 < (encs cs).length := by
  cases cs with
  | nil => exact absurd rfl hn
  | cons c cs => rw [Utf.encs_cons, List.length_append]; have := List.length_pos_iff.2 (Utf.enc_ne h.head); omega
theorem Bd.two {cs : List Int} (hc : Chars cs) {a b : Nat} (ha : Bd cs a) (hb : Bd cs b) (hab : a ≤ b) : ∃ pre mid post, cs = pre ++ (mid ++ post) ∧ a = (encs pre).length ∧ b = a + (encs mid).length := by
  obtain ⟨p1, q1, h1, rfl⟩ := ha
  obtain ⟨p2, q2, h2, rfl⟩ := hb
  have h := h1.symm.trans h2
  rcases List.append_eq_append_iff.1 h with ⟨as, e1, e2⟩ | ⟨bs, e1, e2⟩
  · exact ⟨p1, as, q2, by rw [h1, e2], rfl, by rw [e1, Utf.encs_append, List.length_append]⟩
  · have hbs : bs = [] := by
      by_cases hn : bs = []
      · exact hn
      · have hcb : Chars bs := by rw [h1, e1] at hc; exact hc.left.right
        have := encs_ne hcb hn
        rw [e1, Utf.encs_append, List.length_append] at hab
        omega
    subst hbs
    rw [List.append_nil] at e1
    subst e1
    exact ⟨p1, [], q1, by rw [h1]; simp, rfl, by simp⟩

/-- the characters that end within k bytes -/
def fit : List Int → Nat → List Int
  | [], _ => []
  | c :: cs, k => if (enc c).length ≤ k then c :: fit cs (k - (enc c).length) else []
/-- the characters behind those -/
def skip : List Int → Nat → List Int
  | [], _ => []
  | c :: cs, k => if (enc c).length ≤ k then skip cs (k - (enc c).length) else c :: cs
theorem fit_app (pre : List Int) : ∀ (post : List Int) (k : Nat), fit (pre ++ post) ((encs pre).length + k) = pre ++ fit post k := by
  induction pre with
  | nil => intro post k; simp
  | cons c pre ih =>
    intro post k
    rw [Utf.encs_cons, List.length_append, List.cons_append]
    simp only [fit]
    rw [if_pos (by omega), show (enc c).length + (encs pre).length + k - (enc c).length = (encs pre).length + k by omega, ih, List.cons_append]
theorem fit_zero {post : List Int} (h : Chars post) : fit post 0 = [] := by
  cases post with
  | nil => rfl
  | cons c cs =>
    simp only [fit]
    rw [if_neg (by have := List.length_pos_iff.2 (Utf.enc_ne h.head); omega)]
theorem fit_pre {pre post : List Int} (h : Chars post) : fit (pre ++ post) (encs pre).length = pre := by
  have := fit_app pre post 0
  rw [Nat.add_zero, fit_zero h, List.append_nil] at this; exact this
theorem skip_pre {pre post : List Int} (h : Chars post) : skip (pre ++ post) (encs pre).length = post := by
  induction pre with
  | nil =>
    cases post with
    | nil => rfl
    | cons c cs =>
      simp only [List.nil_append, skip, Utf.encs_nil, List.length_nil]
      rw [if_neg (by have := List.length_pos_iff.2 (Utf.enc_ne h.head); omega)]
  | cons c pre ih =>
    rw [Utf.encs_cons, List.length_append, List.cons_append]
    simp only [skip]
    rw [if_pos (by omega), Nat.add_sub_cancel_left, ih]
theorem fit_all : ∀ {mid : List Int} {k : Nat}, (encs mid).length ≤ k → fit mid k = mid := by
  intro mid
  induction mid with
  | nil => intro k _; rfl
  | cons c cs ih =>
    intro k h
    rw [Utf.encs_cons, List.length_append] at h
    simp only [fit]
    rw [if_pos (by omega), ih (by omega)]
theorem fit_cut (mid : List Int) : ∀ (k : Nat), ∃ post, mid = fit mid k ++ post ∧ (encs (fit mid k)).length ≤ k ∧ (∀ c rest, post = c :: rest → k < (encs (fit mid k)).length + (enc c).length) := by
  induction mid with
  | nil => intro k; exact ⟨[], rfl, by simp [fit], fun c rest h => by cases h⟩
  | cons c cs ih =>
    intro k
    by_cases h : (enc c).length ≤ k
    · obtain ⟨post, h1, h2, h3⟩ := ih (k - (enc c).length)
      have hf : fit (c :: cs) k = c :: fit cs (k - (enc c).length) := by simp only [fit]; rw [if_pos h]
      refine ⟨post, ?_, ?_, ?_⟩
      · rw [hf, List.cons_append, ← h1]
      · rw [hf, Utf.encs_cons, List.length_append]; omega
      · intro d rest hd; have := h3 d rest hd; rw [hf, Utf.encs_cons, List.length_append]; omega
    · have hf : fit (c :: cs) k = [] := by simp only [fit]; rw [if_neg h]
      refine ⟨c :: cs, by rw [hf]; rfl, by rw [hf]; simp, ?_⟩
      intro d rest hd
      injection hd with h1 h2
      subst h1; rw [hf]; simp; omega
theorem fit_rise (mid : List Int) : ∀ {k m : Nat}, k ≤ m → (uns (fit mid k)).length ≤ (uns (fit mid m)).length := by
  induction mid with
  | nil => intro k m _; simp [fit]
  | cons c cs ih =>
    intro k m h
    simp only [fit]
    by_cases g : (enc c).length ≤ k
    · rw [if_pos g, if_pos (by omega), Utf.uns_cons, Utf.uns_cons, List.length_append, List.length_append]
      have := ih (k := k - (enc c).length) (m := m - (enc c).length) (by omega)
      omega
    · rw [if_neg g]; simp
theorem fit_chars {mid : List Int} (h : Chars mid) (k : Nat) : Chars (fit mid k) := by
  obtain ⟨post, h1, _⟩ := fit_cut mid k
  rw [h1] at h; exact h.left
theorem chk_take {mid : List Int} (h : Chars mid) : ∀ k : Nat, ∃ e, chk ((encs mid).take k) = ((encs (fit mid k)).length, (fit mid k).length, e) := by
  induction mid with
  | nil => intro k; exact ⟨0, by simp [fit, Utf.chk_nil]⟩
  | cons c cs ih =>
    intro k
    have hf := h.head
    by_cases g : (enc c).length ≤ k
    · obtain ⟨e, he⟩ := ih h.tail (k - (enc c).length)
      refine ⟨e, ?_⟩
      have hfit : fit (c :: cs) k = c :: fit cs (k - (enc c).length) := by simp only [fit]; rw [if_pos g]
      have ht : (enc c ++ encs cs).take k = enc c ++ (encs cs).take (k - (enc c).length) := by
        rw [List.take_append, List.take_of_length_le g]
      rw [hfit, Utf.encs_cons, ht, Utf.chk_good hf (fun x hx => Utf.encs_byte cs x (List.mem_of_mem_take hx)), he, Utf.encs_cons, List.length_append, List.length_cons]
      simp only [Prod.mk.injEq, true_and, and_true]; omega
    · have hfit : fit (c :: cs) k = [] := by simp only [fit]; rw [if_neg g]
      have ht : (enc c ++ encs cs).take k = (enc c).take k := by
        rw [List.take_append, show k - (enc c).length = 0 by omega]; simp
      rw [hfit, Utf.encs_cons, ht]
      by_cases h0 : k = 0
      · subst h0; exact ⟨0, by simp [Utf.chk_nil]⟩
      · have hd := Utf.dec_part hf (k := k) (by omega) (by omega)
        refine ⟨3, ?_⟩
        rw [Utf.chk_bad (by intro e; have := congrArg List.length e; rw [List.length_take, List.length_nil] at this; omega) (by rw [hd]; decide), hd]; rfl
theorem ends_zero {post : List Int} : Utf.ends post 0 = (0, 0) := by
  cases post with
  | nil => rfl
  | cons c cs => rw [Utf.ends_stop]; rcases Utf.us_len c with g | g <;> omega
theorem ends_at (pre post : List Int) : Utf.ends (pre ++ post) (uns pre).length = ((encs pre).length, (uns pre).length) := by
  rw [Utf.ends_pre pre (Nat.le_refl _), Nat.sub_self, ends_zero]; rfl
theorem take_encs {mid : List Int} (k : Nat) : (encs mid).take (encs (fit mid k)).length = encs (fit mid k) := by
  obtain ⟨post, h1, _⟩ := fit_cut mid k
  have : encs mid = encs (fit mid k) ++ encs post := by rw [← Utf.encs_append, ← h1]
  rw [this, List.take_left]

/-- the characters between two places -/
def mids (cs : List Int) (p : Nat × Nat) : List Int := fit (skip cs p.1) (p.2 - p.1)
/-- the byte of a place -/
def off (cs : List Int) (l ch : Nat) : Nat := match (lns (encs cs))[l]? with
  | none => (encs cs).length
  | some p => p.1 + (Utf.ends (mids cs p) ch).1
/-- how many lines begin at a byte, or ahead of it; less one -/
def lineOf (L : List (Nat × Nat)) (a : Nat) : Nat := L.countP (fun x => decide (x.1 ≤ a)) - 1
/-- the place of a byte -/
def plc (cs : List Int) (a : Nat) : Nat × Nat := match (lns (encs cs))[lineOf (lns (encs cs)) a]? with
  | none => (0, 0)
  | some p => (lineOf (lns (encs cs)) a, (uns (fit (mids cs p) (a - p.1))).length)

/-- a line of a text: its span, its characters -/
structure Ln (cs : List Int) (i : Nat) (p : Nat × Nat) (mid : List Int) : Prop where
  at_ : (lns (encs cs))[i]? = some p
  sp : ∃ pre post, cs = pre ++ (mid ++ post) ∧ p.1 = (encs pre).length
  len : p.2 = p.1 + (encs mid).length
theorem ln_ex {cs : List Int} (h : Chars cs) {i : Nat} {p : Nat × Nat} (hp : (lns (encs cs))[i]? = some p) : ∃ mid, Ln cs i p mid := by
  obtain ⟨h1, h2⟩ := lns_bd h (List.mem_of_getElem? hp)
  have hi : i < (lns (encs cs)).length := by
    rcases Nat.lt_or_ge i (lns (encs cs)).length with q | q
    · exact q
    · rw [List.getElem?_eq_none q] at hp; cases hp
  obtain ⟨p', w, hp', hw⟩ := ln_both (encs cs) hi
  rw [hp] at hp'; cases hp'
  obtain ⟨pre, mid, post, e1, e2, e3⟩ := Bd.two h h1 h2 (ln_at _ hp hw).2.1
  exact ⟨mid, hp, ⟨pre, post, e1, e2⟩, e3⟩
section
variable {cs mid : List Int} {i : Nat} {p : Nat × Nat}
theorem Ln.chars (h : Ln cs i p mid) (hc : Chars cs) : Chars mid := by
  obtain ⟨pre, post, e, _⟩ := h.sp
  rw [e] at hc; exact hc.right.left
theorem Ln.le (h : Ln cs i p mid) : p.2 ≤ (encs cs).length := by
  obtain ⟨pre, post, e, e2⟩ := h.sp
  rw [h.len, e2, e, Utf.encs_append, Utf.encs_append, List.length_append, List.length_append]; omega
theorem Ln.cut (h : Ln cs i p mid) : (encs cs).drop p.1 = encs mid ++ (encs cs).drop p.2 := by
  obtain ⟨pre, post, e, e2⟩ := h.sp
  rw [h.len, e2, e, Utf.encs_append, Utf.encs_append, List.drop_left, ← List.drop_drop, List.drop_left, List.drop_left]
theorem Ln.text (h : Ln cs i p mid) : ((encs cs).drop p.1).take (p.2 - p.1) = encs mid := by
  rw [h.cut, show p.2 - p.1 = (encs mid).length by rw [h.len]; omega, List.take_left]
theorem Ln.part (h : Ln cs i p mid) {k : Nat} (hk : k ≤ (encs mid).length) : ((encs cs).drop p.1).take k = (encs mid).take k := by
  rw [h.cut, List.take_append_of_le_length hk]
theorem Ln.mids (h : Ln cs i p mid) (hc : Chars cs) : mids cs p = mid := by
  obtain ⟨pre, post, e, e2⟩ := h.sp
  rw [e] at hc
  unfold Lm.mids
  rw [h.len, e2, e, skip_pre hc.right, Nat.add_sub_cancel_left, fit_pre hc.right.right]
theorem Ln.off (h : Ln cs i p mid) (hc : Chars cs) (ch : Nat) : off cs i ch = p.1 + (Utf.ends mid ch).1 := by
  unfold Lm.off; rw [h.at_]; simp only [h.mids hc]
end
theorem off_out {cs : List Int} {l : Nat} (h : (lns (encs cs)).length ≤ l) (ch : Nat) : off cs l ch = (encs cs).length := by
  unfold off; rw [List.getElem?_eq_none h]
end Go.Proofs.Ytfpgnnjkojpmdaa.Lm
