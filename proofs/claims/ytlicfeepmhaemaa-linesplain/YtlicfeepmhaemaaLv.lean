/-
  Mathematics of lines: what stands in a plain line, and what ends it. No program is named here.
-/
import Derived.Test.YtlicfeepmhaemaaLm
namespace Go.Proofs.Ytlicfeepmhaemaa.Lm
set_option linter.unusedVariables false

/-- no byte 10 or 13 from f to p -/
def Clean (b : List Int) (f p : Nat) : Prop := ∀ k x, f ≤ k → k < p → b[k]? = some x → x ≠ 10 ∧ x ≠ 13
/-- the bytes from s to t end a line -/
def End (b : List Int) (s t : Nat) : Prop := (t = s + 1 ∧ b[s]? = some 10) ∨ (t = s + 2 ∧ b[s]? = some 13 ∧ b[s + 1]? = some 10) ∨ (t = s + 1 ∧ b[s]? = some 13 ∧ b[s + 1]? ≠ some 10)
def Fine (b : List Int) : Nat → List (Nat × Nat) → Prop
  | f, [] => Clean b f b.length
  | f, e :: es => Clean b f e.1 ∧ End b e.1 e.2 ∧ Fine b e.2 es
theorem clean_nil (b : List Int) (f : Nat) : Clean b f f := fun k x h1 h2 => by omega
theorem clean_snoc {b : List Int} {f p : Nat} {x : Int} (h : Clean b f p) (hx : b[p]? = some x) (h1 : x ≠ 10) (h2 : x ≠ 13) : Clean b f (p + 1) := by
  intro k y hk hk2 hy
  by_cases e : k = p
  · subst e; rw [hx] at hy; cases hy; exact ⟨h1, h2⟩
  · exact h k y hk (by omega) hy
theorem esz_end {b : List Int} {p : Nat} (h : 0 < esz (b.drop p)) : End b p (p + esz (b.drop p)) := by
  have h0 : (b.drop p)[0]? = b[p]? := by rw [List.getElem?_drop]; simp
  have h1 : (b.drop p)[1]? = b[p + 1]? := by rw [List.getElem?_drop]
  match hb : b.drop p with
  | [] => rw [hb] at h; simp [esz] at h
  | [x] =>
    rw [hb] at h h0 h1
    simp at h0 h1
    simp only [esz] at h ⊢
    split
    · rename_i hx
      rcases hx with rfl | rfl
      · refine .inr (.inr ⟨rfl, h0.symm, ?_⟩); rw [List.getElem?_eq_none h1]; simp
      · exact .inl ⟨rfl, h0.symm⟩
    · rename_i hx; simp [hx] at h
  | x :: y :: l =>
    rw [hb] at h h0 h1
    simp at h0 h1
    simp only [esz] at h ⊢
    split
    · rename_i hx
      obtain ⟨rfl, rfl⟩ := hx
      exact .inr (.inl ⟨rfl, h0.symm, h1.symm⟩)
    · rename_i hxy
      split
      · rename_i hx
        rcases hx with rfl | rfl
        · refine .inr (.inr ⟨rfl, h0.symm, ?_⟩)
          rw [← h1]
          intro e
          cases e
          exact hxy ⟨rfl, rfl⟩
        · exact .inl ⟨rfl, h0.symm⟩
      · rename_i hx; simp [hxy, hx] at h
theorem esz_none {b : List Int} {p : Nat} {x : Int} (hx : b[p]? = some x) (h : esz (b.drop p) = 0) : x ≠ 10 ∧ x ≠ 13 := by
  have h0 : (b.drop p)[0]? = b[p]? := by rw [List.getElem?_drop]; simp
  match hb : b.drop p with
  | [] => rw [hb, hx] at h0; cases h0
  | [y] =>
    rw [hb] at h h0
    simp only [List.getElem?_cons_zero] at h0
    rw [hx] at h0; cases h0
    simp only [esz] at h
    split at h
    · cases h
    · rename_i g; exact ⟨fun e => g (.inr e), fun e => g (.inl e)⟩
  | y :: z :: l =>
    rw [hb] at h h0
    simp only [List.getElem?_cons_zero] at h0
    rw [hx] at h0; cases h0
    simp only [esz] at h
    split at h
    · cases h
    · split at h
      · cases h
      · rename_i g; exact ⟨fun e => g (.inr e), fun e => g (.inl e)⟩
theorem fine_ends (b : List Int) (n : Nat) : ∀ (p f : Nat), b.length - p ≤ n → p ≤ b.length → Clean b f p → Fine b f (ends p (b.drop p)) := by
  induction n with
  | zero =>
    intro p f h hp hc
    obtain rfl : p = b.length := by omega
    rw [List.drop_length]
    exact hc
  | succ n ih =>
    intro p f h hp hc
    by_cases hl : p = b.length
    · subst hl; rw [List.drop_length]; exact hc
    · have hne : b.drop p ≠ [] := by intro e; have := congrArg List.length e; simp at this; omega
      have he := esz_le (b.drop p)
      rw [List.length_drop] at he
      rw [ends_step p hne, List.drop_drop]
      split
      · rename_i hz
        refine ⟨hc, esz_end hz, ?_⟩
        rw [Nat.max_eq_left (by omega)]
        exact ih _ _ (by omega) (by omega) (clean_nil b _)
      · rename_i hz
        have hz0 : esz (b.drop p) = 0 := by omega
        rw [hz0, List.nil_append]
        have hx : b[p]? = some (b[p]'(by omega)) := List.getElem?_eq_getElem _
        have hn := esz_none hx hz0
        exact ih _ _ (by simp; omega) (by simp; omega) (clean_snoc hc hx hn.1 hn.2)
theorem fine_at {b : List Int} {es : List (Nat × Nat)} : ∀ {f : Nat}, Fine b f es → ∀ {i : Nat} {p w : Nat × Nat}, (plains f es b.length)[i]? = some p → (wholes f es b.length)[i]? = some w →
    Clean b p.1 p.2 ∧ (i + 1 < (plains f es b.length).length → End b p.2 w.2) := by
  induction es with
  | nil =>
    intro f h i p w hp hw
    cases i with
    | zero =>
      simp [plains, wholes, heads, headw, lastTo] at hp hw
      subst hp; subst hw
      exact ⟨h, by simp [plains, heads]⟩
    | succ i => simp [plains, heads] at hp
  | cons x es ih =>
    intro f h i p w hp hw
    obtain ⟨h1, h2, h3⟩ := h
    cases i with
    | zero =>
      simp [plains, wholes, heads, headw, lastTo] at hp hw
      subst hp; subst hw
      exact ⟨h1, fun _ => h2⟩
    | succ i =>
      have hp' : (plains x.2 es b.length)[i]? = some p := by simpa [plains, heads, lastTo] using hp
      have hw' : (wholes x.2 es b.length)[i]? = some w := by simpa [wholes, headw, lastTo] using hw
      obtain ⟨a1, a2⟩ := ih h3 hp' hw'
      exact ⟨a1, fun hl => a2 (by simp [plains] at hl ⊢; omega)⟩
theorem ln_fine (b : List Int) {i : Nat} {p w : Nat × Nat} (hp : (lns b)[i]? = some p) (hw : (whs b)[i]? = some w) : Clean b p.1 p.2 ∧ (i + 1 < (lns b).length → End b p.2 w.2) :=
  fine_at (by have := fine_ends b b.length 0 0 (by omega) (Nat.zero_le _) (clean_nil b 0); rwa [List.drop_zero] at this) hp hw
end Go.Proofs.Ytlicfeepmhaemaa.Lm
