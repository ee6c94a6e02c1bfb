/-
  Mathematics of lines: where lines end, the plain and the whole lines, their order. No program is named here.
-/
import Derived.Below
namespace Go.Proofs.Ytfpgnnjkojpmdaa.Lm
set_option linter.unusedVariables false

/-- how many bytes end a line where l begins -/
def esz : List Int → Nat
  | [] => 0
  | [x] => if x = 13 ∨ x = 10 then 1 else 0
  | x :: y :: _ => if x = 13 ∧ y = 10 then 2 else if x = 13 ∨ x = 10 then 1 else 0
/-- what ends the lines of l, l standing at the place p -/
def ends : Nat → List Int → List (Nat × Nat)
  | _, [] => []
  | p, [x] => if x = 13 ∨ x = 10 then [(p, p + 1)] else []
  | p, x :: y :: l => if x = 13 ∧ y = 10 then (p, p + 2) :: ends (p + 2) l else if x = 13 ∨ x = 10 then (p, p + 1) :: ends (p + 1) (y :: l) else ends (p + 1) (y :: l)
/-- the plain lines that have an end -/
def heads : Nat → List (Nat × Nat) → List (Nat × Nat)
  | _, [] => []
  | f, x :: es => (f, x.1) :: heads x.2 es
/-- the whole lines that have an end -/
def headw : Nat → List (Nat × Nat) → List (Nat × Nat)
  | _, [] => []
  | f, x :: es => (f, x.2) :: headw x.2 es
/-- where the last line begins -/
def lastTo : Nat → List (Nat × Nat) → Nat
  | f, [] => f
  | _, x :: es => lastTo x.2 es
def plains (f : Nat) (es : List (Nat × Nat)) (n : Nat) : List (Nat × Nat) := heads f es ++ [(lastTo f es, n)]
def wholes (f : Nat) (es : List (Nat × Nat)) (n : Nat) : List (Nat × Nat) := headw f es ++ [(lastTo f es, n)]
/-- the plain lines of a text -/
def lns (b : List Int) : List (Nat × Nat) := plains 0 (ends 0 b) b.length
/-- the whole lines of a text -/
def whs (b : List Int) : List (Nat × Nat) := wholes 0 (ends 0 b) b.length

theorem heads_snoc (es : List (Nat × Nat)) (x : Nat × Nat) : ∀ f, heads f (es ++ [x]) = heads f es ++ [(lastTo f es, x.1)] := by
  induction es with
  | nil => intro f; rfl
  | cons y es ih => intro f; simp only [List.cons_append, heads, lastTo, ih]
theorem headw_snoc (es : List (Nat × Nat)) (x : Nat × Nat) : ∀ f, headw f (es ++ [x]) = headw f es ++ [(lastTo f es, x.2)] := by
  induction es with
  | nil => intro f; rfl
  | cons y es ih => intro f; simp only [List.cons_append, headw, lastTo, ih]
theorem lastTo_snoc (es : List (Nat × Nat)) (x : Nat × Nat) : ∀ f, lastTo f (es ++ [x]) = x.2 := by
  induction es with
  | nil => intro f; rfl
  | cons y es ih => intro f; simp only [List.cons_append, lastTo, ih]
@[simp] theorem heads_length (es : List (Nat × Nat)) : ∀ f, (heads f es).length = es.length := by
  induction es with
  | nil => intro f; rfl
  | cons y es ih => intro f; simp only [heads, List.length_cons, ih]
@[simp] theorem headw_length (es : List (Nat × Nat)) : ∀ f, (headw f es).length = es.length := by
  induction es with
  | nil => intro f; rfl
  | cons y es ih => intro f; simp only [headw, List.length_cons, ih]
theorem lns_length (b : List Int) : (lns b).length = (ends 0 b).length + 1 := by simp [lns, plains]
theorem whs_length (b : List Int) : (whs b).length = (ends 0 b).length + 1 := by simp [whs, wholes]
theorem lns_ne (b : List Int) : 0 < (lns b).length := by rw [lns_length]; omega

theorem esz_le (l : List Int) : esz l ≤ 2 ∧ esz l ≤ l.length := by
  match l with
  | [] => simp [esz]
  | [x] => simp only [esz]; split <;> simp
  | x :: y :: l =>
    simp only [esz]
    split
    · simp
    · split <;> simp
theorem esz0 {x : Int} {l : List Int} (h1 : x ≠ 13) (h2 : x ≠ 10) : esz (x :: l) = 0 := by
  cases l <;> simp [esz, h1, h2]
theorem esz_feed (l : List Int) : esz (10 :: l) = 1 := by cases l <;> simp [esz]
theorem esz_two (l : List Int) : esz (13 :: 10 :: l) = 2 := by simp [esz]
theorem esz_back {l : List Int} (h : l.head? ≠ some 10) : esz (13 :: l) = 1 := by
  cases l with
  | nil => simp [esz]
  | cons y l => simp only [List.head?_cons, ne_eq, Option.some.injEq] at h; simp [esz, h]

theorem ends_step (p : Nat) {l : List Int} (h : l ≠ []) : ends p l = (if 0 < esz l then [(p, p + esz l)] else []) ++ ends (p + max (esz l) 1) (l.drop (max (esz l) 1)) := by
  match l with
  | [] => exact absurd rfl h
  | [x] => simp only [ends, esz]; split <;> simp [ends]
  | x :: y :: l =>
    simp only [ends, esz]
    split
    · simp
    · split <;> simp
theorem ends_nil (p : Nat) : ends p [] = [] := rfl
theorem ends_hit (p : Nat) {l : List Int} (h : 0 < esz l) : ends p l = (p, p + esz l) :: ends (p + esz l) (l.drop (esz l)) := by
  have hn : l ≠ [] := by rintro rfl; simp [esz] at h
  rw [ends_step p hn, if_pos h, Nat.max_eq_left (by omega)]; rfl
theorem ends_miss (p : Nat) {x : Int} {l : List Int} (h : esz (x :: l) = 0) : ends p (x :: l) = ends (p + 1) l := by
  rw [ends_step p (by simp), h]; simp
theorem ends_len_le (n : Nat) : ∀ (p : Nat) (l : List Int), l.length ≤ n → (ends p l).length ≤ l.length := by
  induction n with
  | zero => intro p l h; obtain rfl : l = [] := List.eq_nil_of_length_eq_zero (by omega); simp [ends]
  | succ n ih =>
    intro p l h
    by_cases hn : l = []
    · subst hn; simp [ends]
    · have := esz_le l
      have hp : 0 < l.length := List.length_pos_iff.2 hn
      have h2 := ih (p + max (esz l) 1) (l.drop (max (esz l) 1)) (by rw [List.length_drop]; omega)
      rw [ends_step p hn, List.length_append]
      rw [List.length_drop] at h2
      split <;> simp <;> omega
theorem ends_le (b : List Int) (p : Nat) : (ends p b).length ≤ b.length := ends_len_le _ p b (Nat.le_refl _)
theorem lns_le (b : List Int) : (lns b).length ≤ b.length + 1 := by rw [lns_length]; have := ends_le b 0; omega

/-- the ends lie one behind the other, from f on, within n -/
def Chain : Nat → List (Nat × Nat) → Nat → Prop
  | f, [], n => f ≤ n
  | f, x :: es, n => f ≤ x.1 ∧ x.1 < x.2 ∧ Chain x.2 es n
theorem Chain.mono {f g n : Nat} {es : List (Nat × Nat)} (h : Chain f es n) (hg : g ≤ f) : Chain g es n := by
  cases es with
  | nil => exact Nat.le_trans hg h
  | cons x es => exact ⟨Nat.le_trans hg h.1, h.2⟩
theorem chain_ends (n : Nat) : ∀ (p : Nat) (l : List Int), l.length ≤ n → Chain p (ends p l) (p + l.length) := by
  induction n with
  | zero => intro p l h; obtain rfl : l = [] := List.eq_nil_of_length_eq_zero (by omega); simp [ends, Chain]
  | succ n ih =>
    intro p l h
    by_cases hn : l = []
    · subst hn; simp [ends, Chain]
    · have he := esz_le l
      have hp : 0 < l.length := List.length_pos_iff.2 hn
      have h2 := ih (p + max (esz l) 1) (l.drop (max (esz l) 1)) (by rw [List.length_drop]; omega)
      rw [List.length_drop, show p + max (esz l) 1 + (l.length - max (esz l) 1) = p + l.length by omega] at h2
      rw [ends_step p hn]
      split
      · exact ⟨Nat.le_refl _, by simp; omega, by simpa [Nat.max_eq_left (show 1 ≤ esz l by omega)] using h2⟩
      · exact h2.mono (by omega)
theorem chain_lns (b : List Int) : Chain 0 (ends 0 b) b.length := by have := chain_ends _ 0 b (Nat.le_refl _); rwa [Nat.zero_add] at this
theorem Chain.last {es : List (Nat × Nat)} : ∀ {f n : Nat}, Chain f es n → f ≤ lastTo f es ∧ lastTo f es ≤ n := by
  induction es with
  | nil => intro f n h; exact ⟨Nat.le_refl _, h⟩
  | cons x es ih => intro f n h; obtain ⟨h1, h2, h3⟩ := h; have := ih h3; simp only [lastTo]; omega

/-- the lines: each begins where the one ahead of it ends (a whole one) -/
theorem lines_at {es : List (Nat × Nat)} : ∀ {f n : Nat}, Chain f es n → ∀ {i : Nat} {p w : Nat × Nat}, (plains f es n)[i]? = some p → (wholes f es n)[i]? = some w →
    p.1 = w.1 ∧ f ≤ p.1 ∧ p.1 ≤ p.2 ∧ p.2 ≤ w.2 ∧ w.2 ≤ n ∧ (∀ q, (plains f es n)[i + 1]? = some q → w.2 = q.1 ∧ p.1 < q.1 ∧ p.2 < w.2) ∧ (i + 1 = (plains f es n).length → p.2 = n ∧ w.2 = n) := by
  induction es with
  | nil =>
    intro f n h i p w hp hw
    cases i with
    | zero =>
      simp [plains, wholes, heads, headw, lastTo] at hp hw
      subst hp; subst hw
      exact ⟨rfl, Nat.le_refl _, h, Nat.le_refl _, Nat.le_refl _, by simp [plains, heads], fun _ => ⟨rfl, rfl⟩⟩
    | succ i => simp [plains, heads] at hp
  | cons x es ih =>
    intro f n h i p w hp hw
    obtain ⟨h1, h2, h3⟩ := h
    have hl := h3.last
    cases i with
    | zero =>
      simp [plains, wholes, heads, headw, lastTo] at hp hw
      subst hp; subst hw
      refine ⟨rfl, Nat.le_refl _, h1, Nat.le_of_lt h2, by omega, ?_, ?_⟩
      · intro q hq
        have hq' : (plains x.2 es n)[0]? = some q := by simpa [plains, heads, lastTo] using hq
        have : q.1 = x.2 := by
          cases es with
          | nil => simp [plains, heads, lastTo] at hq'; subst hq'; rfl
          | cons y es => simp [plains, heads, lastTo] at hq'; subst hq'; rfl
        simp; omega
      · intro e; simp [plains] at e
    | succ i =>
      have hp' : (plains x.2 es n)[i]? = some p := by simpa [plains, heads, lastTo] using hp
      have hw' : (wholes x.2 es n)[i]? = some w := by simpa [wholes, headw, lastTo] using hw
      obtain ⟨a1, a2, a3, a4, a5, a6, a7⟩ := ih h3 hp' hw'
      refine ⟨a1, by omega, a3, a4, a5, ?_, ?_⟩
      · intro q hq
        exact a6 q (by simpa [plains, heads, lastTo] using hq)
      · intro e; exact a7 (by simp [plains] at e ⊢; omega)

/-- of a text -/
theorem ln_at (b : List Int) {i : Nat} {p w : Nat × Nat} (hp : (lns b)[i]? = some p) (hw : (whs b)[i]? = some w) :
    p.1 = w.1 ∧ p.1 ≤ p.2 ∧ p.2 ≤ w.2 ∧ w.2 ≤ b.length ∧ (∀ q, (lns b)[i + 1]? = some q → w.2 = q.1 ∧ p.1 < q.1 ∧ p.2 < w.2) ∧ (i + 1 = (lns b).length → p.2 = b.length ∧ w.2 = b.length) := by
  have := lines_at (chain_lns b) hp hw
  exact ⟨this.1, this.2.2.1, this.2.2.2.1, this.2.2.2.2.1, this.2.2.2.2.2.1, this.2.2.2.2.2.2⟩
theorem ln_both (b : List Int) {i : Nat} (h : i < (lns b).length) : ∃ p w, (lns b)[i]? = some p ∧ (whs b)[i]? = some w := by
  have h' : i < (whs b).length := by rw [whs_length, ← lns_length]; exact h
  exact ⟨_, _, List.getElem?_eq_getElem h, List.getElem?_eq_getElem h'⟩
theorem ln_first (b : List Int) {p : Nat × Nat} (h : (lns b)[0]? = some p) : p.1 = 0 := by
  unfold lns plains at h
  cases he : ends 0 b with
  | nil => rw [he] at h; simp [heads, lastTo] at h; subst h; rfl
  | cons x es => rw [he] at h; simp [heads, lastTo] at h; subst h; rfl
/-- where lines begin rises -/
theorem ln_rise (b : List Int) : ∀ (k : Nat) {i : Nat} {p q : Nat × Nat}, (lns b)[i]? = some p → (lns b)[i + k]? = some q → p.1 + k ≤ q.1 := by
  intro k
  induction k with
  | zero => intro i p q hp hq; rw [Nat.add_zero, hp] at hq; cases hq; omega
  | succ k ih =>
    intro i p q hp hq
    have hlt : i + (k + 1) < (lns b).length := by
      rcases Nat.lt_or_ge (i + (k + 1)) (lns b).length with g | g
      · exact g
      · rw [List.getElem?_eq_none g] at hq; cases hq
    obtain ⟨r, w, hr, hw⟩ := ln_both b (i := i + k) (by omega)
    have h1 := ih hp hr
    have h2 := ((ln_at b hr hw).2.2.2.2.1 q (by rw [Nat.add_assoc]; exact hq)).2.1
    omega
end Go.Proofs.Ytfpgnnjkojpmdaa.Lm
