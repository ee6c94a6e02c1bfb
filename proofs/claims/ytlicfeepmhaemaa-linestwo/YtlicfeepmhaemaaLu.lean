/-
  Mathematics of lines: a text behind a text. No program is named here.
-/
import Derived.Test.YtlicfeepmhaemaaLm
namespace Go.Proofs.Ytlicfeepmhaemaa.Lm
set_option linter.unusedVariables false

theorem ends_len_any (n : Nat) : ∀ (p q : Nat) (l : List Int), l.length ≤ n → (ends p l).length = (ends q l).length := by
  induction n with
  | zero => intro p q l h; obtain rfl : l = [] := List.eq_nil_of_length_eq_zero (by omega); rfl
  | succ n ih =>
    intro p q l h
    by_cases hn : l = []
    · subst hn; rfl
    · have he := esz_le l
      have hp : 0 < l.length := List.length_pos_iff.2 hn
      have h2 := ih (p + max (esz l) 1) (q + max (esz l) 1) (l.drop (max (esz l) 1)) (by rw [List.length_drop]; omega)
      rw [ends_step p hn, ends_step q hn, List.length_append, List.length_append, h2]
      split <;> rfl
theorem ends_len (p q : Nat) (l : List Int) : (ends p l).length = (ends q l).length := ends_len_any _ p q l (Nat.le_refl _)
/-- what ends the first one is 13, and 10 begins the second one -/
def meet (a b : List Int) : Nat := if a.getLast? = some 13 ∧ b.head? = some 10 then 1 else 0
theorem meet_nil (b : List Int) : meet [] b = 0 := by simp [meet]
theorem meet_cons (x y : Int) (a b : List Int) : meet (x :: y :: a) b = meet (y :: a) b := by simp [meet]
theorem ends_append (n : Nat) : ∀ (a b : List Int) (p : Nat), a.length ≤ n → (ends p (a ++ b)).length + meet a b = (ends p a).length + (ends p b).length := by
  induction n with
  | zero => intro a b p h; obtain rfl : a = [] := List.eq_nil_of_length_eq_zero (by omega); simp [meet_nil, ends]
  | succ n ih =>
    intro a b p h
    match a, h with
    | [], _ => simp [meet_nil, ends]
    | [x], _ =>
      match b with
      | [] => simp [meet, ends]
      | y :: b =>
        have hl := ends_len (p + 1) p (y :: b)
        by_cases h13 : x = 13
        · subst h13
          by_cases h10 : y = 10
          · subst h10
            have h3 := ends_hit p (l := 10 :: b) (by rw [esz_feed]; omega)
            rw [esz_feed] at h3
            have hl' := ends_len (p + 2) (p + 1) b
            simp [meet, ends, h3, hl']; omega
          · simp [meet, ends, h10, hl]; omega
        · by_cases h10 : x = 10
          · subst h10
            simp [meet, ends, hl]; omega
          · simp [meet, ends, h13, h10, hl]
    | x :: y :: a, h =>
      by_cases h2 : x = 13 ∧ y = 10
      · obtain ⟨rfl, rfl⟩ := h2
        have hi := ih a b (p + 2) (by simp at h; omega)
        have hl := ends_len (p + 2) p b
        have hm : meet (13 :: 10 :: a) b = meet a b := by
          cases a with
          | nil => simp [meet]
          | cons z a => rw [meet_cons, meet_cons]
        rw [hm]
        simp only [List.cons_append, ends, and_self, if_true, List.length_cons]
        omega
      · have hi := ih (y :: a) b (p + 1) (by simp at h ⊢; omega)
        have hl := ends_len (p + 1) p b
        rw [meet_cons]
        simp only [List.cons_append, ends, h2, if_false] at hi ⊢
        split
        · simp only [List.length_cons]; omega
        · omega
theorem lns_append (a b : List Int) : (lns (a ++ b)).length + meet a b + 1 = (lns a).length + (lns b).length := by
  have := ends_append _ a b 0 (Nat.le_refl _)
  rw [lns_length, lns_length, lns_length]
  omega
end Go.Proofs.Ytlicfeepmhaemaa.Lm
