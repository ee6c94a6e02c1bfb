/-
  Plain mathematics of UTF-8, more: characters one behind the other. Nothing of the program is named here.
-/
import Derived.Test.YtjkaccmhpilojaaUtp
namespace Go.Proofs.Ytjkaccmhpilojaa.Utf
set_option linter.unusedVariables false

/-- going over characters, with a bound on how many steps: where it ends, how many there were, what stopped it -/
def wk : Nat → List Int → Nat × Nat × Int
  | 0, _ => (0, 0, 0)
  | _ + 1, [] => (0, 0, 0)
  | f + 1, a :: r =>
    if (dec (a :: r)).2.2 = 0 then
      ((dec (a :: r)).2.1.toNat + (wk f ((a :: r).drop (dec (a :: r)).2.1.toNat)).1, 1 + (wk f ((a :: r).drop (dec (a :: r)).2.1.toNat)).2.1, (wk f ((a :: r).drop (dec (a :: r)).2.1.toNat)).2.2)
    else (0, 0, (dec (a :: r)).2.2)

def chk (l : List Int) : Nat × Nat × Int := wk l.length l

/-- what dec tells has at least one byte, and is there -/
theorem dec_good {l : List Int} (hb : ∀ x ∈ l, 0 ≤ x ∧ x ≤ 255) (h : (dec l).2.2 = 0) : ∃ c r, form c ≠ 0 ∧ l = enc c ++ r ∧ dec l = (c, form c, 0) := by
  rcases way l hb with ⟨_, e⟩ | w | ⟨_, _, _, _, _, _, e⟩ | e
  · rw [e] at h; cases h
  · exact w
  · rw [e] at h; cases h
  · rw [e] at h; cases h
theorem dec_bad {l : List Int} (hb : ∀ x ∈ l, 0 ≤ x ∧ x ≤ 255) (h : (dec l).2.2 ≠ 0) : dec l = (0, 0, (dec l).2.2) := by
  rcases way l hb with ⟨_, e⟩ | ⟨c, _, _, _, e⟩ | ⟨_, _, _, _, _, _, e⟩ | e
  · rw [e]
  · rw [e] at h; exact absurd rfl h
  · rw [e]
  · rw [e]
theorem toNat_form (c : Int) : (form c).toNat = (enc c).length := by have := enc_length c; omega
theorem drop_enc (c : Int) (r : List Int) : (enc c ++ r).drop (form c).toNat = r := by rw [toNat_form, List.drop_left]

theorem wk_enough (n : Nat) : ∀ (f : Nat) (l : List Int), (∀ x ∈ l, 0 ≤ x ∧ x ≤ 255) → l.length ≤ n → l.length ≤ f → wk f l = wk l.length l := by
  induction n with
  | zero =>
    intro f l hb hn hf
    obtain rfl : l = [] := List.eq_nil_of_length_eq_zero (by omega)
    cases f <;> rfl
  | succ n ih =>
    intro f l hb hn hf
    match l, hb, hn, hf with
    | [], _, _, _ => cases f <;> rfl
    | a :: r, hb, hn, hf =>
      match f, hf with
      | f + 1, hf =>
        by_cases h : (dec (a :: r)).2.2 = 0
        · obtain ⟨c, t, hc, hl, e⟩ := dec_good hb h
          have hlen := congrArg List.length hl
          have h1 : 1 ≤ (enc c).length := List.length_pos_iff.2 (enc_ne hc)
          rw [List.length_append] at hlen
          have hd : (a :: r).drop (dec (a :: r)).2.1.toNat = t := by rw [e, hl]; exact drop_enc c t
          have hbt : ∀ x ∈ t, 0 ≤ x ∧ x ≤ 255 := fun x hx => hb x (by rw [hl]; exact List.mem_append_right _ hx)
          simp only [List.length_cons] at hn hf hlen ⊢
          have g1 : wk f t = wk t.length t := ih f t hbt (by omega) (by omega)
          have g2 : wk r.length t = wk t.length t := ih r.length t hbt (by omega) (by omega)
          simp only [wk, if_pos h, hd, g1, g2]
        · simp only [List.length_cons, wk, if_neg h]

theorem chk_nil : chk [] = (0, 0, 0) := rfl
theorem chk_good {c : Int} (hc : form c ≠ 0) {r : List Int} (hr : ∀ x ∈ r, 0 ≤ x ∧ x ≤ 255) : chk (enc c ++ r) = ((enc c).length + (chk r).1, 1 + (chk r).2.1, (chk r).2.2) := by
  have hb : ∀ x ∈ enc c ++ r, 0 ≤ x ∧ x ≤ 255 := fun x hx => by
    rcases List.mem_append.1 hx with g | g
    · exact enc_byte c x g
    · exact hr x g
  have e := dec_enc hc r
  have h1 : 1 ≤ (enc c).length := List.length_pos_iff.2 (enc_ne hc)
  have hd := drop_enc c r
  rw [toNat_form] at hd
  unfold chk
  cases hl : enc c ++ r with
  | nil => exact absurd (List.append_eq_nil_iff.1 hl).1 (enc_ne hc)
  | cons a t =>
    have hlen := congrArg List.length hl
    rw [List.length_append] at hlen
    simp only [List.length_cons] at hlen ⊢
    rw [hl] at e hd
    have g : wk t.length r = wk r.length r := wk_enough t.length t.length r hr (by omega) (by omega)
    simp only [wk, e, toNat_form, hd, g, if_true]
theorem chk_bad {l : List Int} (hne : l ≠ []) (h : (dec l).2.2 ≠ 0) : chk l = (0, 0, (dec l).2.2) := by
  unfold chk
  match l, hne with
  | a :: r, _ => simp only [List.length_cons, wk, if_neg h]

/-- a bound on what is told -/
theorem chk_le (n : Nat) : ∀ (l : List Int), (∀ x ∈ l, 0 ≤ x ∧ x ≤ 255) → l.length ≤ n → (chk l).1 ≤ l.length ∧ (chk l).2.1 ≤ (chk l).1 ∧ ((chk l).2.2 = 0 → (chk l).1 = l.length) := by
  induction n with
  | zero =>
    intro l hb hn
    obtain rfl : l = [] := List.eq_nil_of_length_eq_zero (by omega)
    simp [chk_nil]
  | succ n ih =>
    intro l hb hn
    by_cases hne : l = []
    · subst hne; simp [chk_nil]
    · by_cases h : (dec l).2.2 = 0
      · obtain ⟨c, t, hc, rfl, e⟩ := dec_good hb h
        have h1 : 1 ≤ (enc c).length := List.length_pos_iff.2 (enc_ne hc)
        have hbt : ∀ x ∈ t, 0 ≤ x ∧ x ≤ 255 := fun x hx => hb x (List.mem_append_right _ hx)
        rw [List.length_append] at hn ⊢
        have := ih t hbt (by omega)
        rw [chk_good hc hbt]
        simp only
        omega
      · rw [chk_bad hne h]
        simp [h]

/-- a text, and whatever stands behind it -/
theorem chk_append (n : Nat) : ∀ (l r : List Int), (∀ x ∈ l, 0 ≤ x ∧ x ≤ 255) → (∀ x ∈ r, 0 ≤ x ∧ x ≤ 255) → l.length ≤ n → (chk l).2.2 = 0 →
    chk (l ++ r) = (l.length + (chk r).1, (chk l).2.1 + (chk r).2.1, (chk r).2.2) := by
  induction n with
  | zero =>
    intro l r hb hr hn _
    obtain rfl : l = [] := List.eq_nil_of_length_eq_zero (by omega)
    simp [chk_nil]
  | succ n ih =>
    intro l r hb hr hn h0
    by_cases hne : l = []
    · subst hne; simp [chk_nil]
    · by_cases h : (dec l).2.2 = 0
      · obtain ⟨c, t, hc, rfl, e⟩ := dec_good hb h
        have h1 : 1 ≤ (enc c).length := List.length_pos_iff.2 (enc_ne hc)
        have hbt : ∀ x ∈ t, 0 ≤ x ∧ x ≤ 255 := fun x hx => hb x (List.mem_append_right _ hx)
        have hbtr : ∀ x ∈ t ++ r, 0 ≤ x ∧ x ≤ 255 := fun x hx => by
          rcases List.mem_append.1 hx with g | g
          · exact hbt x g
          · exact hr x g
        rw [List.length_append] at hn
        rw [chk_good hc hbt] at h0
        have := ih t r hbt hr (by omega) h0
        rw [List.append_assoc, chk_good hc hbtr, this, chk_good hc hbt, List.length_append]
        simp only [Prod.mk.injEq, and_true]
        omega
      · rw [chk_bad hne h] at h0
        exact absurd h0 h
end Go.Proofs.Ytjkaccmhpilojaa.Utf
