/-
  Plain mathematics of JSON's strings: what a string tells, quoted anew, is not longer than the string. Nothing of the program is named here.
-/
import Derived.Test.YtjkaccmhpilojaaEp
namespace Go.Proofs.Ytjkaccmhpilojaa.Em
set_option linter.unusedVariables false
set_option linter.unusedSimpArgs false
open Utf

theorem q1_short {c : Int} (h : sh c ≠ 0) : (q1 c).length = 2 := by unfold q1; rw [if_pos h]; rfl
theorem q1_cases {c : Int} (h : form c ≠ 0) : (q1 c).length = 2 ∨ ((q1 c).length = 6 ∧ 0 ≤ c ∧ c < 32) ∨ ((q1 c).length = (enc c).length ∧ 32 ≤ c) := by
  rcases q1_ways h with ⟨e, _⟩ | ⟨e, h0, h1⟩ | ⟨e, ok⟩
  · left; rw [e]; rfl
  · right; left; exact ⟨by rw [e]; rfl, h0, h1⟩
  · right; right; exact ⟨by rw [e], ok.2.1⟩
theorem enc_le_q1 {c : Int} (h : form c ≠ 0) : (enc c).length ≤ (q1 c).length := by
  rcases q1_ways h with ⟨e, hs⟩ | ⟨e, h0, h1⟩ | ⟨e, ok⟩
  · have hb := (lg_sh hs)
    have f := form_eq1 (c := c) (by omega) (by omega)
    have := enc_length c
    rw [e]; simp only [List.length_cons, List.length_nil]; omega
  · have f := form_eq1 (c := c) (by omega) (by omega)
    have := enc_length c
    rw [e]; simp only [List.length_cons, List.length_nil]; omega
  · rw [e]; exact Nat.le_refl _
theorem encs_le_qs : ∀ {cs : List Int}, Chars cs → (encs cs).length ≤ (qs cs).length
  | [], _ => by simp
  | c :: cs, h => by
    have ih := encs_le_qs (cs := cs) h.tail
    have h1 := enc_le_q1 h.head
    rw [encs_cons, qs_cons, List.length_append, List.length_append]; omega
/-- an escape is not shorter than its character, quoted -/
theorem esc_quoted {l : List Int} (h : (esc l).2.2 = 0) : (q1 (esc l).1).length ≤ (esc l).2.1 := by
  have hg := esc_good h
  have hc := q1_cases hg.1
  rcases ways l with ⟨e, he, h'⟩ | ⟨x, k, r, rfl, hk, h0, h'⟩ | ⟨x, a, b, c, d, t, rfl, hd, hn, h'⟩ | ⟨x, a, b, c, d, t, m, rfl, hd, h0, h1, hm, h'⟩ | ⟨x, a, b, c, d, t, rfl, hd, h0, h1, hm, h'⟩
  · rw [h'] at h; dsimp only at h; omega
  · rw [h'] at hc hg ⊢
    dsimp only at hc hg ⊢
    rcases hc with hc | ⟨hc, h1, h2⟩ | ⟨hc, h1⟩
    · omega
    · exfalso
      have hs : sh (lg k) ≠ 0 := by
        unfold lg at h0 h1 h2 ⊢
        repeat' split at h2
        all_goals (first | omega | (simp_all [sh]; done))
      rw [q1_short hs] at hc; omega
    · omega
  all_goals
    rw [h'] at hc hg ⊢
    dsimp only at hc hg ⊢
    omega
theorem ub_good_q {l : List Int} (hb : ∀ x ∈ l, 0 ≤ x ∧ x ≤ 255) (h : (ub l).2.2 = 0) : ∃ cs, Chars cs ∧ (ub l).1 = encs cs ∧ (ub l).1.length + 1 ≤ (ub l).2.1 ∧ (qs cs).length + 1 ≤ (ub l).2.1 ∧ (ub l).2.1 ≤ l.length := by
  have key : ∀ n : Nat, ∀ l : List Int, (∀ x ∈ l, 0 ≤ x ∧ x ≤ 255) → l.length ≤ n → (ub l).2.2 = 0 → ∃ cs, Chars cs ∧ (ub l).1 = encs cs ∧ (ub l).1.length + 1 ≤ (ub l).2.1 ∧ (qs cs).length + 1 ≤ (ub l).2.1 ∧ (ub l).2.1 ≤ l.length := by
    intro n
    induction n with
    | zero =>
      intro l hb hn h
      obtain rfl : l = [] := List.eq_nil_of_length_eq_zero (by omega)
      rw [ub_nil] at h; exact absurd h (by decide)
    | succ n ih =>
      intro l hb hn h
      rcases goes l hb with ⟨hl, h'⟩ | ⟨t, hl, h'⟩ | ⟨a, t, hl, ha, h'⟩ | ⟨t, hl, he, h'⟩ | ⟨t, hl, he, h'⟩ | ⟨a, t, hl, _, _, _, _, h'⟩ | ⟨c, t, hc, hl, h'⟩
      · rw [h'] at h; exact absurd h (by decide)
      · rw [h', hl]; exact ⟨[], Chars.nil, rfl, by simp, by simp [qs_nil], by simp⟩
      · rw [h'] at h; exact absurd h (by decide)
      · rw [h'] at h; exact absurd h he
      · have hg := esc_good he
        have hq := esc_quoted he
        rw [h', bnd_err] at h
        obtain ⟨cs, hc, h1, h2, h4, h3⟩ := ih (l.drop (esc l).2.1) (fun x hx => hb x (List.mem_of_mem_drop hx)) (by rw [List.length_drop]; omega) h
        rw [List.length_drop] at h3
        rw [h', bnd_ok h]
        exact ⟨(esc l).1 :: cs, Chars.cons hg.1 hc, by rw [encs_cons, h1], by dsimp only; rw [List.length_append]; omega, by dsimp only; rw [qs_cons, List.length_append]; omega, by dsimp only; omega⟩
      · rw [h'] at h; exact absurd h (by decide)
      · have h1 := List.length_pos_iff.2 (enc_ne hc.1)
        have hlen : l.length = (enc c).length + t.length := by rw [hl, List.length_append]
        have hq : q1 c = enc c := by
          obtain ⟨h0, g1, g2, g3⟩ := hc
          unfold q1
          have hs : sh c = 0 := by unfold sh; rw [if_neg (by omega), if_neg (by omega), if_neg (by omega), if_neg (by omega), if_neg (by omega), if_neg (by omega)]
          rw [if_neg (fun g => g hs), if_neg (by omega)]
        rw [h', bnd_err] at h
        obtain ⟨cs, hcs, k1, k2, k4, k3⟩ := ih t (fun x hx => hb x (by rw [hl]; exact List.mem_append_right _ hx)) (by omega) h
        rw [h', bnd_ok h]
        exact ⟨c :: cs, Chars.cons hc.1 hcs, by rw [encs_cons, k1], by dsimp only; rw [List.length_append]; omega, by dsimp only; rw [qs_cons, hq, List.length_append]; omega, by dsimp only; omega⟩
  exact key l.length l hb (Nat.le_refl _) h
theorem unq_good_q {l : List Int} (hb : ∀ x ∈ l, 0 ≤ x ∧ x ≤ 255) (h : (unq l).2.2 = 0) : ∃ cs, Chars cs ∧ (unq l).1 = encs cs ∧ (unq l).1.length + 2 ≤ (unq l).2.1 ∧ (quo cs).length ≤ (unq l).2.1 ∧ (unq l).2.1 ≤ l.length ∧ unq (l.take (unq l).2.1) = unq l := by
  rcases l with _ | ⟨a, r⟩
  · exact absurd h (by decide)
  · have hbr : ∀ x ∈ r, 0 ≤ x ∧ x ≤ 255 := fun x hx => hb x (List.mem_cons_of_mem _ hx)
    by_cases g : a = 34
    · subst g
      rw [unq_yes] at h
      have h0 : (ub r).2.2 = 0 := by rw [bnd_err] at h; exact h
      obtain ⟨cs, hc, h1, h2, h4, h3⟩ := ub_good_q hbr h0
      have hl := ub_local hbr h0 (r := []) (by simp)
      rw [List.append_nil] at hl
      have e : unq (34 :: r) = ((ub r).1, 1 + (ub r).2.1, 0) := by rw [unq_yes, bnd_ok h0]; rfl
      rw [e]
      refine ⟨cs, hc, h1, by dsimp only; omega, ?_, by simp only [List.length_cons]; omega, ?_⟩
      · dsimp only; unfold quo; rw [List.length_cons, List.length_append]; simp only [List.length_cons, List.length_nil]; omega
      · have : (34 :: r).take (1 + (ub r).2.1) = 34 :: r.take (ub r).2.1 := by rw [Nat.add_comm, List.take_succ_cons]
        rw [this, unq_yes, hl, bnd_ok h0]; rfl
    · rw [unq_no g] at h; exact absurd h (by decide)
end Go.Proofs.Ytjkaccmhpilojaa.Em
