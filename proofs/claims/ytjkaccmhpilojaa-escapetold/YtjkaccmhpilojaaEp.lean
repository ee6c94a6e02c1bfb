/-
  Plain mathematics of JSON's strings, more: nothing behind a string counts; two escapes with u. Nothing of the program is named here.
-/
import Derived.Test.YtjkaccmhpilojaaEo
namespace Go.Proofs.Ytjkaccmhpilojaa.Em
set_option linter.unusedVariables false
set_option linter.unusedSimpArgs false
open Utf

/-- where an escape's second half may stand is seen in the string itself -/
theorem lo_local {t r : List Int} (hb : ∀ x ∈ t, 0 ≤ x ∧ x ≤ 255) (hr : ∀ x ∈ r, 0 ≤ x ∧ x ≤ 255) (h0 : (ub t).2.2 = 0) (hi : ub (t.take (ub t).2.1 ++ r) = ub t) (h : lo t = none) : lo (t.take (ub t).2.1 ++ r) = none := by
  obtain ⟨_, _, _, _, hle⟩ := ub_good hb h0
  cases hm : lo (t.take (ub t).2.1 ++ r) with
  | none => rfl
  | some m =>
    exfalso
    obtain ⟨p, q, s, u, v, ht, hd, rfl, h2, h3⟩ := lo_some hm
    have hbt : ∀ x ∈ t.take (ub t).2.1 ++ r, 0 ≤ x ∧ x ≤ 255 := fun x hx => by
      rcases List.mem_append.1 hx with g | g
      · exact hb x (List.mem_of_mem_take g)
      · exact hr x g
    have he : esc (92 :: 117 :: p :: q :: s :: u :: v) = (65533, 6, 0) := esc_half hd (by omega) (by omega) (fun g => by omega)
    rw [ht] at hi hbt
    have hbv : ∀ x ∈ v, 0 ≤ x ∧ x ≤ 255 := fun x hx => hbt x (by simp [hx])
    have hs := ub_esc (r := 117 :: p :: q :: s :: u :: v) (fun x hx => hbt x (List.mem_cons_of_mem _ hx)) (by rw [he])
    rw [he] at hs
    simp only [List.drop_succ_cons, List.drop_zero] at hs
    rw [hi] at hs
    have hv0 : (ub v).2.2 = 0 := by rw [hs, bnd_err] at h0; exact h0
    obtain ⟨_, _, _, hv1, _⟩ := ub_good hbv hv0
    have hm7 : 7 ≤ (ub t).2.1 := by rw [hs, bnd_ok hv0]; dsimp only; omega
    have e6 : t.take 6 = [92, 117, p, q, s, u] := by
      have h6 : (t.take (ub t).2.1 ++ r).take 6 = t.take 6 := by
        rw [List.take_append, List.take_take, show min 6 (ub t).2.1 = 6 by omega, show 6 - (t.take (ub t).2.1).length = 0 by rw [List.length_take]; omega]
        simp
      rw [← h6, ht]; rfl
    have et : t = 92 :: 117 :: p :: q :: s :: u :: t.drop 6 := by
      have := List.take_append_drop 6 t
      rw [e6] at this
      exact this.symm
    rw [et, lo_eq hd h2 h3] at h
    cases h
theorem esc_local {l r : List Int} (hb : ∀ x ∈ l, 0 ≤ x ∧ x ≤ 255) (h : (esc l).2.2 = 0) (h2 : ∀ t, t = l.drop (esc l).2.1 → lo t = none → lo r = none) : esc (l.take (esc l).2.1 ++ r) = esc l := by
  rcases ways l with ⟨e, he, h'⟩ | ⟨x, k, t, rfl, hk, h0, h'⟩ | ⟨x, a, b, c, d, t, rfl, hd, hn, h'⟩ | ⟨x, a, b, c, d, t, m, rfl, hd, h0, h1, hm, h'⟩ | ⟨x, a, b, c, d, t, rfl, hd, h0, h1, hm, h'⟩
  · rw [h'] at h; dsimp only at h; omega
  · rw [h']; exact esc_letter hk h0
  · rw [h']; exact esc_plain hd hn
  · rw [h']
    obtain ⟨p, q, s, u, v, rfl, hd2, rfl, g2, g3⟩ := lo_some hm
    exact esc_pair hd h0 h1 (lo_eq hd2 g2 g3)
  · rw [h'] at h2 ⊢
    exact esc_half hd h0 h1 (fun g => h2 t rfl (hm g))
/-- nothing behind a string counts -/
theorem ub_local {l : List Int} (hb : ∀ x ∈ l, 0 ≤ x ∧ x ≤ 255) (h : (ub l).2.2 = 0) {r : List Int} (hr : ∀ x ∈ r, 0 ≤ x ∧ x ≤ 255) : ub (l.take (ub l).2.1 ++ r) = ub l := by
  have key : ∀ n : Nat, ∀ l : List Int, (∀ x ∈ l, 0 ≤ x ∧ x ≤ 255) → l.length ≤ n → (ub l).2.2 = 0 → ub (l.take (ub l).2.1 ++ r) = ub l := by
    intro n
    induction n with
    | zero =>
      intro l hb hn h
      obtain rfl : l = [] := List.eq_nil_of_length_eq_zero (by omega)
      rw [ub_nil] at h; exact absurd h (by decide)
    | succ n ih =>
      intro l hb hn h
      rcases goes l hb with ⟨hl, h'⟩ | ⟨t, hl, h'⟩ | ⟨a, t, hl, ha, h'⟩ | ⟨t, hl, he, h'⟩ | ⟨t, hl, he, h'⟩ | ⟨a, t, hl, _, _, _, _, h'⟩ | ⟨c, t, hc, hl, h'⟩
      · rw [h'] at h; exact absurd h (by decide)
      · rw [h', hl]; exact ub_end r
      · rw [h'] at h; exact absurd h (by decide)
      · rw [h'] at h; exact absurd h he
      · have hg := esc_good he
        obtain ⟨k, hk⟩ : ∃ k, (esc l).2.1 = k := ⟨_, rfl⟩
        obtain ⟨s, hs⟩ : ∃ s, l.drop k = s := ⟨_, rfl⟩
        have hbs : ∀ x ∈ s, 0 ≤ x ∧ x ≤ 255 := fun x hx => hb x (List.mem_of_mem_drop (by rw [hs]; exact hx))
        have hsl : s.length = l.length - k := by rw [← hs, List.length_drop]
        rw [hk, hs] at h'
        have h0 : (ub s).2.2 = 0 := by rw [h', bnd_err] at h; exact h
        have hi := ih s hbs (by omega) h0
        have hbr : ∀ x ∈ s.take (ub s).2.1 ++ r, 0 ≤ x ∧ x ≤ 255 := fun x hx => by
          rcases List.mem_append.1 hx with g | g
          · exact hbs x (List.mem_of_mem_take g)
          · exact hr x g
        have e1 : l.take (ub l).2.1 ++ r = l.take k ++ (s.take (ub s).2.1 ++ r) := by
          rw [h', bnd_ok h0]
          dsimp only
          rw [List.take_add, hs, List.append_assoc]
        have hlk : (l.take k).length = k := by rw [List.length_take]; omega
        have e2 : esc (l.take k ++ (s.take (ub s).2.1 ++ r)) = esc l := by
          have := esc_local (r := s.take (ub s).2.1 ++ r) hb he (fun t ht hn => by
            rw [hk, hs] at ht
            subst ht
            exact lo_local hbs hr h0 hi hn)
          rw [hk] at this
          exact this
        obtain ⟨y, hy⟩ : ∃ y, l.take k = 92 :: y := by
          rw [hl]
          rcases k with _ | k
          · omega
          · exact ⟨_, List.take_succ_cons⟩
        have hby : ∀ x ∈ y ++ (s.take (ub s).2.1 ++ r), 0 ≤ x ∧ x ≤ 255 := fun x hx => by
          rcases List.mem_append.1 hx with g | g
          · exact hb x (List.mem_of_mem_take (show x ∈ l.take k by rw [hy]; exact List.mem_cons_of_mem _ g))
          · exact hbr x g
        have hd : (l.take k ++ (s.take (ub s).2.1 ++ r)).drop k = s.take (ub s).2.1 ++ r := by
          rw [List.drop_append, hlk, Nat.sub_self, List.drop_of_length_le (by omega)]; simp
        rw [e1, h']
        rw [hy] at e2 hd ⊢
        have := ub_esc (r := y ++ (s.take (ub s).2.1 ++ r)) hby (by rw [← List.cons_append, e2]; exact he)
        rw [← List.cons_append, e2, hk, hd, hi] at this
        exact this
      · rw [h'] at h; exact absurd h (by decide)
      · have hbt : ∀ x ∈ t, 0 ≤ x ∧ x ≤ 255 := fun x hx => hb x (by rw [hl]; exact List.mem_append_right _ hx)
        have h1 := List.length_pos_iff.2 (enc_ne hc.1)
        have hlen : l.length = (enc c).length + t.length := by rw [hl, List.length_append]
        have h0 : (ub t).2.2 = 0 := by rw [h', bnd_err] at h; exact h
        have hi := ih t hbt (by omega) h0
        have hbr : ∀ x ∈ t.take (ub t).2.1 ++ r, 0 ≤ x ∧ x ≤ 255 := fun x hx => by
          rcases List.mem_append.1 hx with g | g
          · exact hbt x (List.mem_of_mem_take g)
          · exact hr x g
        have e1 : l.take (ub l).2.1 ++ r = enc c ++ (t.take (ub t).2.1 ++ r) := by
          rw [h', bnd_ok h0]
          dsimp only
          rw [hl, List.take_add, List.take_left, List.drop_left, List.append_assoc]
        rw [e1, ub_chr hc hbr, hi, h']
  exact key l.length l hb (Nat.le_refl _) h
/-- what a string tells: a text, with fewer bytes; quoted anew it tells the same; nothing behind it counts -/
theorem unq_good {l : List Int} (hb : ∀ x ∈ l, 0 ≤ x ∧ x ≤ 255) (h : (unq l).2.2 = 0) : ∃ cs, Chars cs ∧ (unq l).1 = encs cs ∧ (unq l).1.length + 2 ≤ (unq l).2.1 ∧ (unq l).2.1 ≤ l.length ∧ unq (l.take (unq l).2.1) = unq l := by
  rcases l with _ | ⟨a, r⟩
  · exact absurd h (by decide)
  · have hbr : ∀ x ∈ r, 0 ≤ x ∧ x ≤ 255 := fun x hx => hb x (List.mem_cons_of_mem _ hx)
    by_cases g : a = 34
    · subst g
      rw [unq_yes] at h
      have h0 : (ub r).2.2 = 0 := by rw [bnd_err] at h; exact h
      obtain ⟨cs, hc, h1, h2, h3⟩ := ub_good hbr h0
      have hl := ub_local hbr h0 (r := []) (by simp)
      rw [List.append_nil] at hl
      have e : unq (34 :: r) = ((ub r).1, 1 + (ub r).2.1, 0) := by rw [unq_yes, bnd_ok h0]; rfl
      rw [e]
      refine ⟨cs, hc, h1, by dsimp only; omega, by simp only [List.length_cons]; omega, ?_⟩
      have : (34 :: r).take (1 + (ub r).2.1) = 34 :: r.take (ub r).2.1 := by rw [Nat.add_comm, List.take_succ_cons]
      rw [this, unq_yes, hl, bnd_ok h0]; rfl
    · rw [unq_no g] at h; exact absurd h (by decide)

/-- for what an escape with u stands alone -/
def on (n : Int) : List Int := if form n = 0 then enc 65533 else enc n
theorem on_half {n : Int} (h0 : 55296 ≤ n) (h1 : n ≤ 57343) : on n = enc 65533 := if_pos (by rcases form_cases n with k | k | k | k | k <;> omega)
theorem on_plain {n : Int} (h : form n ≠ 0) : on n = enc n := if_neg h
/-- an escape with u, no pair -/
theorem ub_one {a b c d : Int} (hd : D4 a b c d) {r : List Int} (hb : ∀ x ∈ r, 0 ≤ x ∧ x ≤ 255) (hl : 55296 ≤ v4 a b c d → v4 a b c d ≤ 56319 → lo r = none) : ub (92 :: 117 :: a :: b :: c :: d :: r) = bnd (on (v4 a b c d)) 6 (ub r) := by
  have hv := v4_bd hd
  have h1 := (vx_bd a).2.2 hd.1; have h2 := (vx_bd b).2.2 hd.2.1; have h3 := (vx_bd c).2.2 hd.2.2.1; have h4 := (vx_bd d).2.2 hd.2.2.2
  have hbs : ∀ x ∈ 117 :: a :: b :: c :: d :: r, 0 ≤ x ∧ x ≤ 255 := fun x hx => by
    simp only [List.mem_cons] at hx
    rcases hx with g | g | g | g | g | g
    · omega
    · omega
    · omega
    · omega
    · omega
    · exact hb x g
  by_cases hn : v4 a b c d < 55296 ∨ 57343 < v4 a b c d
  · have he : esc (92 :: 117 :: a :: b :: c :: d :: r) = (v4 a b c d, 6, 0) := esc_plain hd hn
    have := ub_esc hbs (by rw [he])
    rw [he] at this
    rw [on_plain (by rcases form_cases (v4 a b c d) with k | k | k | k | k <;> omega)]
    exact this
  · have he : esc (92 :: 117 :: a :: b :: c :: d :: r) = (65533, 6, 0) := esc_half hd (by omega) (by omega) (fun g => hl (by omega) g)
    have := ub_esc hbs (by rw [he])
    rw [he] at this
    rw [on_half (by omega) (by omega)]
    exact this
/-- two escapes with u -/
theorem unq_two {a b c d p q s u : Int} (h1 : D4 a b c d) (h2 : D4 p q s u) :
    unq [34, 92, 117, a, b, c, d, 92, 117, p, q, s, u, 34] = (if 55296 ≤ v4 a b c d ∧ v4 a b c d ≤ 56319 ∧ 56320 ≤ v4 p q s u ∧ v4 p q s u ≤ 57343 then enc (65536 + (v4 a b c d - 55296) * 1024 + v4 p q s u - 56320) else on (v4 a b c d) ++ on (v4 p q s u), 14, 0) := by
  have b1 := (vx_bd p).2.2 h2.1; have b2 := (vx_bd q).2.2 h2.2.1; have b3 := (vx_bd s).2.2 h2.2.2.1; have b4 := (vx_bd u).2.2 h2.2.2.2
  have a1 := (vx_bd a).2.2 h1.1; have a2 := (vx_bd b).2.2 h1.2.1; have a3 := (vx_bd c).2.2 h1.2.2.1; have a4 := (vx_bd d).2.2 h1.2.2.2
  have hb2 : ∀ x ∈ [92, 117, p, q, s, u, 34], 0 ≤ x ∧ x ≤ 255 := fun x hx => by simp at hx; omega
  have hbt : ∀ x ∈ [117, a, b, c, d, 92, 117, p, q, s, u, 34], 0 ≤ x ∧ x ≤ 255 := fun x hx => by simp at hx; omega
  have e2 : ub [92, 117, p, q, s, u, 34] = (on (v4 p q s u), 7, 0) := by
    rw [ub_one h2 (by intro x hx; simp at hx; omega) (fun _ _ => rfl), ub_end, bnd_ok rfl]
    simp
  rw [unq_yes]
  by_cases g : 55296 ≤ v4 a b c d ∧ v4 a b c d ≤ 56319 ∧ 56320 ≤ v4 p q s u ∧ v4 p q s u ≤ 57343
  · rw [if_pos g]
    have he : esc [92, 117, a, b, c, d, 92, 117, p, q, s, u, 34] = (65536 + 1024 * (v4 a b c d - 55296) + v4 p q s u - 56320, 12, 0) := esc_pair h1 g.1 g.2.1 (lo_eq h2 g.2.2.1 g.2.2.2)
    have := ub_esc hbt (by rw [he])
    rw [he] at this
    simp only [List.drop_succ_cons, List.drop_zero] at this
    rw [this, ub_end, bnd_ok rfl, bnd_ok rfl]
    simp [Int.mul_comm]
  · rw [if_neg g, ub_one h1 hb2 (fun g1 g2 => by
      cases hm : lo [92, 117, p, q, s, u, 34] with
      | none => rfl
      | some m =>
        obtain ⟨_, _, _, _, _, ht, _, hv, k1, k2⟩ := lo_some hm
        simp only [List.cons.injEq] at ht
        obtain ⟨_, _, rfl, rfl, rfl, rfl, _⟩ := ht
        omega), e2, bnd_ok rfl, bnd_ok rfl]
    simp
end Go.Proofs.Ytjkaccmhpilojaa.Em
