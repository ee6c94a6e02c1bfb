/-
  Plain mathematics of JSON's strings: what an escape tells, what a string tells, how a text is quoted. Nothing of the program is named here.
-/
import Derived.Test.YtjkaccmhpilojaaUn
namespace Go.Proofs.Ytjkaccmhpilojaa.Em
set_option linter.unusedVariables false
set_option linter.unusedSimpArgs false
open Utf

/-- the letter of a character's short escape; 0: it has none -/
def sh (c : Int) : Int := if c = 34 ∨ c = 92 then c else if c = 8 then 98 else if c = 12 then 102 else if c = 10 then 110 else if c = 13 then 114 else if c = 9 then 116 else 0
/-- the character of an escape's letter; -1: there is none -/
def lg (k : Int) : Int := if k = 34 ∨ k = 92 ∨ k = 47 then k else if k = 98 then 8 else if k = 102 then 12 else if k = 110 then 10 else if k = 114 then 13 else if k = 116 then 9 else -1
/-- a digit of base 16 -/
def hx (n : Int) : Int := if n < 10 then 48 + n else 87 + n
/-- what a digit of base 16 counts; -1: it is none -/
def vx (c : Int) : Int := if 48 ≤ c ∧ c ≤ 57 then c - 48 else if 97 ≤ c ∧ c ≤ 102 then c - 97 + 10 else if 65 ≤ c ∧ c ≤ 70 then c - 65 + 10 else -1
theorem vx_hx {n : Int} (h0 : 0 ≤ n) (h1 : n < 16) : vx (hx n) = n := by
  unfold hx vx
  by_cases h : n < 10
  · rw [if_pos h, if_pos (by omega)]; omega
  · rw [if_neg h, if_neg (by omega), if_pos (by omega)]; omega
theorem vx_bd (c : Int) : vx c ≤ 15 ∧ -1 ≤ vx c ∧ (0 ≤ vx c → 48 ≤ c ∧ c ≤ 102) := by
  unfold vx
  split
  · omega
  · split
    · omega
    · split <;> omega
theorem hx_bd {n : Int} (h0 : 0 ≤ n) (h1 : n < 16) : 48 ≤ hx n ∧ hx n ≤ 102 := by
  unfold hx; split <;> omega
theorem lg_bd (k : Int) : lg k = -1 ∨ (8 ≤ lg k ∧ lg k ≤ 92 ∧ 34 ≤ k ∧ k ≤ 116) := by
  unfold lg
  repeat' split
  all_goals omega
theorem lg_sh {c : Int} (h : sh c ≠ 0) : lg (sh c) = c ∧ sh c ≠ 117 ∧ 34 ≤ sh c ∧ sh c ≤ 116 ∧ 8 ≤ c ∧ c ≤ 92 := by
  unfold sh at h ⊢
  repeat' split at h
  all_goals (try (exact absurd rfl h))
  · rename_i g
    rw [if_pos g]
    refine ⟨?_, by omega, by omega, by omega, by omega, by omega⟩
    unfold lg; rw [if_pos (by omega)]
  all_goals
    simp_all
    unfold lg
    simp
theorem sh_none {c : Int} (h : sh c = 0) : c ≠ 34 ∧ c ≠ 92 := by
  unfold sh at h
  by_cases g : c = 34 ∨ c = 92
  · rw [if_pos g] at h; omega
  · omega

/-- the number of k more digits of base 16, behind n -/
def f4 : Nat → Int → List Int → Int × Int
  | 0, n, _ => (n, 0)
  | _ + 1, _, [] => (0, 3)
  | k + 1, n, a :: r => if vx a < 0 then (0, 80) else f4 k (n * 16 + vx a) r
/-- four digits -/
def v4 (a b c d : Int) : Int := ((vx a * 16 + vx b) * 16 + vx c) * 16 + vx d
def D4 (a b c d : Int) : Prop := 0 ≤ vx a ∧ 0 ≤ vx b ∧ 0 ≤ vx c ∧ 0 ≤ vx d
theorem v4_bd {a b c d : Int} (h : D4 a b c d) : 0 ≤ v4 a b c d ∧ v4 a b c d ≤ 65535 := by
  obtain ⟨h1, h2, h3, h4⟩ := h
  have := (vx_bd a).1; have := (vx_bd b).1; have := (vx_bd c).1; have := (vx_bd d).1
  unfold v4; omega
theorem f4_eq {a b c d : Int} (h : D4 a b c d) (t : List Int) : f4 4 0 (a :: b :: c :: d :: t) = (v4 a b c d, 0) := by
  obtain ⟨h1, h2, h3, h4⟩ := h
  simp only [f4, if_neg (show ¬ vx a < 0 by omega), if_neg (show ¬ vx b < 0 by omega), if_neg (show ¬ vx c < 0 by omega), if_neg (show ¬ vx d < 0 by omega)]
  unfold v4; simp
theorem f4_ways (l : List Int) : (∃ a b c d t, l = a :: b :: c :: d :: t ∧ D4 a b c d ∧ f4 4 0 l = (v4 a b c d, 0)) ∨ ((f4 4 0 l = (0, 3) ∧ l.length < 4) ∨ f4 4 0 l = (0, 80)) := by
  rcases l with _ | ⟨a, l⟩
  · exact .inr (.inl ⟨rfl, by simp⟩)
  by_cases ha : vx a < 0
  · exact .inr (.inr (by simp only [f4, if_pos ha]))
  rcases l with _ | ⟨b, l⟩
  · exact .inr (.inl ⟨by simp only [f4, if_neg ha], by simp⟩)
  by_cases hb : vx b < 0
  · exact .inr (.inr (by simp only [f4, if_neg ha, if_pos hb]))
  rcases l with _ | ⟨c, l⟩
  · exact .inr (.inl ⟨by simp only [f4, if_neg ha, if_neg hb], by simp⟩)
  by_cases hc : vx c < 0
  · exact .inr (.inr (by simp only [f4, if_neg ha, if_neg hb, if_pos hc]))
  rcases l with _ | ⟨d, l⟩
  · exact .inr (.inl ⟨by simp only [f4, if_neg ha, if_neg hb, if_neg hc], by simp⟩)
  by_cases hd : vx d < 0
  · exact .inr (.inr (by simp only [f4, if_neg ha, if_neg hb, if_neg hc, if_pos hd]))
  have h : D4 a b c d := ⟨by omega, by omega, by omega, by omega⟩
  exact .inl ⟨a, b, c, d, l, rfl, h, f4_eq h l⟩

/-- the second half of a pair, where an escape of it stands -/
def lo : List Int → Option Int
  | a :: b :: u => if a = 92 ∧ b = 117 ∧ (f4 4 0 u).2 = 0 ∧ 56320 ≤ (f4 4 0 u).1 ∧ (f4 4 0 u).1 ≤ 57343 then some (f4 4 0 u).1 else none
  | _ => none
theorem lo_some {t : List Int} {m : Int} (h : lo t = some m) : ∃ a b c d u, t = 92 :: 117 :: a :: b :: c :: d :: u ∧ D4 a b c d ∧ m = v4 a b c d ∧ 56320 ≤ m ∧ m ≤ 57343 := by
  rcases t with _ | ⟨x, _ | ⟨y, u⟩⟩
  · cases h
  · cases h
  · simp only [lo] at h
    split at h
    · rename_i g
      injection h with h
      rcases f4_ways u with ⟨a, b, c, d, v, rfl, hd, e⟩ | ⟨e, _⟩ | e
      · rw [e] at h g
        exact ⟨a, b, c, d, v, by rw [g.1, g.2.1], hd, h.symm, by rw [← h]; exact g.2.2.2.1, by rw [← h]; exact g.2.2.2.2⟩
      · rw [e] at g; omega
      · rw [e] at g; omega
    · cases h
theorem lo_eq {a b c d : Int} {u : List Int} (h : D4 a b c d) (h0 : 56320 ≤ v4 a b c d) (h1 : v4 a b c d ≤ 57343) : lo (92 :: 117 :: a :: b :: c :: d :: u) = some (v4 a b c d) := by
  simp only [lo, f4_eq h]
  rw [if_pos ⟨trivial, trivial, trivial, h0, h1⟩]

/-- the character of the escape that bytes begin with, how many bytes it has, or what is wrong -/
def esc : List Int → Int × Nat × Int
  | _ :: k :: r =>
    if k ≠ 117 then (if lg k < 0 then (0, 0, 80) else (lg k, 2, 0))
    else if (f4 4 0 r).2 ≠ 0 then (0, 0, (f4 4 0 r).2)
    else if (f4 4 0 r).1 < 55296 ∨ 57343 < (f4 4 0 r).1 then ((f4 4 0 r).1, 6, 0)
    else match (if (f4 4 0 r).1 ≤ 56319 then lo (r.drop 4) else none) with
      | some m => (65536 + 1024 * ((f4 4 0 r).1 - 55296) + m - 56320, 12, 0)
      | none => (65533, 6, 0)
  | _ => (0, 0, 3)

theorem esc_letter {x k : Int} {r : List Int} (h : k ≠ 117) (hk : 0 ≤ lg k) : esc (x :: k :: r) = (lg k, 2, 0) := by
  simp only [esc, if_pos h, if_neg (show ¬ lg k < 0 by omega)]
theorem esc_plain {x a b c d : Int} {t : List Int} (h : D4 a b c d) (hn : v4 a b c d < 55296 ∨ 57343 < v4 a b c d) : esc (x :: 117 :: a :: b :: c :: d :: t) = (v4 a b c d, 6, 0) := by
  simp only [esc, f4_eq h]
  simp [hn]
theorem esc_pair {x a b c d : Int} {t : List Int} {m : Int} (h : D4 a b c d) (h0 : 55296 ≤ v4 a b c d) (h1 : v4 a b c d ≤ 56319) (hm : lo t = some m) : esc (x :: 117 :: a :: b :: c :: d :: t) = (65536 + 1024 * (v4 a b c d - 55296) + m - 56320, 12, 0) := by
  simp only [esc, f4_eq h]
  simp only [ne_eq, not_true_eq_false, if_false, if_neg (show ¬ (v4 a b c d < 55296 ∨ 57343 < v4 a b c d) by omega), if_pos h1, List.drop_succ_cons, List.drop_zero, hm]
theorem esc_half {x a b c d : Int} {t : List Int} (h : D4 a b c d) (h0 : 55296 ≤ v4 a b c d) (h1 : v4 a b c d ≤ 57343) (hm : v4 a b c d ≤ 56319 → lo t = none) : esc (x :: 117 :: a :: b :: c :: d :: t) = (65533, 6, 0) := by
  simp only [esc, f4_eq h]
  have e : (if v4 a b c d ≤ 56319 then lo t else none) = none := by
    split
    · rename_i g; exact hm g
    · rfl
  simp only [ne_eq, not_true_eq_false, if_false, if_neg (show ¬ (v4 a b c d < 55296 ∨ 57343 < v4 a b c d) by omega), List.drop_succ_cons, List.drop_zero, e]

/-- the ways of an escape -/
inductive Ways (l : List Int) : Prop
  | bad (e : Int) (he : e = 3 ∨ e = 80) (h : esc l = (0, 0, e))
  | letter (x k : Int) (r : List Int) (hl : l = x :: k :: r) (hk : k ≠ 117) (h0 : 0 ≤ lg k) (h : esc l = (lg k, 2, 0))
  | plain (x a b c d : Int) (t : List Int) (hl : l = x :: 117 :: a :: b :: c :: d :: t) (hd : D4 a b c d) (hn : v4 a b c d < 55296 ∨ 57343 < v4 a b c d) (h : esc l = (v4 a b c d, 6, 0))
  | pair (x a b c d : Int) (t : List Int) (m : Int) (hl : l = x :: 117 :: a :: b :: c :: d :: t) (hd : D4 a b c d) (h0 : 55296 ≤ v4 a b c d) (h1 : v4 a b c d ≤ 56319) (hm : lo t = some m) (h : esc l = (65536 + 1024 * (v4 a b c d - 55296) + m - 56320, 12, 0))
  | half (x a b c d : Int) (t : List Int) (hl : l = x :: 117 :: a :: b :: c :: d :: t) (hd : D4 a b c d) (h0 : 55296 ≤ v4 a b c d) (h1 : v4 a b c d ≤ 57343) (hm : v4 a b c d ≤ 56319 → lo t = none) (h : esc l = (65533, 6, 0))
theorem ways (l : List Int) : Ways l := by
  rcases l with _ | ⟨x, _ | ⟨k, r⟩⟩
  · exact .bad 3 (.inl rfl) rfl
  · exact .bad 3 (.inl rfl) rfl
  · by_cases hk : k = 117
    · subst hk
      rcases f4_ways r with ⟨a, b, c, d, t, rfl, hd, e⟩ | ⟨e, _⟩ | e
      · have hb := v4_bd hd
        by_cases hn : v4 a b c d < 55296 ∨ 57343 < v4 a b c d
        · exact .plain x a b c d t rfl hd hn (esc_plain hd hn)
        · by_cases h1 : v4 a b c d ≤ 56319
          · cases hm : lo t with
            | some m => exact .pair x a b c d t m rfl hd (by omega) h1 hm (esc_pair hd (by omega) h1 hm)
            | none => exact .half x a b c d t rfl hd (by omega) (by omega) (fun _ => hm) (esc_half hd (by omega) (by omega) (fun _ => hm))
          · exact .half x a b c d t rfl hd (by omega) (by omega) (fun g => absurd g h1) (esc_half hd (by omega) (by omega) (fun g => absurd g h1))
      · exact .bad 3 (.inl rfl) (by simp [esc, e])
      · exact .bad 80 (.inr rfl) (by simp [esc, e])
    · by_cases h0 : lg k < 0
      · exact .bad 80 (.inr rfl) (by simp only [esc, if_pos (show k ≠ 117 from hk), if_pos h0])
      · exact .letter x k r rfl hk (by omega) (esc_letter hk (by omega))
/-- what an escape tells is a character, with fewer bytes -/
theorem esc_good {l : List Int} (h : (esc l).2.2 = 0) : form (esc l).1 ≠ 0 ∧ 2 ≤ (esc l).2.1 ∧ (enc (esc l).1).length < (esc l).2.1 ∧ (esc l).2.1 ≤ l.length := by
  rcases ways l with ⟨e, he, h'⟩ | ⟨x, k, r, rfl, hk, h0, h'⟩ | ⟨x, a, b, c, d, t, rfl, hd, hn, h'⟩ | ⟨x, a, b, c, d, t, m, rfl, hd, h0, h1, hm, h'⟩ | ⟨x, a, b, c, d, t, rfl, hd, h0, h1, hm, h'⟩
  · rw [h'] at h; dsimp only at h; omega
  · rw [h']
    have := lg_bd k
    have f := form_eq1 (c := lg k) (by omega) (by omega)
    have := enc_length (lg k)
    exact ⟨by dsimp only; omega, by dsimp only; omega, by dsimp only; omega, by simp⟩
  · rw [h']
    have hb := v4_bd hd
    have := enc_length (v4 a b c d)
    have f : form (v4 a b c d) ≠ 0 ∧ form (v4 a b c d) ≤ 3 := by rcases form_cases (v4 a b c d) with k | k | k | k | k <;> omega
    exact ⟨f.1, by dsimp only; omega, by dsimp only; omega, by simp⟩
  · rw [h']
    obtain ⟨p, q, s, u, v, rfl, hd2, rfl, h2, h3⟩ := lo_some hm
    have f := form_eq4 (c := 65536 + 1024 * (v4 a b c d - 55296) + v4 p q s u - 56320) (by omega) (by omega)
    have := enc_length (65536 + 1024 * (v4 a b c d - 55296) + v4 p q s u - 56320)
    exact ⟨by dsimp only; omega, by dsimp only; omega, by dsimp only; omega, by simp⟩
  · rw [h']
    have f := form_eq3 (c := 65533) (by omega) (by omega) (by omega)
    have := enc_length 65533
    exact ⟨by dsimp only; omega, by dsimp only; omega, by dsimp only; omega, by simp⟩
theorem esc_bad {l : List Int} (h : (esc l).2.2 ≠ 0) : esc l = (0, 0, (esc l).2.2) ∧ ((esc l).2.2 = 3 ∨ (esc l).2.2 = 80) := by
  rcases ways l with ⟨e, he, h'⟩ | ⟨x, k, r, rfl, hk, h0, h'⟩ | ⟨x, a, b, c, d, t, rfl, hd, hn, h'⟩ | ⟨x, a, b, c, d, t, m, rfl, hd, h0, h1, hm, h'⟩ | ⟨x, a, b, c, d, t, rfl, hd, h0, h1, hm, h'⟩
  · rw [h']; exact ⟨rfl, he⟩
  all_goals rw [h'] at h; exact absurd rfl h

/-- a piece of a string, and what comes behind it -/
def bnd (s : List Int) (n : Nat) (q : List Int × Nat × Int) : List Int × Nat × Int := if q.2.2 ≠ 0 then ([], 0, q.2.2) else (s ++ q.1, n + q.2.1, 0)
/-- what a string tells from within it, how many bytes it has from there on, or what is wrong; with a bound on steps -/
def unb : Nat → List Int → List Int × Nat × Int
  | 0, _ => ([], 0, 3)
  | _ + 1, [] => ([], 0, 3)
  | f + 1, a :: r =>
    if a = 34 then ([], 1, 0) else if a < 32 then ([], 0, 80) else
    if a = 92 then (if (esc (a :: r)).2.2 ≠ 0 then ([], 0, (esc (a :: r)).2.2) else bnd (enc (esc (a :: r)).1) (esc (a :: r)).2.1 (unb f ((a :: r).drop (esc (a :: r)).2.1)))
    else if (dec (a :: r)).2.2 ≠ 0 then ([], 0, 10) else bnd ((a :: r).take (dec (a :: r)).2.1.toNat) (dec (a :: r)).2.1.toNat (unb f ((a :: r).drop (dec (a :: r)).2.1.toNat))
theorem unb_enough (n : Nat) : ∀ (f : Nat) (l : List Int), (∀ x ∈ l, 0 ≤ x ∧ x ≤ 255) → l.length ≤ n → l.length < f → unb f l = unb (l.length + 1) l := by
  induction n with
  | zero =>
    intro f l hb hn hf
    obtain rfl : l = [] := List.eq_nil_of_length_eq_zero (by omega)
    rcases f with _ | f
    · omega
    · rfl
  | succ n ih =>
    intro f l hb hn hf
    rcases l with _ | ⟨a, r⟩
    · rcases f with _ | f
      · omega
      · rfl
    · rcases f with _ | f
      · omega
      simp only [List.length_cons] at hn hf ⊢
      have step : ∀ k : Nat, 1 ≤ k → unb f ((a :: r).drop k) = unb (r.length + 1) ((a :: r).drop k) := fun k hk => by
        have hl : ((a :: r).drop k).length ≤ r.length := by rw [List.length_drop, List.length_cons]; omega
        have hb' : ∀ x ∈ (a :: r).drop k, 0 ≤ x ∧ x ≤ 255 := fun x hx => hb x (List.mem_of_mem_drop hx)
        rw [ih f _ hb' (by omega) (by omega), ih (r.length + 1) _ hb' (by omega) (by omega)]
      simp only [unb]
      by_cases h1 : a = 34
      · rw [if_pos h1, if_pos h1]
      rw [if_neg h1, if_neg h1]
      by_cases h2 : a < 32
      · rw [if_pos h2, if_pos h2]
      rw [if_neg h2, if_neg h2]
      by_cases h3 : a = 92
      · rw [if_pos h3, if_pos h3]
        by_cases h4 : (esc (a :: r)).2.2 = 0
        · rw [if_neg (fun g => g h4), if_neg (fun g => g h4), step _ (by have := (esc_good h4).2.1; omega)]
        · rw [if_pos h4, if_pos h4]
      · rw [if_neg h3, if_neg h3]
        by_cases h4 : (dec (a :: r)).2.2 = 0
        · obtain ⟨c, t, hc, hl, e⟩ := dec_good hb h4
          have : 1 ≤ (enc c).length := List.length_pos_iff.2 (enc_ne hc)
          rw [if_neg (fun g => g h4), if_neg (fun g => g h4), step _ (by rw [e]; rw [toNat_form]; exact this)]
        · rw [if_pos h4, if_pos h4]
end Go.Proofs.Ytjkaccmhpilojaa.Em
