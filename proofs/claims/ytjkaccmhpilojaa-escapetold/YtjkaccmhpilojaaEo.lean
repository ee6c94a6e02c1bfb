/-
  Plain mathematics of JSON's strings, more: beginnings of a string; what it tells is a text, and nothing behind it counts; two escapes with u. Nothing of the program is named here.
-/
import Derived.Test.YtjkaccmhpilojaaEn
namespace Go.Proofs.Ytjkaccmhpilojaa.Em
set_option linter.unusedVariables false
set_option linter.unusedSimpArgs false
open Utf

/-- what the string tells that bytes begin with, how many bytes it has, or what is wrong -/
def unq : List Int → List Int × Nat × Int
  | [] => ([], 0, 3)
  | a :: r => if a ≠ 34 then ([], 0, 80) else bnd [] 1 (ub r)
theorem unq_nil : unq [] = ([], 0, 3) := rfl
theorem unq_no {a : Int} {r : List Int} (h : a ≠ 34) : unq (a :: r) = ([], 0, 80) := if_pos h
theorem unq_cons (a : Int) (r : List Int) : unq (a :: r) = if a ≠ 34 then ([], 0, 80) else bnd [] 1 (ub r) := rfl
theorem unq_yes (r : List Int) : unq (34 :: r) = bnd [] 1 (ub r) := by rw [unq_cons, if_neg (by decide)]
theorem unq_err {l : List Int} (hb : ∀ x ∈ l, 0 ≤ x ∧ x ≤ 255) (h : (unq l).2.2 ≠ 0) : unq l = ([], 0, (unq l).2.2) := by
  rcases l with _ | ⟨a, r⟩
  · rfl
  · by_cases g : a = 34
    · subst g
      rw [unq_yes, bnd_err] at h ⊢
      rw [bnd_bad h]
    · rw [unq_no g]
/-- a text, quoted -/
def quo (cs : List Int) : List Int := 34 :: (qs cs ++ [34])
theorem quo_byte {cs : List Int} (h : Chars cs) : ∀ x ∈ quo cs, 0 ≤ x ∧ x ≤ 255 := fun x hx => by
  unfold quo at hx
  simp only [List.mem_cons, List.mem_append, List.not_mem_nil, or_false] at hx
  rcases hx with g | g | g
  · omega
  · exact qs_byte h x g
  · omega
/-- what was quoted is told as it was, whatever stands behind it -/
theorem unq_quo {cs : List Int} (h : Chars cs) {r : List Int} (hb : ∀ x ∈ r, 0 ≤ x ∧ x ≤ 255) : unq (quo cs ++ r) = (encs cs, (quo cs).length, 0) := by
  unfold quo
  rw [List.cons_append, unq_yes, List.append_assoc, ub_qs h (fun x hx => by
    rcases List.mem_cons.1 (show x ∈ 34 :: r from hx) with g | g
    · omega
    · exact hb x g), show ub ([34] ++ r) = ([], 1, 0) from ub_end r, bnd_ok (by rfl), bnd_ok (by rfl)]
  simp; omega

/-- letters of one byte are text -/
theorem chk_ascii {l : List Int} (h : ∀ x ∈ l, 0 ≤ x ∧ x ≤ 127) : (chk l).2.2 = 0 := by
  have hc : Chars l := fun x hx => by have := form_eq1 (h x hx).1 (h x hx).2; omega
  have he : encs l = l := by
    clear hc
    induction l with
    | nil => rfl
    | cons a t ih =>
      rw [encs_cons, enc1 (form_eq1 (h a (by simp)).1 (h a (by simp)).2), ih (fun x hx => h x (by simp [hx]))]
      rfl
  have := chk_encs hc
  rw [he] at this
  rw [this]
theorem chk_q1 {c : Int} (h : form c ≠ 0) {t : List Int} (hb : ∀ x ∈ t, 0 ≤ x ∧ x ≤ 255) : (chk (q1 c ++ t)).2.2 = (chk t).2.2 := by
  have h0 : (chk (q1 c)).2.2 = 0 := by
    rcases q1_ways h with ⟨e, hs⟩ | ⟨e, h0, h1⟩ | ⟨e, hk⟩
    · rw [e]
      have := lg_sh hs
      exact chk_ascii (fun x hx => by simp at hx; omega)
    · rw [e]
      have h2 := hx_bd (n := c / 16) (by omega) (by omega)
      have h3 := hx_bd (n := c % 16) (by omega) (by omega)
      exact chk_ascii (fun x hx => by simp at hx; omega)
    · rw [e]
      have := chk_encs (cs := [c]) (Chars.cons h Chars.nil)
      rw [show encs [c] = enc c by simp [encs]] at this
      rw [this]
  rw [chk_append _ _ _ (q1_byte h) hb (Nat.le_refl _) h0]
/-- what of a beginning is told -/
def cutE (l : List Int) : List Int × Nat × Int := ([], 0, if (chk l).2.2 ≠ 0 then 10 else 3)
theorem cutE_text {l : List Int} (h : (chk l).2.2 = 0) : cutE l = ([], 0, 3) := by unfold cutE; rw [if_neg (fun g => g h)]
theorem cutE_part {l : List Int} (h : (chk l).2.2 ≠ 0) : cutE l = ([], 0, 10) := by unfold cutE; rw [if_pos h]
theorem esc_cut {l : List Int} (hl : l.length < 6) (h : ∀ k, l[1]? = some k → k = 117) (hd : ∀ i x, 2 ≤ i → l[i]? = some x → 0 ≤ vx x) : (esc l).2.2 = 3 := by
  rcases l with _ | ⟨x, _ | ⟨k, r⟩⟩
  · rfl
  · rfl
  · obtain rfl : k = 117 := h k rfl
    have hr : ∀ i y, r[i]? = some y → ¬ vx y < 0 := fun i y hy => by have := hd (i + 2) y (by omega) (by simpa using hy); omega
    have e : f4 4 0 r = (0, 3) := by
      rcases r with _ | ⟨a, _ | ⟨b, _ | ⟨c, _ | ⟨d, t⟩⟩⟩⟩
      · rfl
      · simp only [f4, if_neg (hr 0 a rfl)]
      · simp only [f4, if_neg (hr 0 a rfl), if_neg (hr 1 b rfl)]
      · simp only [f4, if_neg (hr 0 a rfl), if_neg (hr 1 b rfl), if_neg (hr 2 c rfl)]
      · simp at hl; omega
    simp [esc, e]
theorem ub_q1_cut {c : Int} (h : form c ≠ 0) {k : Nat} (hk : k < (q1 c).length) : ub ((q1 c).take k) = cutE ((q1 c).take k) := by
  rcases k with _ | k
  · rfl
  rcases q1_ways h with ⟨e, hs⟩ | ⟨e, h0, h1⟩ | ⟨e, hok⟩
  · rw [e] at hk ⊢
    have : k = 0 := by simp at hk; omega
    subst this
    have e2 : ([92, sh c] : List Int).take (0 + 1) = [92] := rfl
    rw [e2, cutE_text (chk_ascii (fun x hx => by simp at hx; omega)), ub_esc_bad (by decide)]
    rfl
  · have hall : ∀ x ∈ q1 c, 0 ≤ x ∧ x ≤ 127 := fun x hx => by
      rw [e] at hx
      have h2 := hx_bd (n := c / 16) (by omega) (by omega)
      have h3 := hx_bd (n := c % 16) (by omega) (by omega)
      simp at hx; omega
    rw [cutE_text (chk_ascii (fun x hx => hall x (List.mem_of_mem_take hx)))]
    rw [e] at hk ⊢
    have e2 : ([92, 117, 48, 48, hx (c / 16), hx (c % 16)] : List Int).take (k + 1) = 92 :: ([117, 48, 48, hx (c / 16), hx (c % 16)] : List Int).take k := rfl
    have hv1 := vx_hx (n := c / 16) (by omega) (by omega)
    have hv2 := vx_hx (n := c % 16) (by omega) (by omega)
    have he : (esc (92 :: ([117, 48, 48, hx (c / 16), hx (c % 16)] : List Int).take k)).2.2 = 3 := by
      refine esc_cut (by simp at hk ⊢; omega) ?_ ?_
      · intro y hy
        rw [← e2, List.getElem?_take] at hy
        split at hy
        · simp at hy; exact hy.symm
        · cases hy
      · intro i y hi hy
        rw [← e2, List.getElem?_take] at hy
        split at hy
        · rcases i with _ | _ | _ | _ | _ | _ | i
          · omega
          · omega
          · simp at hy; subst hy; decide
          · simp at hy; subst hy; decide
          · simp at hy; subst hy; omega
          · simp at hy; subst hy; omega
          · simp at hy
        · cases hy
    rw [e2, ub_esc_bad (by rw [he]; decide), he]
  · rw [e] at hk ⊢
    obtain ⟨a, t, he, hw⟩ := enc_head h
    have hd := dec_part h (Nat.succ_pos k) hk
    have hne : (enc c).take (k + 1) ≠ [] := by rw [he]; simp
    rw [cutE_part (by rw [chk_bad hne (by rw [hd]; decide), hd]; decide)]
    rw [he] at hd hk ⊢
    rw [List.take_succ_cons] at hd ⊢
    have : t ≠ [] := by intro g; subst g; simp at hk
    refine ub_chr_bad ?_ ?_ ?_ (by rw [hd]; decide) <;> rcases hw with g | g <;> first | exact absurd g.2.2 this | omega
theorem ub_cut {cs : List Int} (h : Chars cs) : ∀ k : Nat, k ≤ (qs cs).length → ub ((qs cs).take k) = cutE ((qs cs).take k) := by
  induction cs with
  | nil => intro k _; simp [qs_nil]; rfl
  | cons c cs ih =>
    intro k hk
    rw [qs_cons] at hk ⊢
    rw [List.length_append] at hk
    by_cases g : (q1 c).length ≤ k
    · have hbt : ∀ x ∈ (qs cs).take (k - (q1 c).length), 0 ≤ x ∧ x ≤ 255 := fun x hx => qs_byte h.tail x (List.mem_of_mem_take hx)
      have e : (q1 c ++ qs cs).take k = q1 c ++ (qs cs).take (k - (q1 c).length) := by rw [List.take_append, List.take_of_length_le g]
      have hi := ih h.tail (k - (q1 c).length) (by omega)
      rw [e, ub_q1 h.head hbt, hi]
      unfold cutE
      rw [chk_q1 h.head hbt, bnd_bad]
      dsimp only
      split <;> decide
    · have e : (q1 c ++ qs cs).take k = (q1 c).take k := by rw [List.take_append, show k - (q1 c).length = 0 by omega]; simp
      rw [e]
      exact ub_q1_cut h.head (by omega)
/-- of each beginning of a text, quoted: ErrTrunc, or, within a character, ErrRune -/
theorem unq_cut {cs : List Int} (h : Chars cs) {k : Nat} (hk : k < (quo cs).length) : unq ((quo cs).take k) = cutE ((quo cs).take k) := by
  rcases k with _ | k
  · rfl
  unfold quo at hk ⊢
  simp only [List.length_cons, List.length_append, List.length_nil] at hk
  have e : (34 :: (qs cs ++ [34])).take (k + 1) = 34 :: (qs cs).take k := by rw [List.take_succ_cons, List.take_append, show k - (qs cs).length = 0 by omega]; simp
  have hbt : ∀ x ∈ (qs cs).take k, 0 ≤ x ∧ x ≤ 255 := fun x hx => qs_byte h x (List.mem_of_mem_take hx)
  rw [e, unq_yes, ub_cut h k (by omega)]
  have h34 : form 34 ≠ 0 := by decide
  have hc : (chk (34 :: (qs cs).take k)).2.2 = (chk ((qs cs).take k)).2.2 := by
    have := chk_good h34 hbt
    rw [show enc 34 ++ (qs cs).take k = 34 :: (qs cs).take k by rw [enc1 (by decide)]; rfl] at this
    rw [this]
  unfold cutE
  rw [hc, bnd_bad]
  dsimp only
  split <;> decide

/-- what a string tells is a text; it has fewer bytes -/
theorem ub_good {l : List Int} (hb : ∀ x ∈ l, 0 ≤ x ∧ x ≤ 255) (h : (ub l).2.2 = 0) : ∃ cs, Chars cs ∧ (ub l).1 = encs cs ∧ (ub l).1.length + 1 ≤ (ub l).2.1 ∧ (ub l).2.1 ≤ l.length := by
  have key : ∀ n : Nat, ∀ l : List Int, (∀ x ∈ l, 0 ≤ x ∧ x ≤ 255) → l.length ≤ n → (ub l).2.2 = 0 → ∃ cs, Chars cs ∧ (ub l).1 = encs cs ∧ (ub l).1.length + 1 ≤ (ub l).2.1 ∧ (ub l).2.1 ≤ l.length := by
    intro n
    induction n with
    | zero =>
      intro l hb hn h
      obtain rfl : l = [] := List.eq_nil_of_length_eq_zero (by omega)
      rw [ub_nil] at h; exact absurd h (by decide)
    | succ n ih =>
      intro l hb hn h
      rcases goes l hb with ⟨hl, h'⟩ | ⟨t, hl, h'⟩ | ⟨a, t, hl, ha, h'⟩ | ⟨t, hl, he, h'⟩ | ⟨t, hl, he, h'⟩ | ⟨a, t, hl, _, _, _, _, h'⟩ | ⟨c, t, hc, hl, h'⟩
      · rw [h'] at h; exact absurd h (by decide)
      · rw [h', hl]; exact ⟨[], Chars.nil, rfl, by simp, by simp⟩
      · rw [h'] at h; exact absurd h (by decide)
      · rw [h'] at h; exact absurd h he
      · have hg := esc_good he
        rw [h', bnd_err] at h
        obtain ⟨cs, hc, h1, h2, h3⟩ := ih (l.drop (esc l).2.1) (fun x hx => hb x (List.mem_of_mem_drop hx)) (by rw [List.length_drop]; omega) h
        rw [List.length_drop] at h3
        rw [h', bnd_ok h]
        exact ⟨(esc l).1 :: cs, Chars.cons hg.1 hc, by rw [encs_cons, h1], by dsimp only; rw [List.length_append]; omega, by dsimp only; omega⟩
      · rw [h'] at h; exact absurd h (by decide)
      · have h1 := List.length_pos_iff.2 (enc_ne hc.1)
        have hlen : l.length = (enc c).length + t.length := by rw [hl, List.length_append]
        rw [h', bnd_err] at h
        obtain ⟨cs, hcs, k1, k2, k3⟩ := ih t (fun x hx => hb x (by rw [hl]; exact List.mem_append_right _ hx)) (by omega) h
        rw [h', bnd_ok h]
        exact ⟨c :: cs, Chars.cons hc.1 hcs, by rw [encs_cons, k1], by dsimp only; rw [List.length_append]; omega, by dsimp only; omega⟩
  exact key l.length l hb (Nat.le_refl _) h
end Go.Proofs.Ytjkaccmhpilojaa.Em
