/-
  Plain mathematics of JSON's strings, more: what a string tells, step by step; a text quoted is told as it was. Nothing of the program is named here.
-/
import Derived.Test.YtjkaccmhpilojaaEm
namespace Go.Proofs.Ytjkaccmhpilojaa.Em
set_option linter.unusedVariables false
set_option linter.unusedSimpArgs false
open Utf

/-- what a string tells from within it, how many bytes it has from there on, or what is wrong -/
def ub (l : List Int) : List Int × Nat × Int := unb (l.length + 1) l
theorem bnd_ok {s : List Int} {n : Nat} {q : List Int × Nat × Int} (h : q.2.2 = 0) : bnd s n q = (s ++ q.1, n + q.2.1, 0) := if_neg (fun g => g h)
theorem bnd_bad {s : List Int} {n : Nat} {q : List Int × Nat × Int} (h : q.2.2 ≠ 0) : bnd s n q = ([], 0, q.2.2) := if_pos h
theorem bnd_err (s : List Int) (n : Nat) (q : List Int × Nat × Int) : (bnd s n q).2.2 = q.2.2 := by
  by_cases h : q.2.2 = 0
  · rw [bnd_ok h, h]
  · rw [bnd_bad h]
theorem bnd_bnd (s u : List Int) (n m : Nat) (q : List Int × Nat × Int) : bnd s n (bnd u m q) = bnd (s ++ u) (n + m) q := by
  by_cases h : q.2.2 = 0
  · rw [bnd_ok (q := q) h, bnd_ok (q := q) h, bnd_ok (by rfl)]
    simp [List.append_assoc, Nat.add_assoc]
  · rw [bnd_bad (q := q) h, bnd_bad (q := q) h, bnd_bad (by exact h)]
theorem unb_step (f : Nat) (a : Int) (r : List Int) : unb (f + 1) (a :: r) =
    if a = 34 then ([], 1, 0) else if a < 32 then ([], 0, 80) else
    if a = 92 then (if (esc (a :: r)).2.2 ≠ 0 then ([], 0, (esc (a :: r)).2.2) else bnd (enc (esc (a :: r)).1) (esc (a :: r)).2.1 (unb f ((a :: r).drop (esc (a :: r)).2.1)))
    else if (dec (a :: r)).2.2 ≠ 0 then ([], 0, 10) else bnd ((a :: r).take (dec (a :: r)).2.1.toNat) (dec (a :: r)).2.1.toNat (unb f ((a :: r).drop (dec (a :: r)).2.1.toNat)) := rfl
theorem ub_cons (a : Int) (r : List Int) : ub (a :: r) = unb (r.length + 1 + 1) (a :: r) := rfl
theorem ub_nil : ub [] = ([], 0, 3) := rfl
theorem ub_end (r : List Int) : ub (34 :: r) = ([], 1, 0) := by rw [ub_cons, unb_step, if_pos rfl]
theorem ub_low {a : Int} {r : List Int} (h1 : a < 32) : ub (a :: r) = ([], 0, 80) := by rw [ub_cons, unb_step, if_neg (by omega), if_pos h1]
theorem ub_esc {r : List Int} (hb : ∀ x ∈ r, 0 ≤ x ∧ x ≤ 255) (h : (esc (92 :: r)).2.2 = 0) : ub (92 :: r) = bnd (enc (esc (92 :: r)).1) (esc (92 :: r)).2.1 (ub ((92 :: r).drop (esc (92 :: r)).2.1)) := by
  have hg := esc_good h
  have hb' : ∀ x ∈ (92 :: r).drop (esc (92 :: r)).2.1, 0 ≤ x ∧ x ≤ 255 := fun x hx => by
    rcases List.mem_cons.1 (List.mem_of_mem_drop hx) with e | e
    · omega
    · exact hb x e
  have hl : ((92 :: r).drop (esc (92 :: r)).2.1).length ≤ r.length := by rw [List.length_drop, List.length_cons]; omega
  have h2 : unb (r.length + 1) ((92 :: r).drop (esc (92 :: r)).2.1) = ub ((92 :: r).drop (esc (92 :: r)).2.1) := unb_enough _ _ _ hb' (Nat.le_refl _) (by omega)
  rw [ub_cons, unb_step, if_neg (by omega), if_neg (by omega), if_pos rfl, if_neg (fun g => g h), h2]
theorem ub_esc_bad {r : List Int} (h : (esc (92 :: r)).2.2 ≠ 0) : ub (92 :: r) = ([], 0, (esc (92 :: r)).2.2) := by
  rw [ub_cons, unb_step, if_neg (by omega), if_neg (by omega), if_pos rfl, if_pos h]
/-- a character's first byte is no quote, no escape, not below 32 -/
def Ok (c : Int) : Prop := form c ≠ 0 ∧ 32 ≤ c ∧ c ≠ 34 ∧ c ≠ 92
theorem enc_head {c : Int} (h : form c ≠ 0) : ∃ a t, enc c = a :: t ∧ ((c ≤ 127 ∧ a = c ∧ t = []) ∨ (128 ≤ c ∧ 192 ≤ a ∧ a ≤ 255)) := by
  rcases form_cases c with k | k | k | k | k
  · exact absurd k.1 h
  · exact ⟨c, [], enc1 k.1, .inl ⟨by omega, rfl, rfl⟩⟩
  · exact ⟨_, _, enc2 k.1, .inr ⟨by omega, by omega, by omega⟩⟩
  · exact ⟨_, _, enc3 k.1, .inr ⟨by omega, by omega, by omega⟩⟩
  · exact ⟨_, _, enc4 k.1, .inr ⟨by omega, by omega, by omega⟩⟩
theorem ub_chr {c : Int} (h : Ok c) {r : List Int} (hb : ∀ x ∈ r, 0 ≤ x ∧ x ≤ 255) : ub (enc c ++ r) = bnd (enc c) (enc c).length (ub r) := by
  obtain ⟨hc, h1, h2, h3⟩ := h
  obtain ⟨a, t, he, hw⟩ := enc_head hc
  have hd := dec_enc hc r
  have hbt : ∀ x ∈ enc c ++ r, 0 ≤ x ∧ x ≤ 255 := fun x hx => by
    rcases List.mem_append.1 hx with e | e
    · exact enc_byte c x e
    · exact hb x e
  have hlen : (enc c ++ r).length = (t ++ r).length + 1 := by rw [he]; rfl
  have h4 : unb ((t ++ r).length + 1) r = ub r := unb_enough _ _ _ hb (Nat.le_refl _) (by rw [List.length_append]; omega)
  unfold ub
  rw [hlen]
  have hc' : enc c ++ r = a :: (t ++ r) := by rw [he]; rfl
  have hdr := drop_enc c r
  have htk : (enc c ++ r).take (form c).toNat = enc c := by rw [toNat_form, List.take_left]
  rw [hc'] at hd hdr htk ⊢
  rw [unb_step, if_neg (by omega), if_neg (by omega), if_neg (by omega), hd]
  simp only [ne_eq, not_true_eq_false, if_false]
  rw [hdr, htk, h4, toNat_form]
  rfl
theorem ub_chr_bad {a : Int} {r : List Int} (h1 : 32 ≤ a) (h2 : a ≠ 34) (h3 : a ≠ 92) (h : (dec (a :: r)).2.2 ≠ 0) : ub (a :: r) = ([], 0, 10) := by
  rw [ub_cons, unb_step, if_neg h2, if_neg (by omega), if_neg h3, if_pos h]

/-- the ways of a string from within it -/
inductive Goes (l : List Int) : Prop
  | nil (hl : l = []) (h : ub l = ([], 0, 3))
  | fin (r : List Int) (hl : l = 34 :: r) (h : ub l = ([], 1, 0))
  | low (a : Int) (r : List Int) (hl : l = a :: r) (ha : a < 32) (h : ub l = ([], 0, 80))
  | ebad (r : List Int) (hl : l = 92 :: r) (he : (esc l).2.2 ≠ 0) (h : ub l = ([], 0, (esc l).2.2))
  | esc (r : List Int) (hl : l = 92 :: r) (he : (esc l).2.2 = 0) (h : ub l = bnd (enc (esc l).1) (esc l).2.1 (ub (l.drop (esc l).2.1)))
  | cbad (a : Int) (r : List Int) (hl : l = a :: r) (h1 : 32 ≤ a) (h2 : a ≠ 34) (h3 : a ≠ 92) (hd : (dec l).2.2 ≠ 0) (h : ub l = ([], 0, 10))
  | chr (c : Int) (r : List Int) (hc : Ok c) (hl : l = enc c ++ r) (h : ub l = bnd (enc c) (enc c).length (ub r))
theorem goes (l : List Int) (hb : ∀ x ∈ l, 0 ≤ x ∧ x ≤ 255) : Goes l := by
  rcases l with _ | ⟨a, r⟩
  · exact .nil rfl rfl
  have hbr : ∀ x ∈ r, 0 ≤ x ∧ x ≤ 255 := fun x hx => hb x (List.mem_cons_of_mem _ hx)
  by_cases h1 : a = 34
  · subst h1; exact .fin r rfl (ub_end r)
  by_cases h2 : a < 32
  · exact .low a r rfl h2 (ub_low h2)
  by_cases h3 : a = 92
  · subst h3
    by_cases h4 : (Em.esc (92 :: r)).2.2 = 0
    · exact .esc r rfl h4 (ub_esc hbr h4)
    · exact .ebad r rfl h4 (ub_esc_bad h4)
  · by_cases h4 : (dec (a :: r)).2.2 = 0
    · obtain ⟨c, t, hc, hl, e⟩ := dec_good hb h4
      obtain ⟨x, y, he, hw⟩ := enc_head hc
      have hx : a = x := by rw [he] at hl; exact (List.cons.inj hl).1
      have ok : Ok c := ⟨hc, by omega, by omega, by omega⟩
      rw [hl]
      exact .chr c t ok rfl (ub_chr ok (fun z hz => hb z (by rw [hl]; exact List.mem_append_right _ hz)))
    · exact .cbad a r rfl (by omega) h1 h3 h4 (ub_chr_bad (by omega) h1 h3 h4)

/-- a character, quoted -/
def q1 (c : Int) : List Int := if sh c ≠ 0 then [92, sh c] else if c < 32 then [92, 117, 48, 48, hx (c / 16), hx (c % 16)] else enc c
/-- characters, quoted -/
def qs (cs : List Int) : List Int := cs.flatMap q1
theorem qs_nil : qs [] = [] := rfl
theorem qs_cons (c : Int) (cs : List Int) : qs (c :: cs) = q1 c ++ qs cs := rfl
theorem qs_append (a b : List Int) : qs (a ++ b) = qs a ++ qs b := by simp [qs]
/-- the ways of a character, quoted -/
theorem q1_ways {c : Int} (h : form c ≠ 0) : (q1 c = [92, sh c] ∧ sh c ≠ 0) ∨ (q1 c = [92, 117, 48, 48, hx (c / 16), hx (c % 16)] ∧ 0 ≤ c ∧ c < 32) ∨ (q1 c = enc c ∧ Ok c) := by
  unfold q1
  by_cases h1 : sh c = 0
  · have h0 : 0 ≤ c := by have := form_cases c; omega
    by_cases h2 : c < 32
    · right; left
      rw [if_neg (fun g => g h1), if_pos h2]; exact ⟨rfl, h0, h2⟩
    · right; right
      rw [if_neg (fun g => g h1), if_neg h2]; exact ⟨rfl, h, by omega, (sh_none h1).1, (sh_none h1).2⟩
  · left
    rw [if_pos h1]; exact ⟨rfl, h1⟩
theorem q1_byte {c : Int} (h : form c ≠ 0) : ∀ x ∈ q1 c, 0 ≤ x ∧ x ≤ 255 := by
  intro x hx
  rcases q1_ways h with ⟨e, hs⟩ | ⟨e, h0, h1⟩ | ⟨e, _⟩
  · rw [e] at hx
    have := lg_sh hs
    simp at hx; omega
  · rw [e] at hx
    have h2 := hx_bd (n := c / 16) (by omega) (by omega)
    have h3 := hx_bd (n := c % 16) (by omega) (by omega)
    simp at hx; omega
  · rw [e] at hx; exact enc_byte c x hx
theorem qs_byte {cs : List Int} (h : Chars cs) : ∀ x ∈ qs cs, 0 ≤ x ∧ x ≤ 255 := fun x hx => by
  obtain ⟨c, hc, k⟩ := List.mem_flatMap.1 hx
  exact q1_byte (h c hc) x k
theorem q1_len {c : Int} (h : form c ≠ 0) : 1 ≤ (q1 c).length ∧ (q1 c).length ≤ 6 * (enc c).length := by
  have := List.length_pos_iff.2 (enc_ne h)
  rcases q1_ways h with ⟨e, hs⟩ | ⟨e, h0, h1⟩ | ⟨e, _⟩ <;> rw [e] <;> (first | (simp; omega) | omega)
/-- a character, quoted, is told -/
theorem ub_q1 {c : Int} (h : form c ≠ 0) {r : List Int} (hb : ∀ x ∈ r, 0 ≤ x ∧ x ≤ 255) : ub (q1 c ++ r) = bnd (enc c) (q1 c).length (ub r) := by
  rcases q1_ways h with ⟨e, hs⟩ | ⟨e, h0, h1⟩ | ⟨e, hk⟩
  · rw [e]
    obtain ⟨hl, hk, hb1⟩ := lg_sh hs
    have he : esc (92 :: sh c :: r) = (lg (sh c), 2, 0) := esc_letter hk (by omega)
    rw [hl] at he
    have := ub_esc (r := sh c :: r) (fun x hx => by rcases List.mem_cons.1 hx with g | g; omega; exact hb x g) (by rw [he])
    rw [he] at this
    exact this
  · rw [e]
    have hd : D4 48 48 (hx (c / 16)) (hx (c % 16)) := ⟨by decide, by decide, by rw [vx_hx (by omega) (by omega)]; omega, by rw [vx_hx (by omega) (by omega)]; omega⟩
    have hv : v4 48 48 (hx (c / 16)) (hx (c % 16)) = c := by
      unfold v4
      rw [vx_hx (by omega) (by omega), vx_hx (by omega) (by omega), show vx 48 = 0 by decide]
      omega
    have he : esc (92 :: 117 :: 48 :: 48 :: hx (c / 16) :: hx (c % 16) :: r) = (v4 48 48 (hx (c / 16)) (hx (c % 16)), 6, 0) := esc_plain hd (by omega)
    rw [hv] at he
    have h2 := hx_bd (n := c / 16) (by omega) (by omega)
    have h3 := hx_bd (n := c % 16) (by omega) (by omega)
    have := ub_esc (r := 117 :: 48 :: 48 :: hx (c / 16) :: hx (c % 16) :: r) (fun x hx => by
      simp only [List.mem_cons] at hx
      rcases hx with g | g | g | g | g | g
      · omega
      · omega
      · omega
      · omega
      · omega
      · exact hb x g) (by rw [he])
    rw [he] at this
    exact this
  · rw [e]; exact ub_chr hk hb
/-- characters, quoted, are told, and what comes behind -/
theorem ub_qs {cs : List Int} (h : Chars cs) {r : List Int} (hb : ∀ x ∈ r, 0 ≤ x ∧ x ≤ 255) : ub (qs cs ++ r) = bnd (encs cs) (qs cs).length (ub r) := by
  induction cs with
  | nil =>
    show ub r = _
    simp only [encs_nil, qs_nil, List.length_nil]
    by_cases g : (ub r).2.2 = 0
    · rw [bnd_ok g]; simp [← g]
    · rw [bnd_bad g]
      rcases goes r hb with ⟨hl, h'⟩ | ⟨t, hl, h'⟩ | ⟨a, t, hl, ha, h'⟩ | ⟨t, hl, he, h'⟩ | ⟨t, hl, he, h'⟩ | ⟨a, t, hl, _, _, _, _, h'⟩ | ⟨c, t, hc, hl, h'⟩
      · rw [h']
      · rw [h'] at g; exact absurd rfl g
      · rw [h']
      · rw [h']
      · rw [h', bnd_bad (by rw [h', bnd_err] at g; exact g)]
      · rw [h']
      · rw [h', bnd_bad (by rw [h', bnd_err] at g; exact g)]
  | cons c cs ih =>
    rw [qs_cons, encs_cons, List.append_assoc, ub_q1 h.head (fun x hx => by
      rcases List.mem_append.1 hx with e | e
      · exact qs_byte h.tail x e
      · exact hb x e), ih h.tail, bnd_bnd, List.length_append]
/-- what is wrong tells nothing -/
theorem ub_err {l : List Int} (hb : ∀ x ∈ l, 0 ≤ x ∧ x ≤ 255) (h : (ub l).2.2 ≠ 0) : ub l = ([], 0, (ub l).2.2) ∧ ((ub l).2.2 = 3 ∨ (ub l).2.2 = 80 ∨ (ub l).2.2 = 10) := by
  have key : ∀ n : Nat, ∀ l : List Int, (∀ x ∈ l, 0 ≤ x ∧ x ≤ 255) → l.length ≤ n → (ub l).2.2 ≠ 0 → ub l = ([], 0, (ub l).2.2) ∧ ((ub l).2.2 = 3 ∨ (ub l).2.2 = 80 ∨ (ub l).2.2 = 10) := by
    intro n
    induction n with
    | zero =>
      intro l hb hn h
      obtain rfl : l = [] := List.eq_nil_of_length_eq_zero (by omega)
      exact ⟨rfl, .inl rfl⟩
    | succ n ih =>
      intro l hb hn h
      rcases goes l hb with ⟨hl, h'⟩ | ⟨t, hl, h'⟩ | ⟨a, t, hl, ha, h'⟩ | ⟨t, hl, he, h'⟩ | ⟨t, hl, he, h'⟩ | ⟨a, t, hl, _, _, _, _, h'⟩ | ⟨c, t, hc, hl, h'⟩
      · rw [h']; exact ⟨rfl, .inl rfl⟩
      · rw [h'] at h; exact absurd rfl h
      · rw [h']; exact ⟨rfl, .inr (.inl rfl)⟩
      · rw [h']; exact ⟨rfl, by rcases (esc_bad he).2 with e | e; exact .inl e; exact .inr (.inl e)⟩
      · have hg := esc_good he
        rw [h', bnd_err] at h ⊢
        have := ih (l.drop (esc l).2.1) (fun x hx => hb x (List.mem_of_mem_drop hx)) (by rw [List.length_drop]; omega) h
        exact ⟨by rw [bnd_bad h], this.2⟩
      · rw [h']; exact ⟨rfl, .inr (.inr rfl)⟩
      · have h1 := List.length_pos_iff.2 (enc_ne hc.1)
        rw [h', bnd_err] at h ⊢
        have hlen : l.length = (enc c).length + t.length := by rw [hl, List.length_append]
        have := ih t (fun x hx => hb x (by rw [hl]; exact List.mem_append_right _ hx)) (by omega) h
        exact ⟨by rw [bnd_bad h], this.2⟩
  exact key l.length l hb (Nat.le_refl _) h
end Go.Proofs.Ytjkaccmhpilojaa.Em
