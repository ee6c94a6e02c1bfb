/-
  Plain mathematics of UTF-16 units: characters one behind the other, their bytes and their units; where so many units end; which characters units are. Nothing of the program is named here.
-/
import Derived.Test.YtjkaccmhpilojaaUtt
namespace Go.Proofs.Ytjkaccmhpilojaa.Utf
set_option linter.unusedVariables false

/-- a character's units -/
def us (c : Int) : List Int := if c < 65536 then [c] else [55296 + (c - 65536) / 1024, 56320 + (c - 65536) % 1024]
theorem us1 {c : Int} (h : c < 65536) : us c = [c] := by unfold us; rw [if_pos h]
theorem us2 {c : Int} (h : ¬ c < 65536) : us c = [55296 + (c - 65536) / 1024, 56320 + (c - 65536) % 1024] := by unfold us; rw [if_neg h]
theorem us_len (c : Int) : ((us c).length = 1 ∧ c < 65536) ∨ ((us c).length = 2 ∧ ¬ c < 65536) := by
  by_cases h : c < 65536
  · exact .inl ⟨by rw [us1 h]; rfl, h⟩
  · exact .inr ⟨by rw [us2 h]; rfl, h⟩
theorem us_u16 {c : Int} (h : form c ≠ 0) : ∀ x ∈ us c, 0 ≤ x ∧ x ≤ 65535 := by
  have hf := form_cases c
  by_cases g : c < 65536
  · rw [us1 g]; simp; omega
  · rw [us2 g]; simp; omega
/-- a character has no more units than bytes, and at most three bytes a unit -/
theorem us_enc {c : Int} (h : form c ≠ 0) : (us c).length ≤ (enc c).length ∧ (enc c).length ≤ 3 * (us c).length ∧ (enc c).length ≤ 4 := by
  have h1 := enc_length c
  rcases form_cases c with k | k | k | k | k
  · exact absurd k.1 h
  all_goals rcases us_len c with g | g <;> omega

/-- each is a character -/
def Chars (cs : List Int) : Prop := ∀ c ∈ cs, form c ≠ 0
theorem Chars.nil : Chars [] := fun c h => by cases h
theorem Chars.cons {c : Int} {cs : List Int} (h : form c ≠ 0) (hs : Chars cs) : Chars (c :: cs) := fun x hx => by
  rcases List.mem_cons.1 hx with rfl | g
  · exact h
  · exact hs x g
theorem Chars.head {c : Int} {cs : List Int} (h : Chars (c :: cs)) : form c ≠ 0 := h c (by simp)
theorem Chars.tail {c : Int} {cs : List Int} (h : Chars (c :: cs)) : Chars cs := fun x hx => h x (by simp [hx])
theorem Chars.append {a b : List Int} (h : Chars a) (k : Chars b) : Chars (a ++ b) := fun x hx => by
  rcases List.mem_append.1 hx with g | g
  · exact h x g
  · exact k x g
theorem Chars.snoc {a : List Int} {c : Int} (h : Chars a) (k : form c ≠ 0) : Chars (a ++ [c]) := h.append (Chars.cons k Chars.nil)
theorem Chars.left {a b : List Int} (h : Chars (a ++ b)) : Chars a := fun x hx => h x (List.mem_append_left _ hx)
theorem Chars.right {a b : List Int} (h : Chars (a ++ b)) : Chars b := fun x hx => h x (List.mem_append_right _ hx)

/-- the bytes of characters -/
def encs (cs : List Int) : List Int := cs.flatMap enc
/-- the units of characters -/
def uns (cs : List Int) : List Int := cs.flatMap us
@[simp] theorem encs_nil : encs [] = [] := rfl
@[simp] theorem uns_nil : uns [] = [] := rfl
theorem encs_cons (c : Int) (cs : List Int) : encs (c :: cs) = enc c ++ encs cs := rfl
theorem uns_cons (c : Int) (cs : List Int) : uns (c :: cs) = us c ++ uns cs := rfl
theorem encs_append (a b : List Int) : encs (a ++ b) = encs a ++ encs b := by simp [encs]
theorem uns_append (a b : List Int) : uns (a ++ b) = uns a ++ uns b := by simp [uns]
theorem encs_snoc (a : List Int) (c : Int) : encs (a ++ [c]) = encs a ++ enc c := by rw [encs_append]; simp [encs]
theorem uns_snoc (a : List Int) (c : Int) : uns (a ++ [c]) = uns a ++ us c := by rw [uns_append]; simp [uns]
theorem encs_byte (cs : List Int) : ∀ x ∈ encs cs, 0 ≤ x ∧ x ≤ 255 := fun x hx => by
  obtain ⟨c, _, h⟩ := List.mem_flatMap.1 hx
  exact enc_byte c x h
theorem uns_u16 {cs : List Int} (h : Chars cs) : ∀ x ∈ uns cs, 0 ≤ x ∧ x ≤ 65535 := fun x hx => by
  obtain ⟨c, hc, k⟩ := List.mem_flatMap.1 hx
  exact us_u16 (h c hc) x k
theorem uns_len {cs : List Int} (h : Chars cs) : (uns cs).length ≤ (encs cs).length ∧ (encs cs).length ≤ 3 * (uns cs).length ∧ (encs cs).length ≤ 4 * cs.length := by
  induction cs with
  | nil => simp
  | cons c cs ih =>
    have := ih h.tail
    have := us_enc h.head
    rw [encs_cons, uns_cons, List.length_append, List.length_append, List.length_cons]
    omega

theorem chk_encs {cs : List Int} (h : Chars cs) : chk (encs cs) = ((encs cs).length, cs.length, 0) := by
  induction cs with
  | nil => rfl
  | cons c cs ih =>
    rw [encs_cons, chk_good h.head (encs_byte cs), ih h.tail, List.length_append, List.length_cons]
    simp only [Prod.mk.injEq, true_and, and_true]; omega

/-- bytes are characters, and then the end, or what is none -/
theorem split_txt (n : Nat) : ∀ l : List Int, (∀ x ∈ l, 0 ≤ x ∧ x ≤ 255) → l.length ≤ n → ∃ cs r, Chars cs ∧ l = encs cs ++ r ∧
    ((r = [] ∧ chk l = (l.length, cs.length, 0)) ∨ (r ≠ [] ∧ ∃ e : Int, e ≠ 0 ∧ dec r = (0, 0, e) ∧ chk l = ((encs cs).length, cs.length, e))) := by
  induction n with
  | zero =>
    intro l hb hn
    obtain rfl : l = [] := List.eq_nil_of_length_eq_zero (by omega)
    exact ⟨[], [], Chars.nil, rfl, .inl ⟨rfl, rfl⟩⟩
  | succ n ih =>
    intro l hb hn
    by_cases hne : l = []
    · subst hne; exact ⟨[], [], Chars.nil, rfl, .inl ⟨rfl, rfl⟩⟩
    · by_cases h : (dec l).2.2 = 0
      · obtain ⟨c, t, hc, rfl, e⟩ := dec_good hb h
        have h1 : 1 ≤ (enc c).length := List.length_pos_iff.2 (enc_ne hc)
        have hbt : ∀ x ∈ t, 0 ≤ x ∧ x ≤ 255 := fun x hx => hb x (List.mem_append_right _ hx)
        rw [List.length_append] at hn
        obtain ⟨cs, r, hcs, ht, hr⟩ := ih t hbt (by omega)
        refine ⟨c :: cs, r, Chars.cons hc hcs, by rw [encs_cons, ht, List.append_assoc], ?_⟩
        rw [chk_good hc hbt, List.length_cons, encs_cons, List.length_append, List.length_append]
        rcases hr with ⟨rfl, hk⟩ | ⟨hr, e', he, hd, hk⟩
        · rw [hk]; refine .inl ⟨rfl, ?_⟩; simp only [Prod.mk.injEq, true_and, and_true]; omega
        · rw [hk]; refine .inr ⟨hr, e', he, hd, ?_⟩; simp only [Prod.mk.injEq, true_and, and_true]; omega
      · exact ⟨[], l, Chars.nil, rfl, .inr ⟨hne, _, h, dec_bad hb h, by rw [chk_bad hne h]; rfl⟩⟩

/-- a text, or not -/
theorem txt_or {l : List Int} (hb : ∀ x ∈ l, 0 ≤ x ∧ x ≤ 255) : (∃ cs, Chars cs ∧ l = encs cs) ∨ (∃ (x y : Nat) (e : Int), e ≠ 0 ∧ chk l = (x, y, e)) := by
  obtain ⟨cs, r, hc, hl, h⟩ := split_txt l.length l hb (Nat.le_refl _)
  rcases h with ⟨rfl, _⟩ | ⟨_, e, he, _, hk⟩
  · exact .inl ⟨cs, hc, by rw [hl, List.append_nil]⟩
  · exact .inr ⟨_, _, e, he, hk⟩

/-- what stands at a place between characters -/
theorem dec_here {pre post r : List Int} {c : Int} (h : form c ≠ 0) : dec ((encs (pre ++ c :: post) ++ r).drop (encs pre).length) = (c, ((enc c).length : Int), 0) := by
  rw [encs_append, encs_cons, List.append_assoc, List.drop_left, List.append_assoc, dec_enc h, enc_length]

/-- where so many units end, and how many there are ahead of it -/
def ends : List Int → Nat → Nat × Nat
  | [], _ => (0, 0)
  | c :: cs, n => if (us c).length ≤ n then ((enc c).length + (ends cs (n - (us c).length)).1, (us c).length + (ends cs (n - (us c).length)).2) else (0, 0)

theorem ends_all {cs : List Int} : ∀ {n : Nat}, (uns cs).length ≤ n → ends cs n = ((encs cs).length, (uns cs).length) := by
  induction cs with
  | nil => intro n _; rfl
  | cons c cs ih =>
    intro n h
    rw [uns_cons, List.length_append] at h
    rw [encs_cons, uns_cons, List.length_append, List.length_append]
    simp only [ends]
    rw [if_pos (by omega), ih (by omega)]

/-- ahead of a place that is reached all characters go in -/
theorem ends_pre (pre : List Int) : ∀ {post : List Int} {n : Nat}, (uns pre).length ≤ n → ends (pre ++ post) n = ((encs pre).length + (ends post (n - (uns pre).length)).1, (uns pre).length + (ends post (n - (uns pre).length)).2) := by
  induction pre with
  | nil => intro post n _; simp
  | cons c pre ih =>
    intro post n h
    rw [uns_cons, List.length_append] at h
    rw [encs_cons, uns_cons, List.length_append, List.length_append, List.cons_append]
    simp only [ends]
    rw [if_pos (by omega), ih (by omega)]
    simp only [Prod.mk.injEq]
    rw [show n - (us c).length - (uns pre).length = n - ((us c).length + (uns pre).length) by omega]
    omega
theorem ends_stop {c : Int} {post : List Int} {n : Nat} (h : n < (us c).length) : ends (c :: post) n = (0, 0) := by
  simp only [ends]; rw [if_neg (by omega)]
theorem ends_snoc (pre : List Int) (c : Int) : ∀ n : Nat, (ends (pre ++ [c]) n).1 = if (uns pre).length + (us c).length ≤ n then (encs pre).length + (enc c).length else (ends pre n).1 := by
  induction pre with
  | nil => intro n; simp [ends]; split <;> rfl
  | cons d pre ih =>
    intro n
    rw [uns_cons, encs_cons, List.length_append, List.length_append, List.cons_append]
    simp only [ends]
    by_cases h : (us d).length ≤ n
    · rw [if_pos h, if_pos h]
      simp only
      rw [ih]
      by_cases g : (uns pre).length + (us c).length ≤ n - (us d).length
      · rw [if_pos g, if_pos (by omega)]; omega
      · rw [if_neg g, if_neg (by omega)]
    · rw [if_neg h, if_neg h, if_neg (by omega)]
/-- a place that Offset tells is between characters; what stands behind it would be too many -/
theorem ends_cut (cs : List Int) : ∀ n : Nat, ∃ pre post, cs = pre ++ post ∧ ends cs n = ((encs pre).length, (uns pre).length) ∧ (uns pre).length ≤ n ∧ (∀ c rest, post = c :: rest → n < (uns pre).length + (us c).length) := by
  induction cs with
  | nil => intro n; exact ⟨[], [], rfl, rfl, Nat.zero_le _, fun c rest h => by cases h⟩
  | cons c cs ih =>
    intro n
    by_cases h : (us c).length ≤ n
    · obtain ⟨pre, post, hcs, he, hn, hp⟩ := ih (n - (us c).length)
      refine ⟨c :: pre, post, by rw [hcs]; rfl, ?_, ?_, ?_⟩
      · simp only [ends]; rw [if_pos h, he, encs_cons, uns_cons, List.length_append, List.length_append]
      · rw [uns_cons, List.length_append]; omega
      · intro d rest hd; have := hp d rest hd; rw [uns_cons, List.length_append]; omega
    · refine ⟨[], c :: cs, rfl, ends_stop (by omega), Nat.zero_le _, ?_⟩
      intro d rest hd
      injection hd with h1 h2
      subst h1; simp; omega
theorem ends_rise (cs : List Int) : ∀ {n m : Nat}, n ≤ m → (ends cs n).1 ≤ (ends cs m).1 := by
  induction cs with
  | nil => intro n m _; exact Nat.le_refl _
  | cons c cs ih =>
    intro n m h
    simp only [ends]
    by_cases g : (us c).length ≤ n
    · rw [if_pos g, if_pos (by omega)]; have := ih (n := n - (us c).length) (m := m - (us c).length) (by omega); simp only; omega
    · rw [if_neg g]; simp
theorem ends_le (cs : List Int) (n : Nat) : (ends cs n).1 ≤ (encs cs).length ∧ (ends cs n).2 ≤ (uns cs).length := by
  obtain ⟨pre, post, rfl, he, _, _⟩ := ends_cut cs n
  rw [he, encs_append, uns_append, List.length_append, List.length_append]; simp only; omega

/-- is it a pair? -/
def pairB (a b : Int) : Bool := decide (55296 ≤ a ∧ a ≤ 56319 ∧ 56320 ≤ b ∧ b ≤ 57343)
/-- the character that units begin with -/
def jo : List Int → Int
  | [] => 0
  | [a] => a
  | a :: b :: _ => if pairB a b = true then 65536 + ((a - 55296) * 1024 + (b - 56320)) else a
/-- the characters (or halves of some) that units are -/
def ch : List Int → List Int
  | [] => []
  | [a] => [a]
  | a :: b :: r => if pairB a b = true then (65536 + ((a - 55296) * 1024 + (b - 56320))) :: ch r else a :: ch (b :: r)

theorem jo_pair {a b : Int} {r : List Int} (h : pairB a b = true) : jo (a :: b :: r) = 65536 + ((a - 55296) * 1024 + (b - 56320)) := by simp only [jo]; rw [if_pos h]
theorem jo_one {a b : Int} {r : List Int} (h : pairB a b = false) : jo (a :: b :: r) = a := by simp only [jo]; rw [if_neg (by rw [h]; simp)]
theorem pair_bd {a b : Int} (h : pairB a b = true) : 55296 ≤ a ∧ a ≤ 56319 ∧ 56320 ≤ b ∧ b ≤ 57343 := by simpa [pairB] using h

theorem ch_step {r : List Int} (hb : ∀ x ∈ r, 0 ≤ x ∧ x ≤ 65535) (hne : r ≠ []) : ch r = jo r :: ch (r.drop (us (jo r)).length) ∧ (us (jo r)).length ≤ r.length ∧ us (jo r) ++ r.drop (us (jo r)).length = r := by
  match r, hne with
  | [a], _ =>
    have := hb a (by simp)
    rw [show jo [a] = a from rfl, us1 (by omega)]; simp [ch]
  | a :: b :: r, _ =>
    have ha := hb a (by simp)
    cases h : pairB a b
    · rw [jo_one h, us1 (by omega)]; simp [ch, h]
    · have := pair_bd h
      rw [jo_pair h, us2 (by omega)]
      simp [ch, h]
      omega

theorem uns_ch (n : Nat) : ∀ r : List Int, (∀ x ∈ r, 0 ≤ x ∧ x ≤ 65535) → r.length ≤ n → uns (ch r) = r := by
  induction n with
  | zero =>
    intro r _ h
    obtain rfl : r = [] := List.eq_nil_of_length_eq_zero (by omega)
    rfl
  | succ n ih =>
    intro r hb hn
    by_cases hne : r = []
    · subst hne; rfl
    · obtain ⟨h1, h2, h3⟩ := ch_step hb hne
      have hw : 1 ≤ (us (jo r)).length := by rcases us_len (jo r) with g | g <;> omega
      rw [h1, uns_cons, ih _ (fun x hx => hb x (List.mem_of_mem_drop hx)) (by rw [List.length_drop]; omega), h3]
theorem ch_one {a : Int} (h : a < 55296 ∨ 56319 < a) (r : List Int) : ch (a :: r) = a :: ch r := by
  cases r with
  | nil => rfl
  | cons b r =>
    have : pairB a b = false := by
      cases g : pairB a b
      · rfl
      · have := pair_bd g; omega
    simp only [ch]; rw [if_neg (by rw [this]; simp)]
theorem ch_uns {cs : List Int} (h : Chars cs) : ch (uns cs) = cs := by
  induction cs with
  | nil => rfl
  | cons c cs ih =>
    have hf := form_cases c
    have hc := h.head
    by_cases g : c < 65536
    · rw [uns_cons, us1 g, List.singleton_append, ch_one (by omega), ih h.tail]
    · rw [uns_cons, us2 g]
      simp only [List.cons_append, List.nil_append, ch]
      have : pairB (55296 + (c - 65536) / 1024) (56320 + (c - 65536) % 1024) = true := by simp only [pairB, decide_eq_true_iff]; omega
      rw [if_pos this, ih h.tail]
      congr 1; omega

/-- are they all characters? -/
def okB (cs : List Int) : Bool := cs.all fun c => decide (form c ≠ 0)
theorem okB_true {cs : List Int} : okB cs = true ↔ Chars cs := by
  simp [okB, Chars]
theorem okB_false {pre post : List Int} {c : Int} (h : form c = 0) : okB (pre ++ c :: post) = false := by
  simp [okB, h]
end Go.Proofs.Ytjkaccmhpilojaa.Utf
