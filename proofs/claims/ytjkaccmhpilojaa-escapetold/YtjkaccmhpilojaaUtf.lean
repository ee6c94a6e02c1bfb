/-
  Plain mathematics of UTF-8: 'form', 'enc', 'dec', 'wk' as functions on numbers and lists, and what follows from them. Nothing of the program is named here.
-/
import Derived.Below
namespace Go.Proofs.Ytjkaccmhpilojaa.Utf
set_option linter.unusedVariables false

/-- how many bytes a character's form has; 0: no character -/
def form (c : Int) : Int :=
  if c < 0 then 0 else if c ≤ 127 then 1 else if c ≤ 2047 then 2 else if 55296 ≤ c ∧ c ≤ 57343 then 0 else if c ≤ 65535 then 3 else if c ≤ 1114111 then 4 else 0

theorem form_cases (c : Int) : (form c = 0 ∧ (c < 0 ∨ (55296 ≤ c ∧ c ≤ 57343) ∨ 1114111 < c)) ∨ (form c = 1 ∧ 0 ≤ c ∧ c ≤ 127) ∨ (form c = 2 ∧ 128 ≤ c ∧ c ≤ 2047) ∨
    (form c = 3 ∧ 2048 ≤ c ∧ c ≤ 65535 ∧ (c < 55296 ∨ 57343 < c)) ∨ (form c = 4 ∧ 65536 ≤ c ∧ c ≤ 1114111) := by
  unfold form
  repeat' split
  all_goals omega

/-- a character's bytes -/
def enc (c : Int) : List Int :=
  if form c = 1 then [c]
  else if form c = 2 then [192 + c / 64, 128 + c % 64]
  else if form c = 3 then [224 + c / 4096, 128 + c / 64 % 64, 128 + c % 64]
  else if form c = 4 then [240 + c / 262144, 128 + c / 4096 % 64, 128 + c / 64 % 64, 128 + c % 64]
  else []

theorem enc1 {c : Int} (h : form c = 1) : enc c = [c] := by simp [enc, h]
theorem enc2 {c : Int} (h : form c = 2) : enc c = [192 + c / 64, 128 + c % 64] := by simp [enc, h]
theorem enc3 {c : Int} (h : form c = 3) : enc c = [224 + c / 4096, 128 + c / 64 % 64, 128 + c % 64] := by simp [enc, h]
theorem enc4 {c : Int} (h : form c = 4) : enc c = [240 + c / 262144, 128 + c / 4096 % 64, 128 + c / 64 % 64, 128 + c % 64] := by simp [enc, h]
theorem enc0 {c : Int} (h : form c = 0) : enc c = [] := by simp [enc, h]

theorem enc_length (c : Int) : ((enc c).length : Int) = form c := by
  rcases form_cases c with h | h | h | h | h
  · simp [enc0 h.1, h.1]
  · simp [enc1 h.1, h.1]
  · simp [enc2 h.1, h.1]
  · simp [enc3 h.1, h.1]
  · simp [enc4 h.1, h.1]

theorem enc_byte (c : Int) : ∀ x ∈ enc c, 0 ≤ x ∧ x ≤ 255 := by
  rcases form_cases c with h | h | h | h | h
  · simp [enc0 h.1]
  · simp [enc1 h.1]; omega
  · simp [enc2 h.1]; omega
  · simp [enc3 h.1]; omega
  · simp [enc4 h.1]; omega

/-- what stands at the beginning of bytes: the character, its length, the error -/
def dec : List Int → Int × Int × Int
  | [] => (0, 0, 9)
  | a :: r =>
    if a < 128 then (a, 1, 0)
    else if a < 194 then (0, 0, 10)
    else if a < 224 then
      match r with
      | [] => (0, 0, 3)
      | b :: _ => if 128 ≤ b ∧ b ≤ 191 then ((a - 192) * 64 + (b - 128), 2, 0) else (0, 0, 10)
    else if a < 240 then
      match r with
      | [] => (0, 0, 3)
      | b :: r => if 128 ≤ b ∧ b ≤ 191 ∧ (a = 224 → 160 ≤ b) ∧ (a = 237 → b ≤ 159) then
          match r with
          | [] => (0, 0, 3)
          | c :: _ => if 128 ≤ c ∧ c ≤ 191 then ((a - 224) * 4096 + (b - 128) * 64 + (c - 128), 3, 0) else (0, 0, 10)
        else (0, 0, 10)
    else if a < 245 then
      match r with
      | [] => (0, 0, 3)
      | b :: r => if 128 ≤ b ∧ b ≤ 191 ∧ (a = 240 → 144 ≤ b) ∧ (a = 244 → b ≤ 143) then
          match r with
          | [] => (0, 0, 3)
          | c :: r => if 128 ≤ c ∧ c ≤ 191 then
              match r with
              | [] => (0, 0, 3)
              | d :: _ => if 128 ≤ d ∧ d ≤ 191 then ((a - 240) * 262144 + (b - 128) * 4096 + (c - 128) * 64 + (d - 128), 4, 0) else (0, 0, 10)
            else (0, 0, 10)
        else (0, 0, 10)
    else (0, 0, 10)

/-- what is written is read, whatever stands behind it -/
theorem dec_enc {c : Int} (h : form c ≠ 0) (r : List Int) : dec (enc c ++ r) = (c, form c, 0) := by
  rcases form_cases c with k | k | k | k | k
  · exact absurd k.1 h
  · rw [enc1 k.1, k.1]; simp only [List.cons_append, dec]; rw [if_pos (by omega)]
  · rw [enc2 k.1, k.1]; simp only [List.cons_append, List.nil_append, dec]
    rw [if_neg (by omega), if_neg (by omega), if_pos (by omega), if_pos (by omega), show (192 + c / 64 - 192) * 64 + (128 + c % 64 - 128) = c by omega]
  · rw [enc3 k.1, k.1]; simp only [List.cons_append, List.nil_append, dec]
    rw [if_neg (by omega), if_neg (by omega), if_neg (by omega), if_pos (by omega), if_pos (by omega), if_pos (by omega), show (224 + c / 4096 - 224) * 4096 + (128 + c / 64 % 64 - 128) * 64 + (128 + c % 64 - 128) = c by omega]
  · rw [enc4 k.1, k.1]; simp only [List.cons_append, List.nil_append, dec]
    rw [if_neg (by omega), if_neg (by omega), if_neg (by omega), if_neg (by omega), if_pos (by omega), if_pos (by omega), if_pos (by omega), if_pos (by omega),
      show (240 + c / 262144 - 240) * 262144 + (128 + c / 4096 % 64 - 128) * 4096 + (128 + c / 64 % 64 - 128) * 64 + (128 + c % 64 - 128) = c by omega]

/-- the ways in which bytes can begin -/
def Way (l : List Int) : Prop :=
  (l = [] ∧ dec l = (0, 0, 9)) ∨ (∃ c r, form c ≠ 0 ∧ l = enc c ++ r ∧ dec l = (c, form c, 0)) ∨
  (∃ c k, form c ≠ 0 ∧ 0 < k ∧ k < (enc c).length ∧ l = (enc c).take k ∧ dec l = (0, 0, 3)) ∨ dec l = (0, 0, 10)
theorem Way.none {l : List Int} (h : l = []) (e : dec l = (0, 0, 9)) : Way l := .inl ⟨h, e⟩
theorem Way.good {l : List Int} (c : Int) (r : List Int) (h : form c ≠ 0) (hl : l = enc c ++ r) (e : dec l = (c, form c, 0)) : Way l := .inr (.inl ⟨c, r, h, hl, e⟩)
theorem Way.part {l : List Int} (c : Int) (k : Nat) (h : form c ≠ 0) (h0 : 0 < k) (hk : k < (enc c).length) (hl : l = (enc c).take k) (e : dec l = (0, 0, 3)) : Way l := .inr (.inr (.inl ⟨c, k, h, h0, hk, hl, e⟩))
theorem Way.bad {l : List Int} (e : dec l = (0, 0, 10)) : Way l := .inr (.inr (.inr e))

theorem form_eq1 {c : Int} (h : 0 ≤ c) (h' : c ≤ 127) : form c = 1 := by rcases form_cases c with k | k | k | k | k <;> omega
theorem form_eq2 {c : Int} (h : 128 ≤ c) (h' : c ≤ 2047) : form c = 2 := by rcases form_cases c with k | k | k | k | k <;> omega
theorem form_eq3 {c : Int} (h : 2048 ≤ c) (h' : c ≤ 65535) (h2 : c < 55296 ∨ 57343 < c) : form c = 3 := by rcases form_cases c with k | k | k | k | k <;> omega
theorem form_eq4 {c : Int} (h : 65536 ≤ c) (h' : c ≤ 1114111) : form c = 4 := by rcases form_cases c with k | k | k | k | k <;> omega

theorem way (l : List Int) (hl : ∀ x ∈ l, 0 ≤ x ∧ x ≤ 255) : Way l := by
  match l, hl with
  | [], _ => exact .none rfl rfl
  | a :: r, hl =>
    have ha := hl a (by simp)
    by_cases h1 : a < 128
    · have e : dec (a :: r) = (a, 1, 0) := by simp only [dec]; rw [if_pos h1]
      have f := form_eq1 (c := a) (by omega) (by omega)
      exact .good a r (by omega) (by rw [enc1 f]; rfl) (by rw [e, f])
    by_cases h2 : a < 194
    · exact .bad (by simp only [dec]; rw [if_neg h1, if_pos h2])
    by_cases h3 : a < 224
    · match r with
      | [] =>
        have f := form_eq2 (c := (a - 192) * 64) (by omega) (by omega)
        exact .part ((a - 192) * 64) 1 (by omega) (by omega) (by rw [enc2 f]; simp) (by rw [enc2 f]; simp; omega) (by simp only [dec]; rw [if_neg h1, if_neg h2, if_pos h3])
      | b :: r =>
        by_cases hb : 128 ≤ b ∧ b ≤ 191
        · have f := form_eq2 (c := (a - 192) * 64 + (b - 128)) (by omega) (by omega)
          refine .good ((a - 192) * 64 + (b - 128)) r (by omega) (by rw [enc2 f]; simp; omega) (by simp only [dec]; rw [if_neg h1, if_neg h2, if_pos h3, if_pos hb, f])
        · exact .bad (by simp only [dec]; rw [if_neg h1, if_neg h2, if_pos h3, if_neg hb])
    by_cases h4 : a < 240
    · match r with
      | [] =>
        by_cases g : a = 224
        · subst g
          exact .part 2048 1 (by decide) (by omega) (by decide) (by decide) (by decide)
        · have f := form_eq3 (c := (a - 224) * 4096) (by omega) (by omega) (by omega)
          exact .part ((a - 224) * 4096) 1 (by omega) (by omega) (by rw [enc3 f]; simp) (by rw [enc3 f]; simp; omega) (by simp only [dec]; rw [if_neg h1, if_neg h2, if_neg h3, if_pos h4])
      | b :: r =>
        by_cases hb : 128 ≤ b ∧ b ≤ 191 ∧ (a = 224 → 160 ≤ b) ∧ (a = 237 → b ≤ 159)
        · match r with
          | [] =>
            have f := form_eq3 (c := (a - 224) * 4096 + (b - 128) * 64) (by omega) (by omega) (by omega)
            exact .part ((a - 224) * 4096 + (b - 128) * 64) 2 (by omega) (by omega) (by rw [enc3 f]; simp) (by rw [enc3 f]; simp; omega) (by simp only [dec]; rw [if_neg h1, if_neg h2, if_neg h3, if_pos h4, if_pos hb])
          | c :: r =>
            by_cases hc : 128 ≤ c ∧ c ≤ 191
            · have f := form_eq3 (c := (a - 224) * 4096 + (b - 128) * 64 + (c - 128)) (by omega) (by omega) (by omega)
              exact .good ((a - 224) * 4096 + (b - 128) * 64 + (c - 128)) r (by omega) (by rw [enc3 f]; simp; omega) (by simp only [dec]; rw [if_neg h1, if_neg h2, if_neg h3, if_pos h4, if_pos hb, if_pos hc, f])
            · exact .bad (by simp only [dec]; rw [if_neg h1, if_neg h2, if_neg h3, if_pos h4, if_pos hb, if_neg hc])
        · exact .bad (by simp only [dec]; rw [if_neg h1, if_neg h2, if_neg h3, if_pos h4, if_neg hb])
    by_cases h5 : a < 245
    · match r with
      | [] =>
        by_cases g : a = 240
        · subst g
          exact .part 65536 1 (by decide) (by omega) (by decide) (by decide) (by decide)
        · have f := form_eq4 (c := (a - 240) * 262144) (by omega) (by omega)
          exact .part ((a - 240) * 262144) 1 (by omega) (by omega) (by rw [enc4 f]; simp) (by rw [enc4 f]; simp; omega) (by simp only [dec]; rw [if_neg h1, if_neg h2, if_neg h3, if_neg h4, if_pos h5])
      | b :: r =>
        by_cases hb : 128 ≤ b ∧ b ≤ 191 ∧ (a = 240 → 144 ≤ b) ∧ (a = 244 → b ≤ 143)
        · match r with
          | [] =>
            have f := form_eq4 (c := (a - 240) * 262144 + (b - 128) * 4096) (by omega) (by omega)
            exact .part ((a - 240) * 262144 + (b - 128) * 4096) 2 (by omega) (by omega) (by rw [enc4 f]; simp) (by rw [enc4 f]; simp; omega)
              (by simp only [dec]; rw [if_neg h1, if_neg h2, if_neg h3, if_neg h4, if_pos h5, if_pos hb])
          | c :: r =>
            by_cases hc : 128 ≤ c ∧ c ≤ 191
            · match r with
              | [] =>
                have f := form_eq4 (c := (a - 240) * 262144 + (b - 128) * 4096 + (c - 128) * 64) (by omega) (by omega)
                exact .part ((a - 240) * 262144 + (b - 128) * 4096 + (c - 128) * 64) 3 (by omega) (by omega) (by rw [enc4 f]; simp) (by rw [enc4 f]; simp; omega)
                  (by simp only [dec]; rw [if_neg h1, if_neg h2, if_neg h3, if_neg h4, if_pos h5, if_pos hb, if_pos hc])
              | d :: r =>
                by_cases hd : 128 ≤ d ∧ d ≤ 191
                · have f := form_eq4 (c := (a - 240) * 262144 + (b - 128) * 4096 + (c - 128) * 64 + (d - 128)) (by omega) (by omega)
                  exact .good ((a - 240) * 262144 + (b - 128) * 4096 + (c - 128) * 64 + (d - 128)) r (by omega) (by rw [enc4 f]; simp; omega)
                    (by simp only [dec]; rw [if_neg h1, if_neg h2, if_neg h3, if_neg h4, if_pos h5, if_pos hb, if_pos hc, if_pos hd, f])
                · exact .bad (by simp only [dec]; rw [if_neg h1, if_neg h2, if_neg h3, if_neg h4, if_pos h5, if_pos hb, if_pos hc, if_neg hd])
            · exact .bad (by simp only [dec]; rw [if_neg h1, if_neg h2, if_neg h3, if_neg h4, if_pos h5, if_pos hb, if_neg hc])
        · exact .bad (by simp only [dec]; rw [if_neg h1, if_neg h2, if_neg h3, if_neg h4, if_pos h5, if_neg hb])
    exact .bad (by simp only [dec]; rw [if_neg h1, if_neg h2, if_neg h3, if_neg h4, if_neg h5])

/-- a beginning of a character's bytes that is not all of them is a piece -/
theorem dec_part {c : Int} (h : form c ≠ 0) {k : Nat} (h0 : 0 < k) (hk : k < (enc c).length) : dec ((enc c).take k) = (0, 0, 3) := by
  rcases form_cases c with f | f | f | f | f
  · exact absurd f.1 h
  · rw [enc1 f.1] at hk ⊢; simp at hk; omega
  · rw [enc2 f.1] at hk ⊢; simp at hk
    obtain rfl : k = 1 := by omega
    simp only [List.take, dec]; rw [if_neg (by omega), if_neg (by omega), if_pos (by omega)]
  · rw [enc3 f.1] at hk ⊢; simp at hk
    rcases (by omega : k = 1 ∨ k = 2) with rfl | rfl
    · simp only [List.take, dec]; rw [if_neg (by omega), if_neg (by omega), if_neg (by omega), if_pos (by omega)]
    · simp only [List.take, dec]; rw [if_neg (by omega), if_neg (by omega), if_neg (by omega), if_pos (by omega), if_pos (by omega)]
  · rw [enc4 f.1] at hk ⊢; simp at hk
    rcases (by omega : k = 1 ∨ k = 2 ∨ k = 3) with rfl | rfl | rfl
    · simp only [List.take, dec]; rw [if_neg (by omega), if_neg (by omega), if_neg (by omega), if_neg (by omega), if_pos (by omega)]
    · simp only [List.take, dec]; rw [if_neg (by omega), if_neg (by omega), if_neg (by omega), if_neg (by omega), if_pos (by omega), if_pos (by omega)]
    · simp only [List.take, dec]; rw [if_neg (by omega), if_neg (by omega), if_neg (by omega), if_neg (by omega), if_pos (by omega), if_pos (by omega), if_pos (by omega)]

/-- nothing begins in the middle of a character -/
theorem dec_mid {c : Int} (h : form c ≠ 0) {k : Nat} (h0 : 0 < k) (hk : k < (enc c).length) (r : List Int) : dec ((enc c).drop k ++ r) = (0, 0, 10) := by
  have key : ∀ x r, 128 ≤ x → x ≤ 191 → dec (x :: r) = (0, 0, 10) := by
    intro x r h1 h2; simp only [dec]; rw [if_neg (by omega), if_pos (by omega)]
  rcases form_cases c with f | f | f | f | f
  · exact absurd f.1 h
  · rw [enc1 f.1] at hk; simp at hk; omega
  · rw [enc2 f.1] at hk ⊢; simp at hk
    obtain rfl : k = 1 := by omega
    exact key _ _ (by omega) (by omega)
  · rw [enc3 f.1] at hk ⊢; simp at hk
    rcases (by omega : k = 1 ∨ k = 2) with rfl | rfl
    · exact key _ _ (by omega) (by omega)
    · exact key _ _ (by omega) (by omega)
  · rw [enc4 f.1] at hk ⊢; simp at hk
    rcases (by omega : k = 1 ∨ k = 2 ∨ k = 3) with rfl | rfl | rfl
    · exact key _ _ (by omega) (by omega)
    · exact key _ _ (by omega) (by omega)
    · exact key _ _ (by omega) (by omega)

end Go.Proofs.Ytjkaccmhpilojaa.Utf
