/-
  Mathematics of lines: words with ends between them. No program is named here.
-/
import Derived.Test.YtlicfeepmhaemaaLv
import Derived.Test.YtlicfeepmhaemaaUn
namespace Go.Proofs.Ytlicfeepmhaemaa.Lm
set_option linter.unusedVariables false
open Utf

/-- words, each with an end behind it -/
def pw (E : List Int) (ws : List Nat) : List Int := ws.flatMap fun w => List.replicate w 120 ++ E
def IsE (E : List Int) : Prop := E = [10] ∨ E = [13, 10] ∨ E = [13]
theorem pw_nil (E : List Int) : pw E [] = [] := rfl
theorem pw_cons (E : List Int) (w : Nat) (ws : List Nat) : pw E (w :: ws) = List.replicate w 120 ++ E ++ pw E ws := rfl
theorem pw_snoc (E : List Int) (ws : List Nat) (w : Nat) : pw E (ws ++ [w]) = pw E ws ++ (List.replicate w 120 ++ E) := by simp [pw]
/-- where these ends are -/
def es (k : Nat) : Nat → List Nat → List (Nat × Nat)
  | _, [] => []
  | p, w :: ws => (p + w, p + w + k) :: es k (p + w + k) ws
theorem ends_word (w : Nat) : ∀ (p : Nat) (r : List Int), ends p (List.replicate w 120 ++ r) = ends (p + w) r := by
  induction w with
  | zero => intro p r; simp
  | succ w ih =>
    intro p r
    rw [List.replicate_succ, List.cons_append, ends_miss p (esz0 (by decide) (by decide)), ih]
    congr 1
    omega
theorem pw_head {E : List Int} (hE : IsE E) (ws : List Nat) (w : Nat) (h : E = [13]) : (pw E ws ++ List.replicate w 120).head? ≠ some 10 := by
  subst h
  cases ws with
  | nil => cases w <;> simp [pw, List.replicate_succ]
  | cons v ws => cases v <;> simp [pw, List.replicate_succ]
theorem ends_pw {E : List Int} (hE : IsE E) (w : Nat) : ∀ (ws : List Nat) (p : Nat), ends p (pw E ws ++ List.replicate w 120) = es E.length p ws := by
  intro ws
  induction ws with
  | nil =>
    intro p
    have := ends_word w p []
    simp only [List.append_nil] at this
    simp only [pw_nil, List.nil_append, this, es, ends]
  | cons v ws ih =>
    intro p
    have hh := pw_head hE ws w
    rw [pw_cons, List.append_assoc, List.append_assoc, ends_word]
    have hz : esz (E ++ (pw E ws ++ List.replicate w 120)) = E.length := by
      rcases hE with rfl | rfl | rfl
      · exact esz_feed _
      · exact esz_two _
      · exact esz_back (hh rfl)
    have hp : 0 < E.length := by rcases hE with rfl | rfl | rfl <;> simp
    rw [ends_hit _ (by rw [hz]; exact hp), hz, List.drop_left, ih]
    rfl
theorem heads_es (k : Nat) : ∀ (ws : List Nat) (f : Nat) (n : Nat) (w : Nat), n = lastTo f (es k f ws) + w → ∀ {i : Nat} {p : Nat × Nat}, (plains f (es k f ws) n)[i]? = some p → p.1 ≤ p.2 ∧ (ws ++ [w])[i]? = some (p.2 - p.1) := by
  intro ws
  induction ws with
  | nil =>
    intro f n w hn i p hp
    cases i with
    | zero => simp [plains, heads, es, lastTo] at hp hn; subst hp; subst hn; simp
    | succ i => simp [plains, heads, es] at hp
  | cons v ws ih =>
    intro f n w hn i p hp
    cases i with
    | zero => simp [plains, heads, es] at hp; subst hp; simp
    | succ i =>
      have hp' : (plains (f + v + k) (es k (f + v + k) ws) n)[i]? = some p := by simpa [plains, heads, es, lastTo] using hp
      have := ih (f + v + k) n w (by simpa [es, lastTo] using hn) hp'
      simpa using this
theorem last_es (k : Nat) : ∀ (ws : List Nat) (f : Nat) (E : List Int), E.length = k → lastTo f (es k f ws) = f + (pw E ws).length := by
  intro ws
  induction ws with
  | nil => intro f E h; simp [es, lastTo, pw]
  | cons v ws ih => intro f E h; simp only [es, lastTo, pw_cons, List.length_append, List.length_replicate]; rw [ih _ E h]; omega
theorem es_len (k : Nat) : ∀ (ws : List Nat) (f : Nat), (es k f ws).length = ws.length := by
  intro ws
  induction ws with
  | nil => intro f; rfl
  | cons v ws ih => intro f; simp only [es, List.length_cons, ih]
/-- the text of words has as many lines as words, each as long as its word -/
theorem words_len {E : List Int} (hE : IsE E) (ws : List Nat) (w : Nat) : (lns (pw E ws ++ List.replicate w 120)).length = ws.length + 1 := by
  rw [lns_length, ends_pw hE, es_len]
theorem words_at {E : List Int} (hE : IsE E) (ws : List Nat) (w : Nat) {i : Nat} {p : Nat × Nat} (hp : (lns (pw E ws ++ List.replicate w 120))[i]? = some p) : p.1 ≤ p.2 ∧ (ws ++ [w])[i]? = some (p.2 - p.1) := by
  unfold lns at hp
  rw [ends_pw hE] at hp
  exact heads_es E.length ws 0 _ w (by rw [last_es E.length ws 0 E rfl]; simp) hp
theorem enc_low {c : Int} (h0 : 0 ≤ c) (h1 : c ≤ 127) : enc c = [c] ∧ form c ≠ 0 := by
  have hf : form c = 1 := by
    rcases form_cases c with h | h | h | h | h <;> omega
  exact ⟨enc1 hf, by omega⟩
theorem low_text {b : List Int} (h : ∀ c ∈ b, 0 ≤ c ∧ c ≤ 127) : chk b = (b.length, b.length, 0) := by
  have he : encs b = b := by
    induction b with
    | nil => rfl
    | cons c b ih =>
      rw [encs_cons, (enc_low (h c (by simp)).1 (h c (by simp)).2).1, ih (fun x hx => h x (by simp [hx]))]
      rfl
  have hc : Chars b := fun c hc => (enc_low (h c hc).1 (h c hc).2).2
  have := chk_encs hc
  rw [he] at this
  exact this
theorem pw_low {E : List Int} (hE : IsE E) (ws : List Nat) : ∀ c ∈ pw E ws, 0 ≤ c ∧ c ≤ 127 := by
  intro c hc
  obtain ⟨w, _, h⟩ := List.mem_flatMap.1 hc
  rcases List.mem_append.1 h with g | g
  · obtain rfl := List.eq_of_mem_replicate g; decide
  · rcases hE with rfl | rfl | rfl
    · simp at g; subst g; decide
    · simp at g; rcases g with rfl | rfl <;> decide
    · simp at g; subst g; decide
theorem rep_low (w : Nat) : ∀ c ∈ List.replicate w (120 : Int), 0 ≤ c ∧ c ≤ 127 := by
  intro c hc; obtain rfl := List.eq_of_mem_replicate hc; decide
end Go.Proofs.Ytlicfeepmhaemaa.Lm
