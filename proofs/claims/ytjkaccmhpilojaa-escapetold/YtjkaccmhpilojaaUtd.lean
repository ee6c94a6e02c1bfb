/-
  Decode as the program goes about it (decG), and that it is 'dec'.
-/
import Derived.Test.YtjkaccmhpilojaaWr
namespace Go.Proofs.Ytjkaccmhpilojaa.Utf
set_option linter.unusedVariables false
open Wd Wr

/-- a byte that goes on -/
def cont (x : Int) : Bool := decide (128 ≤ x ∧ x ≤ 191)
def cv (c : Int) (l : List Int) : Int := l.foldl (fun c x => c * 64 + x % 64) c
theorem cv_snoc (c : Int) (l : List Int) (x : Int) : cv c (l ++ [x]) = cv c l * 64 + x % 64 := by simp [cv]

def decG (x : Int) (rest : List Int) : Int × Int × Int :=
  if (fst x).2 = 0 then (0, 0, 10)
  else if (rest.take ((fst x).2.toNat - 1)).all cont = false then (0, 0, 10)
  else if bg (cv (fst x).1 (rest.take ((fst x).2.toNat - 1))) ((fst x).2 - 1 - (rest.take ((fst x).2.toNat - 1)).length) (fst x).2 = false then (0, 0, 10)
  else if 0 < (fst x).2 - 1 - (rest.take ((fst x).2.toNat - 1)).length then (0, 0, 3)
  else (cv (fst x).1 (rest.take ((fst x).2.toNat - 1)), (fst x).2, 0)

theorem fst_lo {x : Int} (h : x < 128) : fst x = (x, 1) := by unfold fst; rw [if_pos h]
theorem fst_bad {x : Int} (h : 128 ≤ x) (h' : x < 192) : fst x = (0, 0) := by unfold fst; rw [if_neg (by omega), if_pos h']
theorem fst_2 {x : Int} (h : 192 ≤ x) (h' : x < 224) : fst x = (x - 192, 2) := by unfold fst; rw [if_neg (by omega), if_neg (by omega), if_pos h']
theorem fst_3 {x : Int} (h : 224 ≤ x) (h' : x < 240) : fst x = (x - 224, 3) := by unfold fst; rw [if_neg (by omega), if_neg (by omega), if_neg (by omega), if_pos h']
theorem fst_4 {x : Int} (h : 240 ≤ x) (h' : x < 248) : fst x = (x - 240, 4) := by unfold fst; rw [if_neg (by omega), if_neg (by omega), if_neg (by omega), if_neg (by omega), if_pos h']
theorem fst_hi {x : Int} (h : 248 ≤ x) : fst x = (0, 0) := by unfold fst; rw [if_neg (by omega), if_neg (by omega), if_neg (by omega), if_neg (by omega), if_neg (by omega)]

theorem bgt {c l s : Int} (h : Utf.form (c * 64 ^ l.toNat) = s ∨ Utf.form (c * 64 ^ l.toNat + (64 ^ l.toNat - 1)) = s) : bg c l s = true := by simpa [bg] using h
theorem bgf {c l s : Int} (h : Utf.form (c * 64 ^ l.toNat) ≠ s) (h' : Utf.form (c * 64 ^ l.toNat + (64 ^ l.toNat - 1)) ≠ s) : bg c l s = false := by simp [bg, h, h']

theorem decG_bad1 {x : Int} (rest : List Int) (h : fst x = (0, 0)) : decG x rest = (0, 0, 10) := by simp [decG, h]

theorem decG_eq (x : Int) (rest : List Int) (h0 : 0 ≤ x) (h1 : x ≤ 255) : decG x rest = dec (x :: rest) := by
  by_cases a1 : x < 128
  · have e := fst_lo a1
    have hb : bg x 0 1 = true := by rw [bg0, form_eq1 h0 (by omega)]; rfl
    simp only [dec]; rw [if_pos a1]
    simp [decG, e, cv, hb]
  by_cases a2 : x < 192
  · rw [decG_bad1 rest (fst_bad (by omega) a2)]
    simp only [dec]; rw [if_neg a1, if_pos (by omega)]
  by_cases a3 : x < 224
  · have e := fst_2 (by omega) a3
    match rest with
    | [] =>
      by_cases g : x < 194
      · have hb : bg (x - 192) 1 2 = false := by
          rw [bg1, form_eq1 (c := (x - 192) * 64) (by omega) (by omega), form_eq1 (by omega) (by omega)]; rfl
        simp only [dec]; rw [if_neg a1, if_pos g]
        simp [decG, e, cv, hb]
      · have hb : bg (x - 192) 1 2 = true := by
          rw [bg1, form_eq2 (c := (x - 192) * 64) (by omega) (by omega)]; rfl
        simp only [dec]; rw [if_neg a1, if_neg g, if_pos a3]
        simp [decG, e, cv, hb]
    | b :: r =>
      by_cases hc : 128 ≤ b ∧ b ≤ 191
      · have k : cont b = true := by simp [cont, hc]
        by_cases g : x < 194
        · have hb : bg ((x - 192) * 64 + b % 64) 0 2 = false := by
            rw [bg0, form_eq1 (c := (x - 192) * 64 + b % 64) (by omega) (by omega)]; rfl
          simp only [dec]; rw [if_neg a1, if_pos g]
          simp [decG, e, cv, hb, k]
        · have hb : bg ((x - 192) * 64 + b % 64) 0 2 = true := by
            rw [bg0, form_eq2 (c := (x - 192) * 64 + b % 64) (by omega) (by omega)]; rfl
          simp only [dec]; rw [if_neg a1, if_neg g, if_pos a3, if_pos hc]
          simp [decG, e, cv, hb, k]; omega
      · have k : cont b = false := by simp only [cont, decide_eq_false_iff_not]; exact hc
        simp only [dec]; rw [if_neg a1, if_pos a3, if_neg hc]
        simp [decG, e, k]
  by_cases a4 : x < 240
  · have e := fst_3 (by omega) a4
    simp only [dec]; rw [if_neg a1, if_neg (by omega), if_neg a3, if_pos a4]
    match rest with
    | [] =>
      have hb : bg (x - 224) 2 3 = true := by
        by_cases g : x = 224
        · subst g; decide
        · rw [bg2, form_eq3 (c := (x - 224) * 4096) (by omega) (by omega) (by omega)]; rfl
      simp [decG, e, cv, hb]
    | b :: r =>
      by_cases hc : 128 ≤ b ∧ b ≤ 191
      · have k : cont b = true := by simp [cont, hc]
        by_cases g : (x = 224 → 160 ≤ b) ∧ (x = 237 → b ≤ 159)
        · dsimp only; rw [if_pos ⟨hc.1, hc.2, g⟩]
          match r with
          | [] =>
            have hb : bg ((x - 224) * 64 + b % 64) 1 3 = true := by
              rw [bg1, form_eq3 (c := ((x - 224) * 64 + b % 64) * 64) (by omega) (by omega) (by omega)]; rfl
            simp [decG, e, cv, hb, k]
          | c :: r =>
            by_cases hd : 128 ≤ c ∧ c ≤ 191
            · have k2 : cont c = true := by simp [cont, hd]
              have hb : bg (((x - 224) * 64 + b % 64) * 64 + c % 64) 0 3 = true := by
                rw [bg0, form_eq3 (c := ((x - 224) * 64 + b % 64) * 64 + c % 64) (by omega) (by omega) (by omega)]; rfl
              dsimp only; rw [if_pos hd]
              simp [decG, e, cv, hb, k, k2]; omega
            · have k2 : cont c = false := by simp only [cont, decide_eq_false_iff_not]; exact hd
              dsimp only; rw [if_neg hd]
              simp [decG, e, k, k2]
        · dsimp only; rw [if_neg (fun h => g h.2.2)]
          have nf : ∀ y : Int, ((x - 224) * 64 + b % 64) * 64 ≤ y → y ≤ ((x - 224) * 64 + b % 64) * 64 + 63 → Utf.form y ≠ 3 := by
            intro y y1 y2
            rcases form_cases y with f | f | f | f | f <;> omega
          match r with
          | [] =>
            have hb : bg ((x - 224) * 64 + b % 64) 1 3 = false := by
              refine bgf (nf _ ?_ ?_) (nf _ ?_ ?_) <;> simp <;> omega
            simp [decG, e, cv, hb, k]
          | c :: r =>
            by_cases hd : 128 ≤ c ∧ c ≤ 191
            · have k2 : cont c = true := by simp [cont, hd]
              have hb : bg (((x - 224) * 64 + b % 64) * 64 + c % 64) 0 3 = false := by
                refine bgf (nf _ ?_ ?_) (nf _ ?_ ?_) <;> simp <;> omega
              simp [decG, e, cv, hb, k, k2]
            · have k2 : cont c = false := by simp only [cont, decide_eq_false_iff_not]; exact hd
              simp [decG, e, k, k2]
      · have k : cont b = false := by simp only [cont, decide_eq_false_iff_not]; exact hc
        dsimp only; rw [if_neg (fun h => hc ⟨h.1, h.2.1⟩)]
        simp [decG, e, k]
  by_cases a5 : x < 248
  · have e := fst_4 (by omega) a5
    by_cases g5 : x < 245
    · simp only [dec]; rw [if_neg a1, if_neg (by omega), if_neg a3, if_neg a4, if_pos g5]
      match rest with
      | [] =>
        have hb : bg (x - 240) 3 4 = true := by
          by_cases g : x = 240
          · subst g; decide
          · rw [bg3, form_eq4 (c := (x - 240) * 262144) (by omega) (by omega)]; rfl
        simp [decG, e, cv, hb]
      | b :: r =>
        by_cases hc : 128 ≤ b ∧ b ≤ 191
        · have k : cont b = true := by simp [cont, hc]
          by_cases g : (x = 240 → 144 ≤ b) ∧ (x = 244 → b ≤ 143)
          · dsimp only; rw [if_pos ⟨hc.1, hc.2, g⟩]
            match r with
            | [] =>
              have hb : bg ((x - 240) * 64 + b % 64) 2 4 = true := by
                rw [bg2, form_eq4 (c := ((x - 240) * 64 + b % 64) * 4096) (by omega) (by omega)]; rfl
              simp [decG, e, cv, hb, k]
            | c :: r =>
              by_cases hd : 128 ≤ c ∧ c ≤ 191
              · have k2 : cont c = true := by simp [cont, hd]
                dsimp only; rw [if_pos hd]
                match r with
                | [] =>
                  have hb : bg (((x - 240) * 64 + b % 64) * 64 + c % 64) 1 4 = true := by
                    rw [bg1, form_eq4 (c := (((x - 240) * 64 + b % 64) * 64 + c % 64) * 64) (by omega) (by omega)]; rfl
                  simp [decG, e, cv, hb, k, k2]
                | d :: r =>
                  by_cases he : 128 ≤ d ∧ d ≤ 191
                  · have k3 : cont d = true := by simp [cont, he]
                    have hb : bg ((((x - 240) * 64 + b % 64) * 64 + c % 64) * 64 + d % 64) 0 4 = true := by
                      rw [bg0, form_eq4 (c := (((x - 240) * 64 + b % 64) * 64 + c % 64) * 64 + d % 64) (by omega) (by omega)]; rfl
                    dsimp only; rw [if_pos he]
                    simp [decG, e, cv, hb, k, k2, k3]; omega
                  · have k3 : cont d = false := by simp only [cont, decide_eq_false_iff_not]; exact he
                    dsimp only; rw [if_neg he]
                    simp [decG, e, k, k2, k3]
              · have k2 : cont c = false := by simp only [cont, decide_eq_false_iff_not]; exact hd
                dsimp only; rw [if_neg hd]
                simp [decG, e, k, k2]
          · dsimp only; rw [if_neg (fun h => g h.2.2)]
            have nf : ∀ y : Int, ((x - 240) * 64 + b % 64) * 4096 ≤ y → y ≤ ((x - 240) * 64 + b % 64) * 4096 + 4095 → Utf.form y ≠ 4 := by
              intro y y1 y2
              rcases form_cases y with f | f | f | f | f <;> omega
            match r with
            | [] =>
              have hb : bg ((x - 240) * 64 + b % 64) 2 4 = false := by
                refine bgf (nf _ ?_ ?_) (nf _ ?_ ?_) <;> simp <;> omega
              simp [decG, e, cv, hb, k]
            | c :: r =>
              by_cases hd : 128 ≤ c ∧ c ≤ 191
              · have k2 : cont c = true := by simp [cont, hd]
                match r with
                | [] =>
                  have hb : bg (((x - 240) * 64 + b % 64) * 64 + c % 64) 1 4 = false := by
                    refine bgf (nf _ ?_ ?_) (nf _ ?_ ?_) <;> simp <;> omega
                  simp [decG, e, cv, hb, k, k2]
                | d :: r =>
                  by_cases he : 128 ≤ d ∧ d ≤ 191
                  · have k3 : cont d = true := by simp [cont, he]
                    have hb : bg ((((x - 240) * 64 + b % 64) * 64 + c % 64) * 64 + d % 64) 0 4 = false := by
                      refine bgf (nf _ ?_ ?_) (nf _ ?_ ?_) <;> simp <;> omega
                    simp [decG, e, cv, hb, k, k2, k3]
                  · have k3 : cont d = false := by simp only [cont, decide_eq_false_iff_not]; exact he
                    simp [decG, e, k, k2, k3]
              · have k2 : cont c = false := by simp only [cont, decide_eq_false_iff_not]; exact hd
                simp [decG, e, k, k2]
        · have k : cont b = false := by simp only [cont, decide_eq_false_iff_not]; exact hc
          dsimp only; rw [if_neg (fun h => hc ⟨h.1, h.2.1⟩)]
          simp [decG, e, k]
    · simp only [dec]; rw [if_neg a1, if_neg (by omega), if_neg a3, if_neg a4, if_neg g5]
      have nf : ∀ y : Int, (x - 240) * 262144 ≤ y → Utf.form y ≠ 4 := by
        intro y y1
        rcases form_cases y with f | f | f | f | f <;> omega
      match rest with
      | [] =>
        have hb : bg (x - 240) 3 4 = false := by refine bgf (nf _ ?_) (nf _ ?_) <;> simp <;> omega
        simp [decG, e, cv, hb]
      | b :: r =>
        by_cases hc : 128 ≤ b ∧ b ≤ 191
        · have k : cont b = true := by simp [cont, hc]
          match r with
          | [] =>
            have hb : bg ((x - 240) * 64 + b % 64) 2 4 = false := by refine bgf (nf _ ?_) (nf _ ?_) <;> simp <;> omega
            simp [decG, e, cv, hb, k]
          | c :: r =>
            by_cases hd : 128 ≤ c ∧ c ≤ 191
            · have k2 : cont c = true := by simp [cont, hd]
              match r with
              | [] =>
                have hb : bg (((x - 240) * 64 + b % 64) * 64 + c % 64) 1 4 = false := by refine bgf (nf _ ?_) (nf _ ?_) <;> simp <;> omega
                simp [decG, e, cv, hb, k, k2]
              | d :: r =>
                by_cases he : 128 ≤ d ∧ d ≤ 191
                · have k3 : cont d = true := by simp [cont, he]
                  have hb : bg ((((x - 240) * 64 + b % 64) * 64 + c % 64) * 64 + d % 64) 0 4 = false := by refine bgf (nf _ ?_) (nf _ ?_) <;> simp <;> omega
                  simp [decG, e, cv, hb, k, k2, k3]
                · have k3 : cont d = false := by simp only [cont, decide_eq_false_iff_not]; exact he
                  simp [decG, e, k, k2, k3]
            · have k2 : cont c = false := by simp only [cont, decide_eq_false_iff_not]; exact hd
              simp [decG, e, k, k2]
        · have k : cont b = false := by simp only [cont, decide_eq_false_iff_not]; exact hc
          simp [decG, e, k]
  rw [decG_bad1 rest (fst_hi (by omega))]
  simp only [dec]; rw [if_neg a1, if_neg (by omega), if_neg a3, if_neg a4, if_neg (by omega)]

/-- the number that is read never grows beyond a form's bits -/
theorem cv_bd {x : Int} (h0 : 0 ≤ x) (h1 : x ≤ 255) (hs : (fst x).2 ≠ 0) (m : List Int) (hm : m.length ≤ (fst x).2.toNat - 1) : 0 ≤ cv (fst x).1 m ∧ cv (fst x).1 m < 2097152 := by
  have hm3 : ∃ c s, fst x = (c, s) ∧ ((s = 1 ∧ 0 ≤ c ∧ c < 128) ∨ (s = 2 ∧ 0 ≤ c ∧ c < 32) ∨ (s = 3 ∧ 0 ≤ c ∧ c < 16) ∨ (s = 4 ∧ 0 ≤ c ∧ c < 8)) := by
    revert hs; unfold fst
    repeat' split
    all_goals intro hs
    · exact ⟨_, _, rfl, by omega⟩
    · exact absurd rfl hs
    · exact ⟨_, _, rfl, by omega⟩
    · exact ⟨_, _, rfl, by omega⟩
    · exact ⟨_, _, rfl, by omega⟩
    · exact absurd rfl hs
  obtain ⟨c, s, e, hcs⟩ := hm3
  rw [e] at hm ⊢
  simp only at hm ⊢
  rcases hcs with ⟨rfl, k1, k2⟩ | ⟨rfl, k1, k2⟩ | ⟨rfl, k1, k2⟩ | ⟨rfl, k1, k2⟩
  · match m, hm with
    | [], _ => simp [cv]; omega
  · match m, hm with
    | [], _ => simp [cv]; omega
    | [a], _ => simp [cv]; omega
  · match m, hm with
    | [], _ => simp [cv]; omega
    | [a], _ => simp [cv]; omega
    | [a, b], _ => simp [cv]; omega
  · match m, hm with
    | [], _ => simp [cv]; omega
    | [a], _ => simp [cv]; omega
    | [a, b], _ => simp [cv]; omega
    | [a, b, c], _ => simp [cv]; omega
theorem fst_bd {x : Int} (h0 : 0 ≤ x) (h1 : x ≤ 255) : 0 ≤ (fst x).1 ∧ (fst x).1 < 128 ∧ 0 ≤ (fst x).2 ∧ (fst x).2 ≤ 4 := by
  unfold fst
  repeat' split
  all_goals simp
  all_goals omega
end Go.Proofs.Ytjkaccmhpilojaa.Utf
