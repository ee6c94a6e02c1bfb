/-
  Plain mathematics of UTF-8, more: how the document's answer finds that bytes are the beginning of a character's.
-/
import Derived.Test.YtjkaccmhpilojaaWj
namespace Go.Proofs.Ytjkaccmhpilojaa.Wf
set_option linter.unusedVariables false
open Utf Wd Wr We Wi

/-- how many bytes the form has that a first byte begins -/
def nd (l : List Int) : Int := (fst (l.headD 0)).2
/-- the least character of a form -/
def mn : Nat → Int
  | 2 => 128
  | 3 => 2048
  | 4 => 65536
  | _ => 0
def lo (l : List Int) (m : Nat) : Int := jn (l ++ List.replicate (m - l.length) 128) m
def hi (l : List Int) (m : Nat) : Int := jn (l ++ List.replicate (m - l.length) 191) m
def mx (l : List Int) (m : Nat) : Int := if lo l m < mn m then mn m else lo l m

/-- what is looked for is found, at the first try -/
structure Found (l : List Int) (m : Nat) (c : Int) : Prop where
  form : Utf.form c = m
  low : lo l m ≤ c
  high : c ≤ hi l m
  bytes : (enc c).take l.length = l

theorem nd_part {l : List Int} (hb : IsB l) (h : (dec l).2.2 = 3) : (l.length : Int) + 1 ≤ nd l ∧ nd l ≤ 4 ∧ 1 ≤ l.length := by
  rcases way l hb with ⟨_, e⟩ | ⟨_, _, _, _, e⟩ | ⟨c, k, hc, hk0, hk, rfl, e⟩ | e
  · rw [e] at h; cases h
  · rw [e] at h; cases h
  · have hl : ((enc c).take k).length = k := by rw [List.length_take]; omega
    rw [hl]
    have hh : ((enc c).take k).headD 0 = (enc c).headD 0 := by
      cases k with
      | zero => omega
      | succ k => cases hE : enc c with
        | nil => exact absurd hE (enc_ne hc)
        | cons a r => simp
    unfold nd
    rw [hh]
    rcases form_cases c with f | f | f | f | f
    · exact absurd f.1 hc
    · rw [enc1 f.1] at hk ⊢; simp at hk; omega
    · rw [enc2 f.1] at hk ⊢; simp only [List.headD_cons, List.length_cons, List.length_nil] at hk ⊢
      rw [fst_2 (by omega) (by omega)]; simp only; omega
    · rw [enc3 f.1] at hk ⊢; simp only [List.headD_cons, List.length_cons, List.length_nil] at hk ⊢
      rw [fst_3 (by omega) (by omega)]; simp only; omega
    · rw [enc4 f.1] at hk ⊢; simp only [List.headD_cons, List.length_cons, List.length_nil] at hk ⊢
      rw [fst_4 (by omega) (by omega)]; simp only; omega
  · rw [e] at h; cases h

/-- whatever is found tells that the bytes are a beginning -/
theorem found_part {l : List Int} {m : Nat} {c : Int} (h : Found l m c) (h0 : 1 ≤ l.length) (hm : l.length < m) : (dec l).2.2 = 3 := by
  have hf : Utf.form c ≠ 0 := by rw [h.form]; omega
  have hlen := enc_length c
  rw [h.form] at hlen
  have := dec_part hf (k := l.length) (by omega) (by omega)
  rw [h.bytes] at this
  rw [this]

theorem found {l : List Int} (hb : IsB l) (h : (dec l).2.2 = 3) {m : Nat} (hm : nd l = m) : Found l m (mx l m) := by
  rcases way l hb with ⟨_, e⟩ | ⟨_, _, _, _, e⟩ | ⟨c, k, hc, hk0, hk, rfl, e⟩ | e
  · rw [e] at h; cases h
  · rw [e] at h; cases h
  · rcases form_cases c with f | f | f | f | f
    · exact absurd f.1 hc
    · rw [enc1 f.1] at hk; simp at hk; omega
    · rw [enc2 f.1] at hk hm ⊢
      simp at hk
      obtain rfl : k = 1 := by omega
      simp only [List.take_succ_cons, List.take_zero, nd, List.headD_cons] at hm ⊢
      rw [fst_2 (by omega) (by omega)] at hm
      obtain rfl : m = 2 := by simp at hm; omega
      have l1 : lo [192 + c / 64] 2 = c / 64 * 64 := by simp [lo, jn, cv, md]; omega
      have l2 : hi [192 + c / 64] 2 = c / 64 * 64 + 63 := by simp [hi, jn, cv, md]; omega
      have l3 : mx [192 + c / 64] 2 = c / 64 * 64 := by unfold mx; rw [l1]; simp only [mn]; rw [if_neg (by omega)]
      have f2 := form_eq2 (c := c / 64 * 64) (by omega) (by omega)
      rw [l3]
      exact ⟨f2, by omega, by omega, by rw [enc2 f2]; simp⟩
    · rw [enc3 f.1] at hk hm ⊢
      simp at hk
      rcases (by omega : k = 1 ∨ k = 2) with rfl | rfl
      · simp only [List.take_succ_cons, List.take_zero, nd, List.headD_cons] at hm ⊢
        rw [fst_3 (by omega) (by omega)] at hm
        obtain rfl : m = 3 := by simp at hm; omega
        have l1 : lo [224 + c / 4096] 3 = c / 4096 * 4096 := by simp [lo, jn, cv, md, List.replicate]; omega
        have l2 : hi [224 + c / 4096] 3 = c / 4096 * 4096 + 4095 := by simp [hi, jn, cv, md, List.replicate]; omega
        by_cases g : c / 4096 = 0
        · have l3 : mx [224 + c / 4096] 3 = 2048 := by unfold mx; rw [l1]; simp only [mn]; rw [if_pos (by omega)]
          rw [l3]
          have f3 := form_eq3 (c := 2048) (by omega) (by omega) (by omega)
          exact ⟨f3, by omega, by omega, by rw [g]; decide⟩
        · have l3 : mx [224 + c / 4096] 3 = c / 4096 * 4096 := by unfold mx; rw [l1]; simp only [mn]; rw [if_neg (by omega)]
          have f3 := form_eq3 (c := c / 4096 * 4096) (by omega) (by omega) (by omega)
          rw [l3]
          exact ⟨f3, by omega, by omega, by rw [enc3 f3]; simp⟩
      · simp only [List.take_succ_cons, List.take_zero, nd, List.headD_cons] at hm ⊢
        rw [fst_3 (by omega) (by omega)] at hm
        obtain rfl : m = 3 := by simp at hm; omega
        have l1 : lo [224 + c / 4096, 128 + c / 64 % 64] 3 = c / 64 * 64 := by simp [lo, jn, cv, md]; omega
        have l2 : hi [224 + c / 4096, 128 + c / 64 % 64] 3 = c / 64 * 64 + 63 := by simp [hi, jn, cv, md]; omega
        have l3 : mx [224 + c / 4096, 128 + c / 64 % 64] 3 = c / 64 * 64 := by unfold mx; rw [l1]; simp only [mn]; rw [if_neg (by omega)]
        have f3 := form_eq3 (c := c / 64 * 64) (by omega) (by omega) (by omega)
        rw [l3]
        exact ⟨f3, by omega, by omega, by rw [enc3 f3]; simp; omega⟩
    · rw [enc4 f.1] at hk hm ⊢
      simp at hk
      rcases (by omega : k = 1 ∨ k = 2 ∨ k = 3) with rfl | rfl | rfl
      · simp only [List.take_succ_cons, List.take_zero, nd, List.headD_cons] at hm ⊢
        rw [fst_4 (by omega) (by omega)] at hm
        obtain rfl : m = 4 := by simp at hm; omega
        have l1 : lo [240 + c / 262144] 4 = c / 262144 * 262144 := by simp [lo, jn, cv, md, List.replicate]; omega
        have l2 : hi [240 + c / 262144] 4 = c / 262144 * 262144 + 262143 := by simp [hi, jn, cv, md, List.replicate]; omega
        by_cases g : c / 262144 = 0
        · have l3 : mx [240 + c / 262144] 4 = 65536 := by unfold mx; rw [l1]; simp only [mn]; rw [if_pos (by omega)]
          rw [l3]
          have f4 := form_eq4 (c := 65536) (by omega) (by omega)
          exact ⟨f4, by omega, by omega, by rw [g]; decide⟩
        · have l3 : mx [240 + c / 262144] 4 = c / 262144 * 262144 := by unfold mx; rw [l1]; simp only [mn]; rw [if_neg (by omega)]
          have f4 := form_eq4 (c := c / 262144 * 262144) (by omega) (by omega)
          rw [l3]
          exact ⟨f4, by omega, by omega, by rw [enc4 f4]; simp⟩
      · simp only [List.take_succ_cons, List.take_zero, nd, List.headD_cons] at hm ⊢
        rw [fst_4 (by omega) (by omega)] at hm
        obtain rfl : m = 4 := by simp at hm; omega
        have l1 : lo [240 + c / 262144, 128 + c / 4096 % 64] 4 = c / 4096 * 4096 := by simp [lo, jn, cv, md, List.replicate]; omega
        have l2 : hi [240 + c / 262144, 128 + c / 4096 % 64] 4 = c / 4096 * 4096 + 4095 := by simp [hi, jn, cv, md, List.replicate]; omega
        have l3 : mx [240 + c / 262144, 128 + c / 4096 % 64] 4 = c / 4096 * 4096 := by unfold mx; rw [l1]; simp only [mn]; rw [if_neg (by omega)]
        have f4 := form_eq4 (c := c / 4096 * 4096) (by omega) (by omega)
        rw [l3]
        exact ⟨f4, by omega, by omega, by rw [enc4 f4]; simp; omega⟩
      · simp only [List.take_succ_cons, List.take_zero, nd, List.headD_cons] at hm ⊢
        rw [fst_4 (by omega) (by omega)] at hm
        obtain rfl : m = 4 := by simp at hm; omega
        have l1 : lo [240 + c / 262144, 128 + c / 4096 % 64, 128 + c / 64 % 64] 4 = c / 64 * 64 := by simp [lo, jn, cv, md]; omega
        have l2 : hi [240 + c / 262144, 128 + c / 4096 % 64, 128 + c / 64 % 64] 4 = c / 64 * 64 + 63 := by simp [hi, jn, cv, md]; omega
        have l3 : mx [240 + c / 262144, 128 + c / 4096 % 64, 128 + c / 64 % 64] 4 = c / 64 * 64 := by unfold mx; rw [l1]; simp only [mn]; rw [if_neg (by omega)]
        have f4 := form_eq4 (c := c / 64 * 64) (by omega) (by omega)
        rw [l3]
        exact ⟨f4, by omega, by omega, by rw [enc4 f4]; simp; omega⟩
  · rw [e] at h; cases h
end Go.Proofs.Ytjkaccmhpilojaa.Wf
