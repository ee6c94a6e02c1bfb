/-
  Plain mathematics of UTF-8, more: order, prefixes, texts. Nothing of the program is named here.
-/
import Derived.Test.YtjkaccmhpilojaaUtf
namespace Go.Proofs.Ytjkaccmhpilojaa.Utf
set_option linter.unusedVariables false

theorem enc_ne {c : Int} (h : form c ≠ 0) : enc c ≠ [] := by
  intro e; have := enc_length c; rw [e] at this; simp at this; omega

theorem enc_inj {c d : Int} (hc : form c ≠ 0) (hd : form d ≠ 0) {r s : List Int} (h : enc c ++ r = enc d ++ s) : c = d := by
  have h1 := dec_enc hc r
  rw [h, dec_enc hd s] at h1
  exact (Prod.mk.inj h1).1.symm

/-- where bytes first differ they are in the order of their characters -/
theorem enc_order {c d : Int} (hc : form c ≠ 0) (hd : form d ≠ 0) {k : Nat} {x y : Int} (ht : (enc c).take k = (enc d).take k) (hx : (enc c)[k]? = some x) (hy : (enc d)[k]? = some y) (hne : x ≠ y) : x < y ↔ c < d := by
  rcases form_cases c with f | f | f | f | f
  · exact absurd f.1 hc
  all_goals
    rcases form_cases d with g | g | g | g | g
    · exact absurd g.1 hd
    all_goals
      first | rw [enc1 f.1] at ht hx | rw [enc2 f.1] at ht hx | rw [enc3 f.1] at ht hx | rw [enc4 f.1] at ht hx
      first | rw [enc1 g.1] at ht hy | rw [enc2 g.1] at ht hy | rw [enc3 g.1] at ht hy | rw [enc4 g.1] at ht hy
      rcases k with _ | _ | _ | _ | k
      all_goals simp at ht hx hy
      all_goals omega

/-- a character's bytes that are the beginning of another one's are that one's -/
theorem enc_prefix {c d : Int} (hc : form c ≠ 0) (hd : form d ≠ 0) {k : Nat} (ht : (enc c).take k = (enc d).take k) (hk : (enc c).length ≤ k ∨ (enc d).length ≤ k) : c = d := by
  rcases hk with hk | hk
  · rw [List.take_of_length_le hk] at ht
    refine enc_inj hc hd (r := (enc d).drop k) (s := []) ?_
    rw [ht, List.take_append_drop, List.append_nil]
  · rw [List.take_of_length_le hk] at ht
    refine enc_inj hc hd (r := []) (s := (enc c).drop k) ?_
    rw [← ht, List.take_append_drop, List.append_nil]
end Go.Proofs.Ytjkaccmhpilojaa.Utf
