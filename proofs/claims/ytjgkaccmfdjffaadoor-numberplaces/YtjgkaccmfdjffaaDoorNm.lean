/-
  Plain mathematics of JSON's numbers: noughts taken off the end, one by one; how large a power is. Nothing of the program is named here.
-/
import Derived.Test.YtjgkaccmfdjffaaDoorNj
namespace Go.Proofs.YtjgkaccmfdjffaaDoor.Nu
set_option linter.unusedVariables false
set_option linter.unusedSimpArgs false
open Dm (Ds vl decs)

/-- behind the first m + 1 digits there are noughts alone -/
def Zs (D : List Int) (m : Nat) : Prop := m + 1 ≤ D.length ∧ D = D.take (m + 1) ++ List.replicate (D.length - (m + 1)) 48
theorem Zs.all {D : List Int} {m : Nat} (h : D.length = m + 1) : Zs D m :=
  ⟨by omega, by rw [List.take_of_length_le (by omega), h, Nat.sub_self]; simp⟩
theorem take_one {D : List Int} {m : Nat} {x : Int} (h : D[m]? = some x) : D.take (m + 1) = D.take m ++ [x] := by rw [List.take_add_one, h]; rfl
theorem Zs.next {D : List Int} {m : Nat} (h : Zs D m) (hx : D[m]? = some 48) (hd : ∀ x, D[0]? = some x → x ≠ 48) : ∃ k, m = k + 1 ∧ Zs D k := by
  rcases m with _ | k
  · exact absurd rfl (hd 48 hx)
  refine ⟨k, rfl, by have := h.1; omega, ?_⟩
  have h2 := h.2
  rw [take_one hx, List.append_assoc, List.singleton_append] at h2
  have e : D.length - (k + 1) = D.length - (k + 1 + 1) + 1 := by have := h.1; omega
  rw [e, List.replicate_succ]
  exact h2
theorem Zs.fin {D : List Int} {m : Nat} (h : Zs D m) {x : Int} (hx : D[m]? = some x) (hn : x ≠ 48) : ez D = D.take (m + 1) ∧ tz D = D.length - (m + 1) := by
  have hr := ez_reps (D.take (m + 1)) (D.length - (m + 1))
  rw [← h.2, take_one hx, ez_other hn, tz_other hn, Nat.zero_add, ← take_one hx] at hr
  exact hr
theorem pd_ds2 {l : List Int} (h : Ds (if hd1 43 45 l then l.drop 1 else l)) : Ds (pd l) := nz_ds h
theorem pw_le {l : List Int} (h : Ds (if hd1 43 45 l then l.drop 1 else l)) {q : Int} (hq : pw l = some q) : -1000000000000000 < q ∧ q < 1000000000000000 := by
  unfold pw at hq
  split at hq
  · cases hq
  · have h0 := Dm.vl_pos (pd_ds2 h)
    have h1 := Dm.vl_lt (pd_ds2 h)
    have h2 : (10 : Int) ^ (pd l).length ≤ 10 ^ 15 := by
      have : (10 : Nat) ^ (pd l).length ≤ 10 ^ 15 := Nat.pow_le_pow_right (by omega) (by omega)
      exact_mod_cast this
    have h3 : (10 : Int) ^ 15 = 1000000000000000 := by decide
    injection hq with hq
    split at hq <;> omega
theorem xpo_le {l : List Int} (h : ck 0 l = (l.length, 0)) : -1000000000000000 < (xpo l).getD 0 ∧ (xpo l).getD 0 < 1000000000000000 := by
  unfold xpo
  split
  · decide
  · cases hq : pw ((l.dropWhile nl).drop 1) with
    | none => decide
    | some q => exact pw_le (rest_ds h) hq
theorem frc_le (l : List Int) : frc l ≤ l.length := by
  unfold frc
  have h1 := (List.filter_sublist (p := dg) (l := (l.takeWhile nl).dropWhile np)).length_le
  have h2 := (List.dropWhile_sublist (l := l.takeWhile nl) np).length_le
  have h3 := (List.takeWhile_sublist (l := l) nl).length_le
  omega
theorem nz_first {l : List Int} : ∀ x, (nz l)[0]? = some x → x ≠ 48 := by
  intro x hx
  rcases nz_head l with h | ⟨y, t, h, hy⟩
  · rw [h] at hx; cases hx
  · rw [h] at hx; injection hx with hx; rw [← hx]; exact hy
end Go.Proofs.YtjgkaccmfdjffaaDoor.Nu
