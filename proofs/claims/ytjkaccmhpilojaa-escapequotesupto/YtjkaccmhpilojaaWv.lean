/-
  What the bound of a statement's second form gives: of a slice, of a string. Nothing of the program is named here but the bound.
-/
import Derived.Test.YtjkaccmhpilojaaRows
namespace Go.Proofs.Ytjkaccmhpilojaa.Wd
set_option linter.unusedVariables false

theorem bulk_pos {H : Type} (d : DataW H) : 1 ≤ Rows.uptoBulk d := by
  cases d with
  | lit l => cases l <;> simp [Rows.uptoBulk]
  | _ => simp [Rows.uptoBulk]
theorem bulk_len {H : Type} (l : List (DataW H)) : l.length ≤ Rows.uptoBulkAll l := by
  induction l with
  | nil => simp
  | cons d l ih => have := bulk_pos d; simp only [Rows.uptoBulkAll, List.length_cons]; omega
theorem bulk_at {H : Type} (l : List (DataW H)) : ∀ {j : Nat} {d : DataW H}, l[j]? = some d → Rows.uptoBulk d ≤ Rows.uptoBulkAll l := by
  induction l with
  | nil => intro j d h; simp at h
  | cons x l ih =>
    intro j d h
    simp only [Rows.uptoBulkAll]
    cases j with
    | zero => simp at h; subst h; omega
    | succ j => have := ih (j := j) (d := d) (by simpa using h); omega
theorem few_all {H : Type} {ds : List (DataW H)} (hk : Rows.uptoSmall H ds = true) : Rows.uptoBulkAll ds ≤ 1048576 := of_decide_eq_true hk
theorem few_slice {H : Type} {ds : List (DataW H)} (hk : Rows.uptoSmall H ds = true) {j c : Nat} {d : DataW H} (hj : ds[j]? = some d)
    (hd : c = 0 ∨ ∃ elems spare, d = .slice elems spare ∧ elems.length + spare.length = c) : c ≤ 1048576 := by
  rcases hd with rfl | ⟨elems, spare, rfl, hl⟩
  · omega
  · have h1 := bulk_at ds hj
    have h2 := few_all hk
    have h3 := bulk_len elems
    have h4 := bulk_len spare
    simp only [Rows.uptoBulk] at h1
    omega
theorem few_string {H : Type} {ds : List (DataW H)} (hk : Rows.uptoSmall H ds = true) {j : Nat} {s : ByteArray} (hj : ds[j]? = some (.lit (.string s.data.toList))) : s.size ≤ 1048576 := by
  have h1 := bulk_at ds hj
  have h2 := few_all hk
  simp only [Rows.uptoBulk] at h1
  have e : s.data.toList.length = s.size := by rw [Array.length_toList]; rfl
  omega
end Go.Proofs.Ytjkaccmhpilojaa.Wd
