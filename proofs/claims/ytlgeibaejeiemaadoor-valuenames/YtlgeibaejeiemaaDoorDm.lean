/-
  Mathematics of digits: how many stand at a place, which number they are, a number's text. Nothing of the program is named here.
-/
import Derived.Below
import Derived.Lib.ItoaNum
import Derived.Lib.Hide
namespace Go.Proofs.YtlgeibaejeiemaaDoor.Dm
set_option linter.unusedVariables false

/-- how many digits stand ahead of all else -/
def rn : List Int → Nat
  | [] => 0
  | x :: l => if 48 ≤ x ∧ x ≤ 57 then rn l + 1 else 0
/-- all are digits -/
def Ds (l : List Int) : Prop := ∀ x ∈ l, 48 ≤ x ∧ x ≤ 57
/-- the number -/
def vl (l : List Int) : Int := l.foldl (fun v x => v * 10 + (x - 48)) 0
/-- how many stand at a place -/
def rnAt (l : List Int) (i : Int) : Nat := if 0 ≤ i ∧ i < l.length then rn (l.drop i.toNat) else 0
/-- Parse's answers -/
def ps (l : List Int) (most : Int) : Int × Int :=
  if most < 0 then (0, 2) else if l = [] ∨ rn l < l.length then (0, 4) else if most < vl l then (0, 5) else (vl l, 0)

theorem rn_le : ∀ l : List Int, rn l ≤ l.length
  | [] => Nat.le_refl _
  | x :: l => by unfold rn; split <;> simp; exact rn_le l
theorem rn_stop {l : List Int} {k : Nat} {x : Int} (h : Ds (l.take k)) (hx : l[k]? = some x) (hn : ¬ (48 ≤ x ∧ x ≤ 57)) : rn l = k := by
  induction l generalizing k with
  | nil => simp at hx
  | cons y l ih =>
    cases k with
    | zero => simp at hx; subst hx; simp [rn, hn]
    | succ k =>
      have hy : 48 ≤ y ∧ y ≤ 57 := h y (by simp)
      rw [rn, if_pos hy, ih (k := k) (fun z hz => h z (by simp [hz])) (by simpa using hx)]
theorem rn_all {l : List Int} (h : Ds l) : rn l = l.length := by
  induction l with
  | nil => rfl
  | cons y l ih => rw [rn, if_pos (h y (by simp)), ih (fun z hz => h z (by simp [hz]))]; rfl
theorem ds_rn (l : List Int) : Ds (l.take (rn l)) := by
  induction l with
  | nil => intro x hx; simp at hx
  | cons y l ih =>
    unfold rn; split
    · rename_i hy
      intro z hz
      rcases List.mem_cons.1 (by simpa using hz) with e | e
      · subst e; exact hy
      · exact ih z e
    · intro z hz; simp at hz
theorem ds_of_rn {l : List Int} (h : rn l = l.length) : Ds l := by
  have := ds_rn l
  rwa [h, List.take_length] at this
theorem rn_end {l : List Int} {x : Int} (h : l[rn l]? = some x) : ¬ (48 ≤ x ∧ x ≤ 57) := by
  induction l with
  | nil => simp at h
  | cons y l ih =>
    unfold rn at h
    split at h
    · exact ih (by simpa using h)
    · rename_i hy; simp at h; subst h; exact hy
theorem rnAt_out {l : List Int} {i : Int} (h : i < 0 ∨ (l.length : Int) ≤ i) : rnAt l i = 0 := by unfold rnAt; rw [if_neg (by omega)]
theorem rnAt_in {l : List Int} {i : Nat} (h : i < l.length) : rnAt l (i : Int) = rn (l.drop i) := by unfold rnAt; rw [if_pos (by omega), Int.toNat_natCast]
theorem rnAt_zero {l : List Int} (h : l ≠ []) : rnAt l 0 = rn l := by
  have := rnAt_in (l := l) (i := 0) (List.length_pos_iff.2 h)
  simpa using this
theorem rnAt_end {l : List Int} {i : Nat} (h : l.length ≤ i) : rnAt l (i : Int) = 0 := rnAt_out (by omega)
theorem rnAt_le (l : List Int) (i : Int) : rnAt l i ≤ l.length := by
  unfold rnAt; split
  · have := rn_le (l.drop i.toNat); rw [List.length_drop] at this; omega
  · omega
theorem rnAt_room {l : List Int} {i : Nat} (h : i ≤ l.length) : i + rnAt l (i : Int) ≤ l.length := by
  by_cases g : i < l.length
  · rw [rnAt_in g]; have := rn_le (l.drop i); rw [List.length_drop] at this; omega
  · rw [rnAt_end (by omega)]; omega

theorem Ds.take {l : List Int} (h : Ds l) (k : Nat) : Ds (l.take k) := fun x hx => h x (List.mem_of_mem_take hx)
theorem Ds.take_next {l : List Int} {k : Nat} {x : Int} (h : Ds (l.take k)) (hx : l[k]? = some x) (hd : 48 ≤ x ∧ x ≤ 57) : Ds (l.take (k + 1)) := by
  intro z hz
  rw [List.take_add_one, hx] at hz
  rcases List.mem_append.1 hz with g | g
  · exact h z g
  · simp at g; subst g; exact hd
theorem Ds.append {l m : List Int} (h : Ds l) (h' : Ds m) : Ds (l ++ m) := fun x hx => by
  rcases List.mem_append.1 hx with g | g
  · exact h x g
  · exact h' x g

theorem vl_nil : vl [] = 0 := rfl
theorem vl_snoc (l : List Int) (x : Int) : vl (l ++ [x]) = vl l * 10 + (x - 48) := by unfold vl; rw [List.foldl_append]; rfl
theorem vl_next {l : List Int} {k : Nat} {x : Int} (hx : l[k]? = some x) : vl (l.take (k + 1)) = vl (l.take k) * 10 + (x - 48) := by
  rw [List.take_add_one, hx]; exact vl_snoc _ _
theorem vl_pos : ∀ {l : List Int}, Ds l → 0 ≤ vl l := by
  intro l
  suffices H : ∀ (l : List Int) (v : Int), 0 ≤ v → Ds l → 0 ≤ l.foldl (fun v x => v * 10 + (x - 48)) v from fun h => H l 0 (by omega) h
  intro l
  induction l with
  | nil => intro v hv _; exact hv
  | cons x l ih => intro v hv h; exact ih (v * 10 + (x - 48)) (by have := h x (by simp); omega) (fun z hz => h z (by simp [hz]))
theorem vl_mono {l : List Int} (h : Ds l) (k : Nat) : vl (l.take k) ≤ vl l := by
  suffices H : ∀ (m : List Int) (v : Int), 0 ≤ v → Ds m → v ≤ m.foldl (fun v x => v * 10 + (x - 48)) v by
    have e : vl l = (l.drop k).foldl (fun v x => v * 10 + (x - 48)) (vl (l.take k)) := by
      unfold vl; rw [← List.foldl_append, List.take_append_drop]
    rw [e]
    exact H _ _ (vl_pos (h.take k)) (fun x hx => h x (List.mem_of_mem_drop hx))
  intro m
  induction m with
  | nil => intro v _ _; exact Int.le_refl _
  | cons x m ih =>
    intro v hv h
    have hx := h x (by simp)
    have := ih (v * 10 + (x - 48)) (by omega) (fun z hz => h z (by simp [hz]))
    exact Int.le_trans (by omega) this
theorem vl_nought (k : Nat) (l : List Int) : vl (List.replicate k 48 ++ l) = vl l := by
  induction k with
  | zero => simp
  | succ k ih =>
    rw [List.replicate_succ, List.cons_append]
    show (List.replicate k (48 : Int) ++ l).foldl (fun v x => v * 10 + (x - 48)) (0 * 10 + (48 - 48)) = _
    exact ih
theorem ds_noughts (k : Nat) : Ds (List.replicate k (48 : Int)) := fun x hx => by
  have := List.eq_of_mem_replicate hx; subst this; omega

theorem ps_neg {l : List Int} {m : Int} (h : m < 0) : ps l m = (0, 2) := by unfold ps; rw [if_pos h]
theorem ps_bad {l : List Int} {m : Int} (h : 0 ≤ m) (h' : l = [] ∨ rn l < l.length) : ps l m = (0, 4) := by unfold ps; rw [if_neg (by omega), if_pos h']
theorem ps_over {l : List Int} {m : Int} (h : 0 ≤ m) (h0 : l ≠ []) (hd : Ds l) (h' : m < vl l) : ps l m = (0, 5) := by
  unfold ps; rw [if_neg (by omega), if_neg (by intro e; rcases e with e | e; exact h0 e; rw [rn_all hd] at e; omega), if_pos h']
theorem ps_ok {l : List Int} {m : Int} (h : 0 ≤ m) (h0 : l ≠ []) (hd : Ds l) (h' : vl l ≤ m) : ps l m = (vl l, 0) := by
  unfold ps; rw [if_neg (by omega), if_neg (by intro e; rcases e with e | e; exact h0 e; rw [rn_all hd] at e; omega), if_neg (by omega)]

/-- a number's text -/
def decs (n : Nat) : List Int := (Lib.decDigits n).map fun b => (b.toNat : Int)
theorem decs_one {n : Nat} (h : n < 10) : decs n = [48 + (n : Int)] := by
  unfold decs; rw [Lib.decDigits_one h]
  simp only [List.map_cons, List.map_nil, List.cons.injEq, and_true]
  rw [UInt8.toNat_ofNat']
  omega
theorem decs_more {n : Nat} (h : 10 ≤ n) : decs n = decs (n / 10) ++ [48 + ((n % 10 : Nat) : Int)] := by
  unfold decs; rw [Lib.decDigits, dif_neg (by omega), List.map_append]
  congr 1
  simp only [List.map_cons, List.map_nil, List.cons.injEq, and_true]
  rw [UInt8.toNat_ofNat']
  omega
theorem decs_ne (n : Nat) : decs n ≠ [] := by
  by_cases h : n < 10
  · rw [decs_one h]; simp
  · rw [decs_more (by omega)]; simp
theorem ds_decs (n : Nat) : Ds (decs n) := by
  induction n using Nat.strongRecOn with
  | _ n ih =>
    by_cases h : n < 10
    · rw [decs_one h]; intro x hx; simp at hx; omega
    · rw [decs_more (by omega)]
      refine (ih _ (by omega)).append ?_
      intro x hx; simp at hx; omega
theorem vl_decs (n : Nat) : vl (decs n) = n := by
  induction n using Nat.strongRecOn with
  | _ n ih =>
    by_cases h : n < 10
    · rw [decs_one h]; show (0 : Int) * 10 + (48 + (n : Int) - 48) = n; omega
    · rw [decs_more (by omega), vl_snoc, ih _ (by omega)]; omega
theorem decs_length_le {n : Nat} (h : n < 10 ^ 19) : (decs n).length ≤ 19 := by
  suffices H : ∀ k n : Nat, n < 10 ^ (k + 1) → (decs n).length ≤ k + 1 from H 18 n h
  intro k
  induction k with
  | zero => intro n h; rw [decs_one (by simpa using h)]; simp
  | succ k ih =>
    intro n h
    by_cases g : n < 10
    · rw [decs_one g]; simp
    · rw [decs_more (by omega)]
      have := ih (n / 10) (by rw [Nat.pow_succ] at h; omega)
      simp; omega

/-- digits whose first one is no nought, but for a lone one, are their number's text -/
theorem decs_vl {l : List Int} (hd : Ds l) (h0 : l ≠ []) (hh : l.length = 1 ∨ l.head? ≠ some 48) : decs (vl l).toNat = l := by
  suffices H : ∀ (k : Nat) (l : List Int), l.length = k → Ds l → l ≠ [] → (l.length = 1 ∨ l.head? ≠ some 48) → decs (vl l).toNat = l ∧ (l.head? ≠ some 48 → 1 ≤ vl l) from (H _ l rfl hd h0 hh).1
  intro k
  induction k using Nat.strongRecOn with
  | _ k ih =>
    intro l hl hd h0 hh
    obtain ⟨m, x, rfl⟩ : ∃ m x, l = m ++ [x] := ⟨l.dropLast, l.getLast h0, (List.dropLast_concat_getLast h0).symm⟩
    have hx := hd x (by simp)
    have hm : Ds m := fun z hz => hd z (by simp [hz])
    rw [vl_snoc]
    rcases m with _ | ⟨y, m⟩
    · simp only [List.nil_append, vl_nil] at *
      refine ⟨?_, fun g => ?_⟩
      · rw [decs_one (by omega)]; congr 1; omega
      · simp at g; omega
    · have hy : (y :: m ++ [x]).head? ≠ some 48 := by
        rcases hh with e | e
        · simp at e
        · exact e
      simp only [List.cons_append, List.head?_cons] at hy
      obtain ⟨e1, e2⟩ := ih (y :: m).length (by simp at hl ⊢; omega) (y :: m) rfl hm (by simp) (.inr (by simpa using hy))
      have e3 := e2 (by simpa using hy)
      refine ⟨?_, fun _ => by omega⟩
      rw [decs_more (by omega), show (vl (y :: m) * 10 + (x - 48)).toNat / 10 = (vl (y :: m)).toNat by omega, e1]
      congr 2
      omega

/-- the head of a text is no nought, but for 0's -/
theorem decs_head {n : Nat} (h : 1 ≤ n) : (decs n).head? ≠ some 48 := by
  induction n using Nat.strongRecOn with
  | _ n ih =>
    by_cases g : n < 10
    · rw [decs_one g]; simp; omega
    · have h1 := ih (n / 10) (by omega) (by omega)
      rw [decs_more (by omega)]
      obtain ⟨y, m, e⟩ := List.exists_cons_of_ne_nil (decs_ne (n / 10))
      rw [e] at h1 ⊢
      simpa using h1
end Go.Proofs.YtlgeibaejeiemaaDoor.Dm
