/-
  Mathematics of headers: where one ends, its lines, what a line tells. Nothing of the program is named here.
-/
import Derived.Test.YtigiiofiajhnlaaGreatDoorDn
namespace Go.Proofs.YtigiiofiajhnlaaGreatDoor.Hm
set_option linter.unusedVariables false
open Dm Wd

/-- where a piece stands first -/
def fnd (p : List Int) : List Int → Option Nat
  | [] => if p = [] then some 0 else none
  | x :: l => if p.isPrefixOf (x :: l) = true then some 0 else (fnd p l).map (· + 1)

theorem fnd_spec (p : List Int) : ∀ l : List Int, (fnd p l = none ∧ ∀ j, j ≤ l.length → ¬ p <+: l.drop j) ∨ (∃ i, fnd p l = some i ∧ i ≤ l.length ∧ p <+: l.drop i ∧ ∀ j, j < i → ¬ p <+: l.drop j)
  | [] => by
    unfold fnd; split
    · rename_i h; exact .inr ⟨0, rfl, Nat.le_refl _, by simp [h], fun j hj => by omega⟩
    · rename_i h; exact .inl ⟨rfl, fun j hj => by simpa using h⟩
  | x :: l => by
    unfold fnd; split
    · rename_i h; exact .inr ⟨0, rfl, Nat.zero_le _, List.isPrefixOf_iff_prefix.1 h, fun j hj => by omega⟩
    · rename_i h
      have h0 : ¬ p <+: x :: l := fun g => h (List.isPrefixOf_iff_prefix.2 g)
      rcases fnd_spec p l with ⟨e, g⟩ | ⟨i, e, hi, hp, g⟩
      · refine .inl ⟨by rw [e]; rfl, fun j hj => ?_⟩
        cases j with
        | zero => exact h0
        | succ j => simpa using g j (by simpa using hj)
      · refine .inr ⟨i + 1, by rw [e]; rfl, by simpa using hi, by simpa using hp, fun j hj => ?_⟩
        cases j with
        | zero => exact h0
        | succ j => simpa using g j (by omega)
theorem fnd_eq {p l : List Int} {i : Nat} (hi : i ≤ l.length) (hp : p <+: l.drop i) (hn : ∀ j, j < i → ¬ p <+: l.drop j) : fnd p l = some i := by
  rcases fnd_spec p l with ⟨e, g⟩ | ⟨k, e, hk, hq, g⟩
  · exact absurd hp (g i hi)
  · rw [e]
    rcases Nat.lt_trichotomy i k with h | h | h
    · exact absurd hp (g i h)
    · rw [h]
    · exact absurd hq (hn k h)
theorem fnd_no {p l : List Int} (h : ∀ j, j ≤ l.length → ¬ p <+: l.drop j) : fnd p l = none := by
  rcases fnd_spec p l with ⟨e, g⟩ | ⟨k, e, hk, hq, g⟩
  · exact e
  · exact absurd hq (h k hk)
theorem fnd_some {p l : List Int} {i : Nat} (h : fnd p l = some i) : i + p.length ≤ l.length ∧ p <+: l.drop i ∧ ∀ j, j < i → ¬ p <+: l.drop j := by
  rcases fnd_spec p l with ⟨e, g⟩ | ⟨k, e, hk, hq, g⟩
  · rw [e] at h; cases h
  · rw [e] at h; injection h with h; subst h
    have := hq.length_le
    rw [List.length_drop] at this
    exact ⟨by omega, hq, g⟩
theorem fnd_none {p l : List Int} (h : fnd p l = none) : ∀ j, j ≤ l.length → ¬ p <+: l.drop j := by
  rcases fnd_spec p l with ⟨e, g⟩ | ⟨k, e, hk, hq, g⟩
  · exact g
  · rw [e] at h; cases h

theorem pre_take {p l : List Int} {j k : Nat} (h : p <+: l.drop j) (hk : j + p.length ≤ k) : p <+: (l.take k).drop j := by
  rw [List.drop_take, List.prefix_take_iff]; exact ⟨h, by omega⟩
theorem pre_of_take {p l : List Int} {j k : Nat} (h : p <+: (l.take k).drop j) (hp : p ≠ []) : p <+: l.drop j ∧ j + p.length ≤ k := by
  rw [List.drop_take, List.prefix_take_iff] at h
  have := List.length_pos_iff.2 hp
  exact ⟨h.1, by omega⟩

/-- how many bytes the header has that bytes begin with -/
def hEnd (l : List Int) : Option Nat := if [13, 10].isPrefixOf l = true then some 2 else (fnd [13, 10, 13, 10] l).map (· + 4)
theorem hEnd_two {l : List Int} (h : [13, 10] <+: l) : hEnd l = some 2 := by unfold hEnd; rw [if_pos (List.isPrefixOf_iff_prefix.2 h)]
theorem hEnd_far {l : List Int} (h : ¬ [13, 10] <+: l) : hEnd l = (fnd [13, 10, 13, 10] l).map (· + 4) := by
  unfold hEnd; rw [if_neg (fun g => h (List.isPrefixOf_iff_prefix.1 g))]
/-- either way of ending -/
theorem hEnd_some {l : List Int} {s : Nat} (h : hEnd l = some s) : ([13, 10] <+: l ∧ s = 2) ∨ (¬ [13, 10] <+: l ∧ ∃ i, fnd [13, 10, 13, 10] l = some i ∧ s = i + 4) := by
  by_cases g : [13, 10] <+: l
  · rw [hEnd_two g] at h; injection h with h; exact .inl ⟨g, h.symm⟩
  · rw [hEnd_far g] at h
    cases e : fnd [13, 10, 13, 10] l with
    | none => rw [e] at h; cases h
    | some i => rw [e] at h; injection h with h; exact .inr ⟨g, i, rfl, h.symm⟩
theorem hEnd_le {l : List Int} {s : Nat} (h : hEnd l = some s) : 2 ≤ s ∧ s ≤ l.length := by
  rcases hEnd_some h with ⟨g, rfl⟩ | ⟨g, i, e, rfl⟩
  · have := g.length_le; exact ⟨by omega, this⟩
  · have := (fnd_some e).1; exact ⟨by omega, this⟩
theorem hEnd_of_take {l : List Int} {k s : Nat} (h : hEnd (l.take k) = some s) : hEnd l = some s ∧ s ≤ k := by
  rcases hEnd_some h with ⟨g, rfl⟩ | ⟨g, i, e, rfl⟩
  · have := pre_of_take (j := 0) (by simpa using g) (by simp)
    exact ⟨hEnd_two (by simpa using this.1), by simpa using this.2⟩
  · obtain ⟨h1, h2, h3⟩ := fnd_some e
    have h4 := pre_of_take h2 (by simp)
    have hk : i + 4 ≤ k := h4.2
    refine ⟨?_, hk⟩
    rw [hEnd_far (fun c => g (by simpa using pre_take (j := 0) (k := k) (by simpa using c) (by show 0 + 2 ≤ k; omega)))]
    rw [fnd_eq (i := i) ?_ h4.1 (fun j hj c => h3 j hj (pre_take c (by show j + 4 ≤ k; omega)))]
    · rfl
    · rw [List.length_take] at h1; have : i + 4 ≤ min k l.length := h1; omega
theorem hEnd_take {l : List Int} {k s : Nat} (h : hEnd l = some s) (hs : s ≤ k) : hEnd (l.take k) = some s := by
  rcases hEnd_some h with ⟨g, rfl⟩ | ⟨g, i, e, rfl⟩
  · exact hEnd_two (by simpa using pre_take (j := 0) (k := k) (by simpa using g) (by show 0 + 2 ≤ k; omega))
  · obtain ⟨h1, h2, h3⟩ := fnd_some e
    have h1' : i + 4 ≤ l.length := h1
    rw [hEnd_far (fun c => g (by simpa using (pre_of_take (j := 0) (by simpa using c) (by simp)).1))]
    rw [fnd_eq (i := i) (by rw [List.length_take]; omega) (pre_take h2 (by show i + 4 ≤ k; omega)) (fun j hj c => h3 j hj (pre_of_take c (by simp)).1)]
    rfl
theorem hEnd_short {l : List Int} {k s : Nat} (h : hEnd l = some s) (hs : k < s) : hEnd (l.take k) = none := by
  cases e : hEnd (l.take k) with
  | none => rfl
  | some t =>
    obtain ⟨h1, h2⟩ := hEnd_of_take e
    rw [h] at h1; injection h1 with h1; omega

/-- lines, each with its end -/
def spl : List Int → List (List Int)
  | [] => []
  | [x] => [[x]]
  | x :: y :: r => if x = 13 ∧ y = 10 then [] :: spl r else match spl (y :: r) with
    | [] => [[x]]
    | z :: zs => (x :: z) :: zs

theorem two_pre {x y : Int} {r : List Int} : [13, 10] <+: x :: y :: r ↔ x = 13 ∧ y = 10 := by
  rw [List.cons_prefix_cons, List.cons_prefix_cons]
  constructor
  · rintro ⟨a, b, _⟩; exact ⟨a.symm, b.symm⟩
  · rintro ⟨a, b⟩; exact ⟨a.symm, b.symm, List.nil_prefix⟩
theorem spl_cut : ∀ m : List Int, m ≠ [] → (∀ i, fnd [13, 10] m = some i → spl m = m.take i :: spl (m.drop (i + 2))) ∧ (fnd [13, 10] m = none → spl m = [m])
  | [], h => absurd rfl h
  | [x], _ => by
    have e : fnd [13, 10] [x] = none := by
      refine fnd_no fun j hj c => ?_
      have := c.length_le
      rw [List.length_drop] at this
      simp at this hj; omega
    exact ⟨fun i h => (by rw [e] at h; cases h), fun _ => rfl⟩
  | x :: y :: r, _ => by
    have ih := spl_cut (y :: r) (by simp)
    by_cases hxy : x = 13 ∧ y = 10
    · have e : fnd [13, 10] (x :: y :: r) = some 0 := fnd_eq (Nat.zero_le _) (two_pre.2 hxy) (fun j hj => by omega)
      refine ⟨fun i h => ?_, fun h => (by rw [e] at h; cases h)⟩
      rw [e] at h; injection h with h; subst h
      show spl (x :: y :: r) = _
      rw [spl, if_pos hxy]; simp
    · have h0 : ¬ [13, 10].isPrefixOf (x :: y :: r) = true := fun g => hxy (two_pre.1 (List.isPrefixOf_iff_prefix.1 g))
      have e : fnd [13, 10] (x :: y :: r) = (fnd [13, 10] (y :: r)).map (· + 1) := by rw [fnd, if_neg h0]
      cases e2 : fnd [13, 10] (y :: r) with
      | none =>
        rw [e2] at e
        refine ⟨fun i h => (by rw [e] at h; cases h), fun _ => ?_⟩
        rw [spl, if_neg hxy, ih.2 e2]
      | some k =>
        rw [e2] at e
        refine ⟨fun i h => ?_, fun h => (by rw [e] at h; cases h)⟩
        rw [e] at h; injection h with h; subst h
        rw [spl, if_neg hxy, ih.1 k e2]
        rfl

/-- lines as they are written, one behind the other -/
def wr (xs : List (List Int)) : List Int := xs.flatMap (· ++ [13, 10])
theorem wr_nil : wr [] = [] := rfl
theorem wr_cons (x : List Int) (xs : List (List Int)) : wr (x :: xs) = x ++ ([13, 10] ++ wr xs) := by unfold wr; rw [List.flatMap_cons, List.append_assoc]
/-- a line that has neither 13 nor 10 -/
def Cl (x : List Int) : Prop := ∀ a ∈ x, a ≠ 13 ∧ a ≠ 10
theorem no_pre {p x r : List Int} {a : Int} {j : Nat} (hp : p.head? = some a) (hx : ∀ b ∈ x, b ≠ a) (hj : j < x.length) : ¬ p <+: (x ++ r).drop j := by
  intro c
  cases p with
  | nil => simp at hp
  | cons b p =>
    simp at hp; subst hp
    rw [List.drop_append_of_le_length (by omega), List.drop_eq_getElem_cons hj, List.cons_append, List.cons_prefix_cons] at c
    exact hx _ (List.getElem_mem hj) c.1.symm
theorem spl_line {x r : List Int} (h : Cl x) : spl (x ++ ([13, 10] ++ r)) = x :: spl r := by
  have e : fnd [13, 10] (x ++ ([13, 10] ++ r)) = some x.length := by
    refine fnd_eq (by simp) ?_ (fun j hj => no_pre rfl (fun b hb => (h b hb).1) hj)
    rw [List.drop_left]; exact List.prefix_append _ _
  rw [(spl_cut _ (by simp)).1 _ e, List.take_left, show x.length + 2 = (x ++ [13, 10]).length by simp, ← List.append_assoc, List.drop_left]
theorem spl_wr : ∀ {xs : List (List Int)}, (∀ x ∈ xs, Cl x) → spl (wr xs) = xs
  | [], _ => rfl
  | x :: xs, h => by rw [wr_cons, spl_line (h x (by simp)), spl_wr (fun y hy => h y (by simp [hy]))]

/-- the header that is written ends where it ends -/
theorem four_wr : ∀ {xs : List (List Int)} (r : List Int), xs ≠ [] → (∀ x ∈ xs, Cl x ∧ x ≠ []) → fnd [13, 10, 13, 10] (wr xs ++ ([13, 10] ++ r)) = some ((wr xs).length - 2) ∧ 3 ≤ (wr xs).length
  | [], _, h, _ => absurd rfl h
  | [x], r, _, h => by
    have hx := h x (by simp)
    have e : wr [x] = x ++ [13, 10] := by rw [wr_cons, wr_nil, List.append_nil]
    have hl := List.length_pos_iff.2 hx.2
    rw [e]
    refine ⟨?_, by simp; omega⟩
    have e3 : (x ++ [13, 10]).length - 2 = x.length := by simp
    rw [e3, List.append_assoc]
    refine fnd_eq (by simp) ?_ (fun j hj => no_pre rfl (fun b hb => (hx.1 b hb).1) hj)
    rw [List.drop_left]; exact ⟨r, by simp⟩
  | x :: y :: ys, r, _, h => by
    have hx := h x (by simp)
    have hy := h y (by simp)
    obtain ⟨ih, ih2⟩ := four_wr (xs := y :: ys) r (by simp) (fun z hz => h z (by simp [hz]))
    have hl := List.length_pos_iff.2 hx.2
    have hly := List.length_pos_iff.2 hy.2
    have elen : (wr (x :: y :: ys)).length = x.length + 2 + (wr (y :: ys)).length := by rw [wr_cons]; simp; omega
    refine ⟨?_, by omega⟩
    obtain ⟨h1, h2, h3⟩ := fnd_some ih
    rw [elen, show x.length + 2 + (wr (y :: ys)).length - 2 = x.length + 2 + ((wr (y :: ys)).length - 2) by omega]
    generalize hM : wr (y :: ys) ++ ([13, 10] ++ r) = M at *
    have eM : wr (x :: y :: ys) ++ ([13, 10] ++ r) = x ++ ([13, 10] ++ M) := by rw [wr_cons, ← hM]; simp
    rw [eM]
    have hd : ∀ k, (x ++ ([13, 10] ++ M)).drop (x.length + 2 + k) = M.drop k := fun k => by
      rw [← List.append_assoc, show x.length + 2 + k = (x ++ [13, 10]).length + k by simp, List.drop_append]
      simp
    refine fnd_eq ?_ (by rw [hd]; exact h2) ?_
    · have h1' : (wr (y :: ys)).length - 2 + 4 ≤ M.length := h1
      simp; omega
    · intro j hj c
      rcases Nat.lt_or_ge j x.length with g | g
      · exact no_pre rfl (fun b hb => (hx.1 b hb).1) g c
      · obtain ⟨k, rfl⟩ := Nat.exists_eq_add_of_le g
        match k with
        | 0 =>
          -- 13 10 and then the next line's first byte, which is not 13
          rw [Nat.add_zero, List.drop_left] at c
          have hM0 : M.head? = y.head? := by
            rw [← hM, wr_cons]
            cases y with
            | nil => exact absurd rfl hy.2
            | cons a y => simp
          cases y with
          | nil => exact absurd rfl hy.2
          | cons a y =>
            cases M with
            | nil => simp at hM0
            | cons m M =>
              simp at hM0; subst hM0
              simp [List.cons_prefix_cons] at c
              exact (hy.1 m (by simp)).1 c.1.symm
        | 1 =>
          rw [← List.drop_drop, List.drop_left] at c
          simp [List.cons_prefix_cons] at c
        | k + 2 =>
          have : x.length + (k + 2) = x.length + 2 + k := by omega
          rw [this, hd] at c
          exact h3 k (by omega) c
theorem hEnd_wr {xs : List (List Int)} (r : List Int) (h0 : xs ≠ []) (h : ∀ x ∈ xs, Cl x ∧ x ≠ []) : hEnd (wr xs ++ ([13, 10] ++ r)) = some ((wr xs).length + 2) := by
  obtain ⟨h1, h2⟩ := four_wr r h0 h
  rw [hEnd_far, h1]
  · rw [Option.map_some]; show some ((wr xs).length - 2 + 4) = _; congr 1; omega
  · cases xs with
    | nil => exact absurd rfl h0
    | cons x xs =>
      have hx := h x (by simp)
      rw [wr_cons]
      cases x with
      | nil => exact absurd rfl hx.2
      | cons a x =>
        intro c
        rw [List.cons_append, List.cons_append, List.cons_prefix_cons] at c
        exact (hx.1 a (by simp)).1 c.1.symm

/-- may a byte be in a name, in a value; a letter as a small one; a blank -/
def inN (x : Int) : Bool := decide ((97 ≤ x ∧ x ≤ 122) ∨ (65 ≤ x ∧ x ≤ 90) ∨ (48 ≤ x ∧ x ≤ 57) ∨ x = 45)
def inV (x : Int) : Bool := decide (x = 9 ∨ (32 ≤ x ∧ x ≤ 126))
def low (x : Int) : Int := if 65 ≤ x ∧ x ≤ 90 then x + 32 else x
def isBl (x : Int) : Bool := decide (x = 32 ∨ x = 9)
/-- without the blanks at both ends -/
def trm (l : List Int) : List Int := (l.reverse.dropWhile isBl).reverse.dropWhile isBl
theorem dw_all {q : Int → Bool} {pre m : List Int} (h : ∀ x ∈ pre, q x = true) (hm : ∀ x, m.head? = some x → q x = false) : (pre ++ m).dropWhile q = m := by
  induction pre with
  | nil =>
    cases m with
    | nil => rfl
    | cons x m => rw [List.nil_append, List.dropWhile_cons_of_neg (by rw [hm x rfl]; simp)]
  | cons a pre ih => rw [List.cons_append, List.dropWhile_cons_of_pos (h a (by simp)), ih (fun x hx => h x (by simp [hx]))]
theorem trm_of {pre m post : List Int} (h1 : ∀ x ∈ pre, isBl x = true) (h2 : ∀ x ∈ post, isBl x = true) (hh : ∀ x, m.head? = some x → isBl x = false) (hl : ∀ x, m.getLast? = some x → isBl x = false) : trm (pre ++ (m ++ post)) = m := by
  unfold trm
  cases m with
  | nil =>
    have e : (pre ++ ([] ++ post)).reverse.dropWhile isBl = [] := by
      have := dw_all (q := isBl) (pre := (pre ++ ([] ++ post)).reverse) (m := []) (fun x hx => by
        rcases List.mem_append.1 (List.mem_reverse.1 hx) with g | g
        · exact h1 x g
        · exact h2 x g) (by simp)
      rwa [List.append_nil] at this
    rw [e]; rfl
  | cons a m =>
    have e : (pre ++ ((a :: m) ++ post)).reverse.dropWhile isBl = (a :: m).reverse ++ pre.reverse := by
      rw [List.reverse_append, List.reverse_append, List.append_assoc]
      refine dw_all (fun x hx => h2 x (List.mem_reverse.1 hx)) (fun x hx => hl x ?_)
      rw [List.head?_append] at hx
      rw [← List.head?_reverse]
      cases e : (a :: m).reverse.head? with
      | none => simp at e
      | some y => rw [e] at hx; simpa using hx
    rw [e, List.reverse_append, List.reverse_reverse, List.reverse_reverse]
    exact dw_all h1 hh

/-- content-length -/
def cl : List Int := [99, 111, 110, 116, 101, 110, 116, 45, 108, 101, 110, 103, 116, 104]
/-- what a line of that name and value tells -/
def fin (nm v : List Int) (told : Int) : Int × Int :=
  if nm.map low = cl then (if (ps (trm v) 65536).2 = 5 then (0, 5) else if (ps (trm v) 65536).2 ≠ 0 ∨ (told ≠ -1 ∧ told ≠ (ps (trm v) 65536).1) then (0, 60) else ((ps (trm v) 65536).1, 0)) else (told, 0)
/-- what a line tells -/
def tel (x : List Int) (told : Int) : Int × Int :=
  match fnd [58] x with
  | none => (0, 60)
  | some j => if x.take j = [] ∨ (x.take j).all inN = false ∨ (x.drop (j + 1)).all inV = false then (0, 60) else fin (x.take j) (x.drop (j + 1)) told
/-- what lines tell -/
def go (told : Int) : List (List Int) → Int × Int
  | [] => if told = -1 then (0, 60) else (told, 0)
  | x :: xs => if (tel x told).2 = 0 then go (tel x told).1 xs else (0, (tel x told).2)
/-- what bytes tell: length, size, error -/
def prs (l : List Int) : Int × Int × Int :=
  match hEnd (l.take 512) with
  | none => if 512 ≤ l.length then (0, 0, 5) else (0, 0, 3)
  | some s => if (go (-1) (spl (l.take (s - 2)))).2 = 0 then ((go (-1) (spl (l.take (s - 2)))).1, (s : Int), 0) else (0, 0, (go (-1) (spl (l.take (s - 2)))).2)

theorem prs_none {l : List Int} (h : hEnd (l.take 512) = none) : prs l = if 512 ≤ l.length then (0, 0, 5) else (0, 0, 3) := by unfold prs; rw [h]
theorem prs_ok {l : List Int} {s : Nat} {n : Int} (h : hEnd (l.take 512) = some s) (hg : go (-1) (spl (l.take (s - 2))) = (n, 0)) : prs l = (n, (s : Int), 0) := by
  unfold prs; rw [h]; simp only [hg, if_true]
theorem prs_bad {l : List Int} {s : Nat} {n e : Int} (h : hEnd (l.take 512) = some s) (hg : go (-1) (spl (l.take (s - 2))) = (n, e)) (he : e ≠ 0) : prs l = (0, 0, e) := by
  unfold prs; rw [h]; simp only [hg, if_neg he]

theorem one_pre {x : Int} {l : List Int} {j : Nat} : [x] <+: l.drop j ↔ l[j]? = some x := by
  constructor
  · rintro ⟨r, h⟩
    have := congrArg List.head? h
    rw [List.head?_drop] at this
    rw [← this]; rfl
  · intro h
    have hj : j < l.length := by
      rcases Nat.lt_or_ge j l.length with g | g
      · exact g
      · rw [List.getElem?_eq_none g] at h; cases h
    rw [List.drop_eq_getElem_cons hj]
    rw [List.getElem?_eq_getElem hj] at h; injection h with h
    rw [h]; exact ⟨_, rfl⟩
theorem inN_58 : inN 58 = false := by decide

/-- as the document goes through a line: k bytes of a name stand ahead -/
theorem tel_bad {x : List Int} {k : Nat} (told : Int) (h : ∀ a ∈ x.take k, inN a = true) (hk : k ≤ x.length) (hb : ∀ a, x[k]? = some a → inN a = false) (hx : k = 0 ∨ x[k]? ≠ some 58) : tel x told = (0, 60) := by
  unfold tel
  cases e : fnd [58] x with
  | none => rfl
  | some j =>
    obtain ⟨h1, h2, h3⟩ := fnd_some e
    rw [one_pre] at h2
    have h1' : j + 1 ≤ x.length := h1
    show (if _ then _ else _) = _
    rw [if_pos]
    by_cases hj : j = 0
    · left; rw [hj]; rfl
    · right; left
      rw [List.all_eq_false]
      rcases Nat.lt_trichotomy j k with g | g | g
      · exact absurd (h 58 (List.mem_of_getElem? (by rw [List.getElem?_take, if_pos g]; exact h2))) (by rw [inN_58]; simp)
      · subst g
        rcases hx with rfl | hx
        · exact absurd rfl hj
        · exact absurd h2 hx
      · have hk2 : k < x.length := by omega
        refine ⟨x[k], List.mem_of_getElem? (i := k) (by rw [List.getElem?_take, if_pos g]; exact List.getElem?_eq_getElem hk2), ?_⟩
        rw [hb _ (List.getElem?_eq_getElem hk2)]; simp
theorem tel_good {x : List Int} {k : Nat} (told : Int) (h : ∀ a ∈ x.take k, inN a = true) (hk : 0 < k) (hx : x[k]? = some 58) : tel x told = if (x.drop (k + 1)).all inV = false then (0, 60) else fin (x.take k) (x.drop (k + 1)) told := by
  have hl : k < x.length := by
    rcases Nat.lt_or_ge k x.length with g | g
    · exact g
    · rw [List.getElem?_eq_none g] at hx; cases hx
  have e : fnd [58] x = some k := by
    refine fnd_eq (by omega) (one_pre.2 hx) (fun j hj c => ?_)
    rw [one_pre] at c
    have := h 58 (List.mem_of_getElem? (i := j) (by rw [List.getElem?_take, if_pos hj]; exact c))
    rw [inN_58] at this; cases this
  have h1 : ¬ x.take k = [] := by
    intro c
    have := congrArg List.length c
    rw [List.length_take, List.length_nil] at this; omega
  have h2 : (x.take k).all inN = true := List.all_eq_true.2 h
  unfold tel; rw [e]
  show (if _ then _ else _) = _
  by_cases hv : (x.drop (k + 1)).all inV = false
  · rw [if_pos (.inr (.inr hv)), if_pos hv]
  · rw [if_neg, if_neg hv]
    rintro (c | c | c)
    · exact h1 c
    · rw [h2] at c; cases c
    · exact hv c
/-- a line with a name and a value -/
theorem tel_line {nm v : List Int} (told : Int) (h0 : nm ≠ []) (h : ∀ a ∈ nm, inN a = true) (hv : ∀ a ∈ v, inV a = true) : tel (nm ++ (58 :: v)) told = fin nm v told := by
  have hl := List.length_pos_iff.2 h0
  rw [tel_good (k := nm.length) told (by rw [List.take_left]; exact h) hl (by rw [List.getElem?_append_right (Nat.le_refl _)]; simp), List.take_left]
  have : (nm ++ (58 :: v)).drop (nm.length + 1) = v := by rw [← List.drop_drop, List.drop_left]; rfl
  rw [this, if_neg (by rw [List.all_eq_true.2 hv]; simp)]

/-- what is told is a length or nothing -/
theorem fin_ok {nm v : List Int} {told : Int} : (fin nm v told).2 = 0 ∨ (fin nm v told).2 = 5 ∨ (fin nm v told).2 = 60 := by
  unfold fin; repeat' split
  all_goals simp
theorem tel_err (x : List Int) (told : Int) : (tel x told).2 = 0 ∨ (tel x told).2 = 5 ∨ (tel x told).2 = 60 := by
  unfold tel
  split
  · simp
  · split
    · simp
    · exact fin_ok
theorem go_err : ∀ (xs : List (List Int)) (told : Int), (go told xs).2 = 0 ∨ (go told xs).2 = 5 ∨ (go told xs).2 = 60
  | [], told => by unfold go; split <;> simp
  | x :: xs, told => by
    unfold go; split
    · exact go_err xs _
    · exact tel_err x told
theorem ps_range (l : List Int) : ((ps l 65536).2 = 0 ∨ (ps l 65536).2 = 4 ∨ (ps l 65536).2 = 5) ∧ 0 ≤ (ps l 65536).1 ∧ (ps l 65536).1 ≤ 65536 := by
  unfold ps
  rw [if_neg (by omega)]
  split
  · exact ⟨.inr (.inl rfl), by simp, by simp⟩
  · rename_i h
    split
    · exact ⟨.inr (.inr rfl), by simp, by simp⟩
    · refine ⟨.inl rfl, ?_, by simp; omega⟩
      have : rn l = l.length := by have := rn_le l; rw [not_or] at h; omega
      exact vl_pos (ds_of_rn this)
theorem tel_range {x : List Int} {told : Int} (h : told = -1 ∨ 0 ≤ told ∧ told ≤ 65536) (he : (tel x told).2 = 0) : (tel x told).1 = -1 ∨ 0 ≤ (tel x told).1 ∧ (tel x told).1 ≤ 65536 := by
  unfold tel at he ⊢
  split
  · rename_i e; rw [e] at he; cases he
  · rename_i j e
    split
    · exact .inr ⟨by simp, by simp⟩
    · unfold fin
      have := (ps_range (trm (x.drop (j + 1)))).2
      repeat' split
      · exact .inr ⟨by simp, by simp⟩
      · exact .inr ⟨by simp, by simp⟩
      · exact .inr this
      · exact h
end Go.Proofs.YtigiiofiajhnlaaGreatDoor.Hm
