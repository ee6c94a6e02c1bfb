/-
  Mathematics of frames: the frame that bytes begin with, all the frames, what is left; a reader's steps, in pieces. Nothing of the program is named here.
-/
import Derived.Test.YtigiiofiajhnlaaGreatDoorHm
namespace Go.Proofs.YtigiiofiajhnlaaGreatDoor.Fm
set_option linter.unusedVariables false
open Dm Wd Hm

theorem go_range : ∀ (xs : List (List Int)) (t : Int), (t = -1 ∨ 0 ≤ t ∧ t ≤ 65536) → (go t xs).2 = 0 → 0 ≤ (go t xs).1 ∧ (go t xs).1 ≤ 65536
  | [], t, h, he => by
    unfold go at he ⊢
    split at he
    · cases he
    · rename_i h1
      rw [if_neg h1]
      show 0 ≤ t ∧ t ≤ 65536
      omega
  | x :: xs, t, h, he => by
    unfold go at he ⊢
    split at he
    · rename_i h1
      rw [if_pos h1]
      exact go_range xs _ (tel_range h h1) he
    · rename_i h1
      exact absurd he h1
/-- a line that tells a length has sixteen bytes or more -/
theorem tel_long {x : List Int} {t : Int} (he : (tel x t).2 = 0) (hne : (tel x t).1 ≠ t) : 16 ≤ x.length := by
  unfold tel at he hne
  split at he
  · cases he
  · rename_i j e
    rw [e] at hne
    obtain ⟨h1, h2, h3⟩ := fnd_some e
    have h1' : j + 1 ≤ x.length := h1
    split at he
    · cases he
    · rename_i h4
      simp only [if_neg h4] at hne
      unfold fin at he hne
      split at he
      · rename_i h5
        have h6 : (x.take j).length = 14 := by
          have := congrArg List.length h5
          rw [List.length_map] at this; exact this
        rw [List.length_take] at h6
        rw [if_pos h5] at hne
        have h7 : x.drop (j + 1) ≠ [] := by
          intro c
          have e0 : ps (trm (x.drop (j + 1))) 65536 = (0, 4) := by rw [c]; exact ps_bad (by omega) (.inl rfl)
          rw [e0] at he
          simp at he
        have := List.length_pos_iff.2 h7
        rw [List.length_drop] at this
        omega
      · rename_i h5
        rw [if_neg h5] at hne
        exact absurd rfl hne
theorem spl_mem : ∀ (m : List Int) (x : List Int), x ∈ spl m → x.length ≤ m.length
  | [], x, h => by simp [spl] at h
  | [a], x, h => by simp [spl] at h; subst h; simp
  | a :: b :: r, x, h => by
    rw [spl] at h
    split at h
    · rcases List.mem_cons.1 h with e | g
      · subst e; simp
      · have := spl_mem r x g; simp; omega
    · split at h
      · simp at h; subst h; simp
      · rename_i z zs e
        rcases List.mem_cons.1 h with g | g
        · have := spl_mem (b :: r) z (by rw [e]; simp)
          subst g; simp at this ⊢; omega
        · have := spl_mem (b :: r) x (by rw [e]; simp [g])
          simp at this ⊢; omega
theorem go_long : ∀ (xs : List (List Int)) (t : Int), (go t xs).2 = 0 → t ≠ -1 ∨ ∃ x ∈ xs, 16 ≤ x.length
  | [], t, he => by
    unfold go at he
    split at he
    · cases he
    · rename_i h; exact .inl h
  | x :: xs, t, he => by
    unfold go at he
    split at he
    · rename_i h1
      by_cases hq : (tel x t).1 = t
      · rw [hq] at he
        rcases go_long xs t he with g | ⟨y, hy, hl⟩
        · exact .inl g
        · exact .inr ⟨y, by simp [hy], hl⟩
      · exact .inr ⟨x, by simp, tel_long h1 hq⟩
    · rename_i h1; exact absurd he h1

/-- what head tells, way by way -/
theorem prs_ways (l : List Int) :
    (∃ n s : Nat, prs l = ((n : Int), (s : Int), 0) ∧ n ≤ 65536 ∧ 18 ≤ s ∧ s ≤ 512 ∧ s ≤ l.length) ∨ (prs l = (0, 0, 3) ∧ l.length < 512) ∨ prs l = (0, 0, 5) ∨ prs l = (0, 0, 60) := by
  cases hq : hEnd (l.take 512) with
  | none =>
    have h1 := prs_none hq
    by_cases h5 : 512 ≤ l.length
    · rw [if_pos h5] at h1; exact .inr (.inr (.inl h1))
    · rw [if_neg h5] at h1; exact .inr (.inl ⟨h1, by omega⟩)
  | some s =>
    obtain ⟨h1, h2⟩ := hEnd_of_take hq
    have h3 := (hEnd_le h1).2
    obtain ⟨n, e, hg⟩ : ∃ n e, go (-1) (spl (l.take (s - 2))) = (n, e) := ⟨_, _, rfl⟩
    have he := go_err (spl (l.take (s - 2))) (-1)
    rw [hg] at he
    have he : e = 0 ∨ e = 5 ∨ e = 60 := he
    rcases he with rfl | rfl | rfl
    · have hr := go_range (spl (l.take (s - 2))) (-1) (.inl rfl) (by rw [hg])
      rw [hg] at hr
      have hr0 : 0 ≤ n ∧ n ≤ 65536 := hr
      obtain ⟨k, rfl⟩ := Int.eq_ofNat_of_zero_le hr0.1
      rcases go_long (spl (l.take (s - 2))) (-1) (by rw [hg]) with g | ⟨x, hx, hl⟩
      · exact absurd rfl g
      · have h6 := spl_mem _ _ hx
        rw [List.length_take] at h6
        exact .inl ⟨k, s, prs_ok hq hg, by omega, by omega, h2, h3⟩
    · exact .inr (.inr (.inl (prs_bad hq hg (by omega))))
    · exact .inr (.inr (.inr (prs_bad hq hg (by omega))))
/-- what is told is told of whatever stands behind, too -/
theorem prs_app {l : List Int} (r : List Int) (h : (prs l).2.2 ≠ 3) : prs (l ++ r) = prs l := by
  have hc : (l ++ r).take l.length = l := List.take_left
  cases hq : hEnd (l.take 512) with
  | none =>
    have h1 := prs_none hq
    by_cases h5 : 512 ≤ l.length
    · have h2 : hEnd ((l ++ r).take 512) = none := by rw [List.take_append_of_le_length h5]; exact hq
      rw [h1, prs_none h2, if_pos h5, if_pos (by rw [List.length_append]; omega)]
    · rw [if_neg h5] at h1
      rw [h1] at h; exact absurd rfl h
  | some s =>
    obtain ⟨h1, h2⟩ := hEnd_of_take hq
    have h3 := (hEnd_le h1).2
    have h4 : (l ++ r).take (s - 2) = l.take (s - 2) := List.take_append_of_le_length (by omega)
    have h5 : hEnd ((l ++ r).take 512) = some s := by
      refine hEnd_take ?_ h2
      have e : hEnd ((l ++ r).take l.length) = some s := by rw [hc]; exact h1
      exact (hEnd_of_take e).1
    unfold prs
    rw [hq, h5]
    simp only [h4]

/-- the frame that bytes begin with: its body, what stands behind it -/
def cutF (l : List Int) : Option (List Int × List Int) :=
  if (prs l).2.2 = 0 ∧ (prs l).1.toNat ≤ l.length - (prs l).2.1.toNat then some ((l.drop (prs l).2.1.toNat).take (prs l).1.toNat, l.drop ((prs l).2.1.toNat + (prs l).1.toNat)) else none
/-- what is wrong with bytes, for good -/
def brk (l : List Int) : Int := if (prs l).2.2 = 3 then 0 else (prs l).2.2

theorem cutF_yes {l : List Int} {n s : Nat} (h : prs l = ((n : Int), (s : Int), 0)) (hl : n ≤ l.length - s) : cutF l = some ((l.drop s).take n, l.drop (s + n)) := by
  unfold cutF; rw [h]; simp only [Int.toNat_natCast]; rw [if_pos ⟨trivial, hl⟩]
theorem cutF_short {l : List Int} {n s : Nat} (h : prs l = ((n : Int), (s : Int), 0)) (hl : ¬ n ≤ l.length - s) : cutF l = none := by
  unfold cutF; rw [h]; simp only [Int.toNat_natCast]; rw [if_neg (fun c => hl c.2)]
theorem cutF_bad {l : List Int} {a b e : Int} (h : prs l = (a, b, e)) (he : e ≠ 0) : cutF l = none := by
  unfold cutF; rw [h]; rw [if_neg (fun c => he c.1)]
theorem brk_ok {l : List Int} {a b : Int} (h : prs l = (a, b, 0)) : brk l = 0 := by unfold brk; rw [h]; rfl
theorem brk_three {l : List Int} {a b : Int} (h : prs l = (a, b, 3)) : brk l = 0 := by unfold brk; rw [h]; rfl
theorem brk_bad {l : List Int} {a b e : Int} (h : prs l = (a, b, e)) (he : e ≠ 3) : brk l = e := by unfold brk; rw [h]; exact if_neg he
/-- cutting, way by way -/
theorem cutF_some {l b r : List Int} (h : cutF l = some (b, r)) : ∃ n s : Nat, prs l = ((n : Int), (s : Int), 0) ∧ n ≤ 65536 ∧ 18 ≤ s ∧ s ≤ 512 ∧ s + n ≤ l.length ∧ b = (l.drop s).take n ∧ r = l.drop (s + n) := by
  rcases prs_ways l with ⟨n, s, e, h1, h2, h3, h4⟩ | ⟨e, h1⟩ | e | e
  · by_cases hl : n ≤ l.length - s
    · rw [cutF_yes e hl] at h
      injection h with h; injection h with h5 h6
      exact ⟨n, s, e, h1, h2, h3, by omega, h5.symm, h6.symm⟩
    · rw [cutF_short e hl] at h; cases h
  · rw [cutF_bad e (by omega)] at h; cases h
  · rw [cutF_bad e (by omega)] at h; cases h
  · rw [cutF_bad e (by omega)] at h; cases h
theorem cutF_len {l b r : List Int} (h : cutF l = some (b, r)) : r.length + 18 ≤ l.length ∧ b.length + r.length + 18 ≤ l.length := by
  obtain ⟨n, s, _, _, h2, _, h4, rfl, rfl⟩ := cutF_some h
  rw [List.length_take, List.length_drop, List.length_drop]; omega
theorem cutF_app {l b r : List Int} (x : List Int) (h : cutF l = some (b, r)) : cutF (l ++ x) = some (b, r ++ x) := by
  obtain ⟨n, s, e, h1, h2, h3, h4, rfl, rfl⟩ := cutF_some h
  have e' : prs (l ++ x) = ((n : Int), (s : Int), 0) := by rw [prs_app x (by rw [e]; simp), e]
  rw [cutF_yes e' (by rw [List.length_append]; omega)]
  rw [List.drop_append_of_le_length (by omega), List.drop_append_of_le_length (by omega), List.take_append_of_le_length (by rw [List.length_drop]; omega)]
theorem brk_app {l : List Int} (x : List Int) (h : brk l ≠ 0) : brk (l ++ x) = brk l ∧ cutF (l ++ x) = none := by
  have h3 : (prs l).2.2 ≠ 3 := by intro c; unfold brk at h; rw [if_pos c] at h; exact h rfl
  have h0 : (prs l).2.2 ≠ 0 := by intro c; unfold brk at h; rw [if_neg h3] at h; exact h c
  have e := prs_app x h3
  refine ⟨by unfold brk; rw [e], ?_⟩
  exact cutF_bad (a := (prs l).1) (b := (prs l).2.1) (e := (prs l).2.2) (by rw [e]) h0
theorem brk_ways (l : List Int) : brk l = 0 ∨ brk l = 5 ∨ brk l = 60 := by
  rcases prs_ways l with ⟨n, s, e, _⟩ | ⟨e, _⟩ | e | e
  · exact .inl (brk_ok e)
  · exact .inl (brk_three e)
  · exact .inr (.inl (brk_bad e (by omega)))
  · exact .inr (.inr (brk_bad e (by omega)))
/-- what waits is less than one frame -/
theorem wait_len {l : List Int} (h : cutF l = none) (hb : brk l = 0) : l.length < 66048 := by
  rcases prs_ways l with ⟨n, s, e, h1, h2, h3, h4⟩ | ⟨e, h1⟩ | e | e
  · by_cases hl : n ≤ l.length - s
    · rw [cutF_yes e hl] at h; cases h
    · omega
  · omega
  · rw [brk_bad e (by omega)] at hb; cases hb
  · rw [brk_bad e (by omega)] at hb; cases hb

/-- the frames that bytes begin with, k at most -/
def frsN : Nat → List Int → List (List Int) × List Int
  | 0, l => ([], l)
  | k + 1, l => match cutF l with
    | none => ([], l)
    | some (b, r) => (b :: (frsN k r).1, (frsN k r).2)
/-- the frames that bytes begin with: their bodies, what is left -/
def frs (l : List Int) : List (List Int) × List Int := frsN l.length l
theorem frsN_none {l : List Int} (k : Nat) (h : cutF l = none) : frsN k l = ([], l) := by
  cases k with
  | zero => rfl
  | succ k => rw [frsN, h]
theorem frsN_some {l b r : List Int} (k : Nat) (h : cutF l = some (b, r)) : frsN (k + 1) l = (b :: (frsN k r).1, (frsN k r).2) := by rw [frsN, h]
theorem frsN_more : ∀ (k j : Nat) (l : List Int), l.length ≤ k → l.length ≤ j → frsN k l = frsN j l := by
  intro k
  induction k with
  | zero =>
    intro j l hk hj
    obtain rfl : l = [] := List.eq_nil_of_length_eq_zero (by omega)
    cases h : cutF [] with
    | none => rw [frsN_none _ h, frsN_none _ h]
    | some p => obtain ⟨b, r⟩ := p; have := (cutF_len h).1; simp at this
  | succ k ih =>
    intro j l hk hj
    cases h : cutF l with
    | none => rw [frsN_none _ h, frsN_none _ h]
    | some p =>
      obtain ⟨b, r⟩ := p
      have hl := (cutF_len h).1
      cases j with
      | zero => omega
      | succ j => rw [frsN_some _ h, frsN_some _ h, ih j r (by omega) (by omega)]
theorem frs_none {l : List Int} (h : cutF l = none) : frs l = ([], l) := frsN_none _ h
theorem frs_some {l b r : List Int} (h : cutF l = some (b, r)) : frs l = (b :: (frs r).1, (frs r).2) := by
  have hl := (cutF_len h).1
  unfold frs
  obtain ⟨k, hk⟩ : ∃ k, l.length = k + 1 := ⟨l.length - 1, by omega⟩
  rw [hk, frsN_some _ h, frsN_more k r.length r (by omega) (Nat.le_refl _)]

/-- by as many frames as there are -/
theorem frs_ind {P : List Int → Prop} (h0 : ∀ l, cutF l = none → P l) (h1 : ∀ l b r, cutF l = some (b, r) → P r → P l) (l : List Int) : P l := by
  have : ∀ (n : Nat) (l : List Int), l.length ≤ n → P l := by
    intro n
    induction n with
    | zero =>
      intro l hl
      refine h0 l ?_
      cases h : cutF l with
      | none => rfl
      | some p => obtain ⟨b, r⟩ := p; have := (cutF_len h).1; omega
    | succ n ih =>
      intro l hl
      cases h : cutF l with
      | none => exact h0 l h
      | some p => obtain ⟨b, r⟩ := p; exact h1 l b r h (ih r (by have := (cutF_len h).1; omega))
  exact this _ l (Nat.le_refl _)
theorem frs_left (l : List Int) : cutF (frs l).2 = none := by
  refine frs_ind (P := fun l => cutF (frs l).2 = none) ?_ ?_ l
  · intro l h; rw [frs_none h]; exact h
  · intro l b r h ih; rw [frs_some h]; exact ih
theorem frs_rest (l : List Int) : frs (frs l).2 = ([], (frs l).2) := frs_none (frs_left l)
theorem frs_len (l : List Int) : (frs l).1.length * 18 + (frs l).2.length ≤ l.length := by
  refine frs_ind (P := fun l => (frs l).1.length * 18 + (frs l).2.length ≤ l.length) ?_ ?_ l
  · intro l h; rw [frs_none h]; simp
  · intro l b r h ih; rw [frs_some h]; have := (cutF_len h).1; simp; omega
theorem frs_suffix (l : List Int) : ∃ k, k ≤ l.length ∧ (frs l).2 = l.drop k := by
  refine frs_ind (P := fun l => ∃ k, k ≤ l.length ∧ (frs l).2 = l.drop k) ?_ ?_ l
  · intro l h; rw [frs_none h]; exact ⟨0, Nat.zero_le _, rfl⟩
  · intro l b r h ih
    obtain ⟨n, s, _, _, _, _, h4, _, rfl⟩ := cutF_some h
    obtain ⟨k, hk, e⟩ := ih
    rw [List.length_drop] at hk
    refine ⟨s + n + k, by omega, ?_⟩
    rw [frs_some h]; show _ = _; rw [e, List.drop_drop]
theorem frs_isB {l : List Int} (h : IsB l) : (∀ b ∈ (frs l).1, IsB b) ∧ IsB (frs l).2 := by
  revert h
  refine frs_ind (P := fun l => IsB l → (∀ b ∈ (frs l).1, IsB b) ∧ IsB (frs l).2) ?_ ?_ l
  · intro l h hl; rw [frs_none h]; exact ⟨by simp, hl⟩
  · intro l b r h ih hl
    rw [frs_some h]
    obtain ⟨n, s, _, _, _, _, h4, rfl, rfl⟩ := cutF_some h
    have := ih (hl.drop _)
    refine ⟨fun x hx => ?_, this.2⟩
    rcases List.mem_cons.1 hx with e | g
    · subst e; exact (hl.drop _).take _
    · exact this.1 x g
theorem frs_body {l : List Int} : ∀ b ∈ (frs l).1, b.length ≤ l.length ∧ b.length ≤ 65536 := by
  refine frs_ind (P := fun l => ∀ b ∈ (frs l).1, b.length ≤ l.length ∧ b.length ≤ 65536) ?_ ?_ l
  · intro l h; rw [frs_none h]; simp
  · intro l b r h ih x hx
    rw [frs_some h] at hx
    obtain ⟨n, s, _, h1, _, _, h4, rfl, rfl⟩ := cutF_some h
    rcases List.mem_cons.1 hx with e | g
    · subst e; rw [List.length_take, List.length_drop]; omega
    · have := ih x g; rw [List.length_drop] at this; omega
/-- pieces: what is left goes on -/
theorem frs_app (l x : List Int) : frs (l ++ x) = ((frs l).1 ++ (frs ((frs l).2 ++ x)).1, (frs ((frs l).2 ++ x)).2) := by
  refine frs_ind (P := fun l => frs (l ++ x) = ((frs l).1 ++ (frs ((frs l).2 ++ x)).1, (frs ((frs l).2 ++ x)).2)) ?_ ?_ l
  · intro l h; rw [frs_none h]; simp
  · intro l b r h ih
    rw [frs_some h, frs_some (cutF_app x h), ih]; simp
theorem frs_broken (l x : List Int) (h : brk (frs l).2 ≠ 0) : frs (l ++ x) = ((frs l).1, (frs l).2 ++ x) ∧ brk ((frs l).2 ++ x) = brk (frs l).2 := by
  obtain ⟨h1, h2⟩ := brk_app x h
  refine ⟨?_, h1⟩
  rw [frs_app, frs_none h2]; simp

/-- a reader: what waits; none: it is closed -/
abbrev St := Option (List Int)
/-- what a reader has -/
def lft : St → List Int
  | none => []
  | some l => l
/-- one Write: the bodies, the error, the reader behind it -/
def wrt (s : St) (b : List Int) : List (List Int) × Int × St :=
  match s with
  | none => ([], 70, none)
  | some l => if brk (frs (l ++ b)).2 = 0 then ((frs (l ++ b)).1, 0, some (frs (l ++ b)).2) else ((frs (l ++ b)).1, brk (frs (l ++ b)).2, none)
/-- what a reader that is open has is no frame, and not broken -/
def Wt (s : St) : Prop := ∀ l, s = some l → cutF l = none ∧ brk l = 0
theorem wrt_none (b : List Int) : wrt none b = ([], 70, none) := rfl
theorem wrt_ok {l b t : List Int} {xs : List (List Int)} (h : frs (l ++ b) = (xs, t)) (hb : brk t = 0) : wrt (some l) b = (xs, 0, some t) := by
  unfold wrt; simp only [h]; rw [if_pos hb]
theorem wrt_bad {l b t : List Int} {xs : List (List Int)} (h : frs (l ++ b) = (xs, t)) (hb : brk t ≠ 0) : wrt (some l) b = (xs, brk t, none) := by
  unfold wrt; simp only [h]; rw [if_neg hb]
theorem wrt_wt (s : St) (b : List Int) : Wt (wrt s b).2.2 := by
  intro l hl
  cases s with
  | none => rw [wrt_none] at hl; cases hl
  | some k =>
    by_cases h : brk (frs (k ++ b)).2 = 0
    · rw [wrt_ok (xs := (frs (k ++ b)).1) (t := (frs (k ++ b)).2) rfl h] at hl
      injection hl with hl
      subst hl
      exact ⟨frs_left _, h⟩
    · rw [wrt_bad (xs := (frs (k ++ b)).1) (t := (frs (k ++ b)).2) rfl h] at hl
      cases hl
theorem wt_len {s : St} (h : Wt s) : (lft s).length < 66048 := by
  cases s with
  | none => simp [lft]
  | some l => exact wait_len (h l rfl).1 (h l rfl).2
theorem wt_new : Wt (some []) := fun l hl => by
  injection hl with hl; subst hl
  exact ⟨by decide +kernel, by decide +kernel⟩
/-- pieces, one behind the other: the bodies, the last error but that of a closed reader, the reader behind them -/
def rds (s : St) (last : Int) : List (List Int) → List (List Int) × Int × St
  | [] => ([], last, s)
  | p :: ps => let q := wrt s p
    let z := rds q.2.2 (if q.2.1 ≠ 0 ∧ q.2.1 ≠ 70 then q.2.1 else last) ps
    (q.1 ++ z.1, z.2)
theorem rds_nil (s : St) (last : Int) : rds s last [] = ([], last, s) := rfl
theorem rds_cons (s : St) (last : Int) (p : List Int) (ps : List (List Int)) : rds s last (p :: ps) = ((wrt s p).1 ++ (rds (wrt s p).2.2 (if (wrt s p).2.1 ≠ 0 ∧ (wrt s p).2.1 ≠ 70 then (wrt s p).2.1 else last) ps).1, (rds (wrt s p).2.2 (if (wrt s p).2.1 ≠ 0 ∧ (wrt s p).2.1 ≠ 70 then (wrt s p).2.1 else last) ps).2) := rfl
theorem rds_closed (last : Int) (ps : List (List Int)) : rds none last ps = ([], last, none) := by
  induction ps with
  | nil => rfl
  | cons p ps ih => rw [rds_cons, wrt_none]; simp [ih]
/-- in whichever pieces: what is read is that of all of them as one -/
theorem rds_all (ps : List (List Int)) : ∀ (l : List Int), cutF l = none → brk l = 0 → rds (some l) 0 ps =
    ((frs (l ++ ps.flatten)).1, brk (frs (l ++ ps.flatten)).2, if brk (frs (l ++ ps.flatten)).2 = 0 then some (frs (l ++ ps.flatten)).2 else none) := by
  induction ps with
  | nil =>
    intro l h1 h2
    rw [rds_nil, List.flatten_nil, List.append_nil, frs_none h1]
    simp [h2]
  | cons p ps ih =>
    intro l h1 h2
    rw [List.flatten_cons, ← List.append_assoc]
    obtain ⟨xs, t, e⟩ : ∃ xs t, frs (l ++ p) = (xs, t) := ⟨_, _, rfl⟩
    have ht := frs_left (l ++ p)
    rw [e] at ht
    by_cases hb : brk t = 0
    · have hw := wrt_ok e hb
      have := ih t ht hb
      rw [rds_cons, hw]
      simp only [ne_eq, not_true_eq_false, false_and, if_false]
      rw [this, frs_app (l ++ p), e]
    · have hw := wrt_bad e hb
      obtain ⟨h3, h4⟩ := frs_broken (l ++ p) ps.flatten (by rw [e]; exact hb)
      rw [e] at h3 h4
      have h70 : brk t ≠ 70 := by rcases brk_ways t with g | g | g <;> omega
      rw [rds_cons, hw]
      simp only [if_pos (And.intro hb h70)]
      rw [rds_closed, h3]
      simp only [h4, List.append_nil, if_neg hb]
end Go.Proofs.YtigiiofiajhnlaaGreatDoor.Fm
