/-
  Plain mathematics of JSON's numbers: each number is put together of its parts. Nothing of the program is named here.
-/
import Derived.Test.YtjgkaccmfdjffaaDoorNh
namespace Go.Proofs.YtjgkaccmfdjffaaDoor.Nu
set_option linter.unusedVariables false
set_option linter.unusedSimpArgs false
open Dm (Ds vl decs)

theorem dg_ds {x : Int} (h : dg x = true) : 48 ≤ x ∧ x ≤ 57 := of_decide_eq_true h
theorem rn_split (l : List Int) : Ds (l.take (rn l)) ∧ hdd (l.drop (rn l)) = false ∧ rn l ≤ l.length := by
  induction l with
  | nil => exact ⟨(fun x hx => by cases hx), rfl, Nat.le_refl _⟩
  | cons a l ih =>
    by_cases h : dg a = true
    · rw [rn_cons, if_pos h]
      exact ⟨ds_cons (dg_ds h) ih.1, ih.2.1, by rw [List.length_cons]; omega⟩
    · rw [rn_cons, if_neg h]
      exact ⟨(fun x hx => by cases hx), by simpa [hdd] using h, by omega⟩
theorem hdd_some {l : List Int} (h : hdd l = true) : ∃ a t, l = a :: t ∧ (48 ≤ a ∧ a ≤ 57) := by
  rcases l with _ | ⟨a, t⟩
  · cases h
  · exact ⟨a, t, rfl, dg_ds h⟩
theorem hd1_some {x y : Int} {l : List Int} (h : hd1 x y l = true) : ∃ a t, l = a :: t ∧ (a = x ∨ a = y) := by
  rcases l with _ | ⟨a, t⟩
  · cases h
  · exact ⟨a, t, rfl, of_decide_eq_true h⟩
theorem sho_ne (l : List Int) : sho l ≠ 0 := by unfold sho; split <;> decide
theorem rn_pos {l : List Int} (h : hdd l = true) : 1 ≤ rn l := by rw [rn_step h]; omega
theorem formP {n : Nat} {l : List Int} (h : ckP n l = (n + l.length, 0)) : Ds l ∧ l ≠ [] := by
  unfold ckP at h
  by_cases hh : hdd l = true
  · rw [if_pos hh] at h
    have h1 := congrArg Prod.fst h
    dsimp only at h1
    have hs := rn_split l
    have : l.take (rn l) = l := List.take_of_length_le (by omega)
    rw [this] at hs
    exact ⟨hs.1, by rintro rfl; cases hh⟩
  · rw [if_neg hh] at h
    exact absurd (congrArg Prod.snd h) (sho_ne l)
theorem formE {n : Nat} {l : List Int} (h : ckE n l = (n + l.length, 0)) : Ex l := by
  unfold ckE at h
  by_cases hh : hd1 101 69 l = true
  · obtain ⟨c, t, rfl, hc⟩ := hd1_some hh
    rw [if_pos hh] at h
    by_cases hg : hd1 43 45 t = true
    · rw [if_pos (show hd1 43 45 ((c :: t).drop 1) = true from hg)] at h
      obtain ⟨s, u, rfl, hs⟩ := hd1_some hg
      have h' : ckP (n + 2) u = (n + 2 + u.length, 0) := by
        have e : (c :: s :: u).length = u.length + 2 := rfl
        rw [e] at h
        rw [show n + 2 + u.length = n + (u.length + 2) by omega]; exact h
      have hp := formP h'
      rcases hs with rfl | rfl
      · exact Ex.some c [43] u hc (.inr (.inl rfl)) hp.1 hp.2
      · exact Ex.some c [45] u hc (.inr (.inr rfl)) hp.1 hp.2
    · rw [if_neg (show ¬ hd1 43 45 ((c :: t).drop 1) = true from hg)] at h
      have h' : ckP (n + 1) t = (n + 1 + t.length, 0) := by
        have e : (c :: t).length = t.length + 1 := rfl
        rw [e] at h
        rw [show n + 1 + t.length = n + (t.length + 1) by omega]; exact h
      have hp := formP h'
      exact Ex.some c [] t hc (.inl rfl) hp.1 hp.2
  · rw [if_neg hh] at h
    have h1 := congrArg Prod.fst h
    dsimp only at h1
    obtain rfl : l = [] := List.eq_nil_of_length_eq_zero (by omega)
    exact Ex.none
theorem formF {n : Nat} {l : List Int} (h : ckF n l = (n + l.length, 0)) : ∃ fd ex, Ds fd ∧ Ex ex ∧ l = fp fd ++ ex := by
  unfold ckF at h
  by_cases hh : hd1 46 46 l = true
  · obtain ⟨c, t, rfl, hc⟩ := hd1_some hh
    obtain rfl : c = 46 := by omega
    rw [if_pos hh] at h
    by_cases hg : hdd t = true
    · rw [if_pos (show hdd ((46 :: t).drop 1) = true from hg)] at h
      have hs := rn_split t
      have hpos := rn_pos hg
      have e1 : (46 :: t).drop 1 = t := rfl
      have e2 : (46 :: t).drop (1 + rn t) = t.drop (rn t) := by rw [Nat.add_comm, List.drop_succ_cons]
      rw [e1, e2] at h
      have h' : ckE (n + 1 + rn t) (t.drop (rn t)) = (n + 1 + rn t + (t.drop (rn t)).length, 0) := by
        rw [h, List.length_drop, List.length_cons]; congr 1; omega
      have hne : t.take (rn t) ≠ [] := fun e => by
        have := congrArg List.length e
        rw [List.length_take] at this
        simp only [List.length_nil] at this; omega
      refine ⟨t.take (rn t), t.drop (rn t), hs.1, formE h', ?_⟩
      unfold fp; rw [if_neg hne, List.cons_append, List.take_append_drop]
    · rw [if_neg (show ¬ hdd ((46 :: t).drop 1) = true from hg)] at h
      exact absurd (congrArg Prod.snd h) (sho_ne _)
  · rw [if_neg hh] at h
    exact ⟨[], l, ds_nil, formE h, rfl⟩
theorem formI {n : Nat} {l : List Int} (h : ckI n l = (n + l.length, 0)) : ∃ ip fd ex, Ip ip ∧ Ds fd ∧ Ex ex ∧ l = ip ++ (fp fd ++ ex) := by
  unfold ckI at h
  by_cases hh : hdd l = true
  · rw [if_pos hh] at h
    by_cases hg : hd1 48 48 l = true
    · obtain ⟨c, t, rfl, hc⟩ := hd1_some hg
      obtain rfl : c = 48 := by omega
      rw [if_pos hg] at h
      have h' : ckF (n + 1) t = (n + 1 + t.length, 0) := by
        have e : (48 :: t).length = t.length + 1 := rfl
        rw [e] at h
        rw [show n + 1 + t.length = n + (t.length + 1) by omega]; exact h
      obtain ⟨fd, ex, h1, h2, h3⟩ := formF h'
      exact ⟨[48], fd, ex, ip_0, h1, h2, by rw [h3]; rfl⟩
    · rw [if_neg hg] at h
      have hs := rn_split l
      have hpos := rn_pos hh
      have h' : ckF (n + rn l) (l.drop (rn l)) = (n + rn l + (l.drop (rn l)).length, 0) := by
        rw [h, List.length_drop]; congr 1; omega
      obtain ⟨fd, ex, h1, h2, h3⟩ := formF h'
      obtain ⟨a, t, rfl, ha⟩ := hdd_some hh
      have ha48 : a ≠ 48 := fun e => hg (decide_eq_true (by omega))
      have hip : Ip ((a :: t).take (rn (a :: t))) := by
        obtain ⟨k, hk⟩ : ∃ k, rn (a :: t) = k + 1 := ⟨rn (a :: t) - 1, by omega⟩
        refine ⟨hs.1, ?_, .inr ?_⟩
        · rw [hk, List.take_succ_cons]; simp
        · rw [hk, List.take_succ_cons]; simpa using ha48
      exact ⟨_, fd, ex, hip, h1, h2, by rw [← h3, List.take_append_drop]⟩
  · rw [if_neg hh] at h
    exact absurd (congrArg Prod.snd h) (sho_ne _)
/-- each number is put together of its parts -/
theorem form_of {l : List Int} (h : ck 0 l = (l.length, 0)) : ∃ b ip fd ex, Ip ip ∧ Ds fd ∧ Ex ex ∧ l = mk b ip fd ex := by
  unfold ck at h
  by_cases hh : hd1 45 45 l = true
  · obtain ⟨c, t, rfl, hc⟩ := hd1_some hh
    obtain rfl : c = 45 := by omega
    rw [if_pos hh] at h
    have h' : ckI 1 t = (1 + t.length, 0) := by
      have e : (45 :: t).length = t.length + 1 := rfl
      rw [e] at h
      rw [show 1 + t.length = t.length + 1 by omega]; exact h
    obtain ⟨ip, fd, ex, h1, h2, h3, h4⟩ := formI h'
    exact ⟨true, ip, fd, ex, h1, h2, h3, by rw [h4]; rfl⟩
  · rw [if_neg hh] at h
    have h' : ckI 0 l = (0 + l.length, 0) := by rw [h, Nat.zero_add]
    obtain ⟨ip, fd, ex, h1, h2, h3, h4⟩ := formI h'
    exact ⟨false, ip, fd, ex, h1, h2, h3, by rw [h4]; rfl⟩
/-- what is behind the power's letter is a sign, perhaps, and digits -/
theorem rest_ds {l : List Int} (h : ck 0 l = (l.length, 0)) : Ds (if hd1 43 45 ((l.dropWhile nl).drop 1) then ((l.dropWhile nl).drop 1).drop 1 else (l.dropWhile nl).drop 1) := by
  obtain ⟨b, ip, fd, ex, hi, hf, he, rfl⟩ := form_of h
  have e : (mk b ip fd ex).dropWhile nl = ex := by rw [mk_eq, dropWhile_app (hd_nl hi.1 hf), (ex_take he).2]
  rw [e]
  rcases he with _ | ⟨c, s, ed, hc, hs, hd, hn⟩
  · exact ds_nil
  · show Ds (if hd1 43 45 (s ++ ed) then (s ++ ed).drop 1 else s ++ ed)
    rcases hs with rfl | rfl | rfl
    · rw [if_neg (by have := hd1_ds hd hn [] (x := 43) (y := 45) (by omega) (by omega); rw [List.append_nil] at this; rw [List.nil_append, this]; decide)]; exact hd
    · rw [if_pos (by rfl)]; exact hd
    · rw [if_pos (by rfl)]; exact hd
/-! ### the scan of the digits -/
/-- digits, and those behind the point, of the first bytes -/
def dj (l : List Int) (j : Nat) : List Int := (l.take j).filter dg
def fj (l : List Int) (j : Nat) : Nat := (((l.take j).dropWhile np).filter dg).length
def pj (l : List Int) (j : Nat) : Bool := (l.take j).any (fun x => decide (x = 46))
theorem take_snoc {l : List Int} {j : Nat} {x : Int} (h : l[j]? = some x) : l.take (j + 1) = l.take j ++ [x] := by
  rw [List.take_add_one, h]; rfl
theorem dj_next {l : List Int} {j : Nat} {x : Int} (h : l[j]? = some x) : dj l (j + 1) = dj l j ++ (if dg x then [x] else []) := by
  unfold dj; rw [take_snoc h, List.filter_append]
  congr 1
  rw [List.filter_cons]; rfl
theorem pj_next {l : List Int} {j : Nat} {x : Int} (h : l[j]? = some x) : pj l (j + 1) = (pj l j || decide (x = 46)) := by
  unfold pj; rw [take_snoc h, List.any_append]; simp
theorem dw_any {m : List Int} : (m.any (fun x => decide (x = 46)) = false → m.dropWhile np = []) ∧ (m.any (fun x => decide (x = 46)) = true → m.dropWhile np ≠ []) := by
  induction m with
  | nil => exact ⟨fun _ => rfl, fun h => by cases h⟩
  | cons a m ih =>
    by_cases h : a = 46
    · subst h
      exact ⟨fun g => by simp at g, fun _ => by rw [List.dropWhile_cons, if_neg (by decide)]; simp⟩
    · have e : (a :: m).any (fun x => decide (x = 46)) = m.any (fun x => decide (x = 46)) := by rw [List.any_cons, decide_eq_false h, Bool.false_or]
      rw [e, List.dropWhile_cons, if_pos (show np a = true from decide_eq_true h)]; exact ih
theorem dw_app {m : List Int} (h : m.dropWhile np ≠ []) (t : List Int) : (m ++ t).dropWhile np = m.dropWhile np ++ t := by
  induction m with
  | nil => exact absurd rfl h
  | cons a m ih =>
    by_cases g : np a = true
    · rw [List.dropWhile_cons, if_pos g] at h ⊢
      rw [List.cons_append, List.dropWhile_cons, if_pos g, ih h]
    · rw [List.cons_append, List.dropWhile_cons, if_neg g, List.dropWhile_cons, if_neg g]; rfl
theorem fj_next {l : List Int} {j : Nat} {x : Int} (h : l[j]? = some x) : fj l (j + 1) = fj l j + (if dg x = true ∧ pj l (j + 1) = true then 1 else 0) := by
  unfold fj
  rw [take_snoc h]
  by_cases hp : pj l j = true
  · have hp2 : pj l (j + 1) = true := by rw [pj_next h, hp]; rfl
    rw [dw_app (dw_any.2 hp), List.filter_append, List.length_append]
    by_cases hx : dg x = true
    · rw [if_pos ⟨hx, hp2⟩, List.filter_cons, if_pos hx]; rfl
    · rw [if_neg (fun g => hx g.1), List.filter_cons, if_neg hx]; rfl
  · have hp' : pj l j = false := by simpa using hp
    have h0 := dw_any.1 hp'
    have hall : ∀ y ∈ l.take j, np y = true := fun y hy => by
      unfold pj at hp'
      rw [List.any_eq_false] at hp'
      have := hp' y hy
      exact decide_eq_true (by simpa using this)
    rw [dropWhile_app hall, h0]
    by_cases hx : x = 46
    · subst hx
      rw [if_neg (fun g => by have := g.1; revert this; decide), List.dropWhile_cons, if_neg (by decide)]; rfl
    · have hp2 : pj l (j + 1) = false := by rw [pj_next h, hp', decide_eq_false hx]; rfl
      rw [if_neg (fun g => by rw [hp2] at g; cases g.2), List.dropWhile_cons, if_pos (show np x = true from decide_eq_true hx)]; rfl
/-- where the scan ends -/
theorem scan_end {l : List Int} {j : Nat} (hj : j ≤ l.length) (h : ∀ x ∈ l.take j, nl x = true) (he : j = l.length ∨ ∃ x, l[j]? = some x ∧ nl x = false) : dj l j = dgs l ∧ fj l j = frc l ∧ l.drop j = l.dropWhile nl := by
  have e : l.takeWhile nl = l.take j ∧ l.dropWhile nl = l.drop j := by
    have h1 := takeWhile_app h (l.drop j)
    have h2 := dropWhile_app h (l.drop j)
    rw [List.take_append_drop] at h1 h2
    rcases he with rfl | ⟨x, hx, hn⟩
    · rw [List.drop_of_length_le (Nat.le_refl _)] at h1 h2 ⊢
      exact ⟨by rw [h1]; simp, by rw [h2]; rfl⟩
    · have hlt : j < l.length := by
        rcases Nat.lt_or_ge j l.length with g | g
        · exact g
        · rw [List.getElem?_eq_none g] at hx; cases hx
      have hd : l.drop j = x :: l.drop (j + 1) := by
        rw [List.drop_eq_getElem_cons hlt]; rw [List.getElem?_eq_getElem hlt] at hx; injection hx with hx; rw [hx]
      rw [hd] at h1 h2 ⊢
      rw [List.takeWhile_cons, if_neg (by rw [hn]; decide), List.append_nil] at h1
      rw [List.dropWhile_cons, if_neg (by rw [hn]; decide)] at h2
      exact ⟨h1, h2⟩
  unfold dj fj dgs frc
  rw [e.1]
  exact ⟨rfl, rfl, e.2.symm⟩
end Go.Proofs.YtjgkaccmfdjffaaDoor.Nu
