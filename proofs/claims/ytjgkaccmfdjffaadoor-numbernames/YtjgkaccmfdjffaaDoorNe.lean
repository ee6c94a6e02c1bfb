/-
  Plain mathematics of JSON's numbers: numbers put together of their parts: where they end, what their values are. Nothing of the program is named here.
-/
import Derived.Test.YtjgkaccmfdjffaaDoorNd
namespace Go.Proofs.YtjgkaccmfdjffaaDoor.Nu
set_option linter.unusedVariables false
set_option linter.unusedSimpArgs false
open Dm (Ds vl decs)

/-- a sign; a point and digits behind it, if there are some -/
def sg (b : Bool) : List Int := if b then [45] else []
def fp (fd : List Int) : List Int := if fd = [] then [] else 46 :: fd
/-- a power, or none -/
inductive Ex : List Int → Prop
  | none : Ex []
  | some (c : Int) (s ed : List Int) (hc : c = 101 ∨ c = 69) (hs : s = [] ∨ s = [43] ∨ s = [45]) (hd : Ds ed) (hn : ed ≠ []) : Ex (c :: (s ++ ed))
/-- digits ahead of a point: 0, or no nought first -/
def Ip (ip : List Int) : Prop := Ds ip ∧ ip ≠ [] ∧ (ip = [48] ∨ ip.head? ≠ some 48)
def mk (b : Bool) (ip fd ex : List Int) : List Int := sg b ++ (ip ++ (fp fd ++ ex))

theorem rn_app {a : List Int} (h : Ds a) (t : List Int) : rn (a ++ t) = a.length + rn t := by
  induction a with
  | nil => simp
  | cons x a ih =>
    have hx := dg_yes (h x (by simp))
    rw [List.cons_append, rn_cons, if_pos hx, ih (fun y hy => h y (by simp [hy])), List.length_cons]; omega
theorem hdd_ds {a : List Int} (h : Ds a) (hn : a ≠ []) (t : List Int) : hdd (a ++ t) = true := by
  rcases a with _ | ⟨x, a⟩
  · exact absurd rfl hn
  · exact dg_yes (h x (by simp))
theorem hd1_ds {a : List Int} (h : Ds a) (hn : a ≠ []) (t : List Int) {x y : Int} (hx : ¬ (48 ≤ x ∧ x ≤ 57)) (hy : ¬ (48 ≤ y ∧ y ≤ 57)) : hd1 x y (a ++ t) = false := by
  rcases a with _ | ⟨z, a⟩
  · exact absurd rfl hn
  · have := h z (by simp)
    show decide (z = x ∨ z = y) = false
    exact decide_eq_false (by omega)
theorem hdd_ex {ex : List Int} (h : Ex ex) {r : List Int} (hr : hdd r = false) : hdd (ex ++ r) = false := by
  rcases h with _ | ⟨c, s, ed, hc, hs, hd, hn⟩
  · exact hr
  · exact dg_no (by omega)
theorem ckP_ed {ed r : List Int} (hd : Ds ed) (hn : ed ≠ []) (hr : hdd r = false) (n : Nat) : ckP n (ed ++ r) = (n + ed.length, 0) := by
  unfold ckP; rw [if_pos (hdd_ds hd hn r), rn_app hd, rn_zero hr]; rfl
theorem ckE_ex {ex : List Int} (h : Ex ex) {r : List Int} (hr : hdd r = false) (hr2 : ex = [] → hd1 101 69 r = false) (n : Nat) : ckE n (ex ++ r) = (n + ex.length, 0) := by
  rcases h with _ | ⟨c, s, ed, hc, hs, hd, hn⟩
  · rw [List.nil_append]; unfold ckE; rw [if_neg (by rw [hr2 rfl]; decide)]; rfl
  · have h1 : hd1 101 69 ((c :: (s ++ ed)) ++ r) = true := decide_eq_true (by omega)
    unfold ckE
    rw [if_pos h1]
    have hdr : ((c :: (s ++ ed)) ++ r).drop 1 = (s ++ ed) ++ r := rfl
    rw [hdr]
    rcases hs with rfl | rfl | rfl
    · rw [List.nil_append, if_neg (by rw [hd1_ds hd hn r (by omega) (by omega)]; decide), ckP_ed hd hn hr]
      simp only [List.length_cons]; congr 1; omega
    · rw [if_pos (show hd1 43 45 (([43] ++ ed) ++ r) = true by rfl)]
      have : ((c :: ([43] ++ ed)) ++ r).drop 2 = ed ++ r := rfl
      rw [this, ckP_ed hd hn hr]
      simp only [List.length_cons, List.length_append, List.length_nil]; congr 1; omega
    · rw [if_pos (show hd1 43 45 (([45] ++ ed) ++ r) = true by rfl)]
      have : ((c :: ([45] ++ ed)) ++ r).drop 2 = ed ++ r := rfl
      rw [this, ckP_ed hd hn hr]
      simp only [List.length_cons, List.length_append, List.length_nil]; congr 1; omega
theorem hd46_ex {ex : List Int} (h : Ex ex) {r : List Int} (hr : ex = [] → hd1 46 46 r = false) : hd1 46 46 (ex ++ r) = false := by
  rcases h with _ | ⟨c, s, ed, hc, hs, hd, hn⟩
  · exact hr rfl
  · exact decide_eq_false (by omega)
theorem ckF_fp {fd ex : List Int} (hf : Ds fd) (h : Ex ex) {r : List Int} (hr : hdd r = false) (hr2 : ex = [] → hd1 101 69 r = false) (hr3 : fd = [] → ex = [] → hd1 46 46 r = false) (n : Nat) :
    ckF n (fp fd ++ ex ++ r) = (n + (fp fd).length + ex.length, 0) := by
  by_cases hfd : fd = []
  · subst hfd
    show ckF n (ex ++ r) = _
    unfold ckF
    rw [if_neg (by rw [hd46_ex h (hr3 rfl)]; decide), ckE_ex h hr hr2]; simp [fp]
  · have e : fp fd ++ ex ++ r = 46 :: (fd ++ (ex ++ r)) := by unfold fp; rw [if_neg hfd]; simp
    have hl : (fp fd).length = fd.length + 1 := by unfold fp; rw [if_neg hfd]; rfl
    rw [e, hl]
    unfold ckF
    rw [if_pos (show hd1 46 46 (46 :: (fd ++ (ex ++ r))) = true by rfl)]
    have hd : (46 :: (fd ++ (ex ++ r))).drop 1 = fd ++ (ex ++ r) := rfl
    rw [hd, if_pos (hdd_ds hf hfd _), rn_app hf, rn_zero (hdd_ex h hr)]
    simp only [Nat.add_zero]
    have hd2 : (46 :: (fd ++ (ex ++ r))).drop (1 + fd.length) = ex ++ r := by
      rw [Nat.add_comm, List.drop_succ_cons, List.drop_left]
    rw [hd2, ckE_ex h hr hr2]; congr 1; omega
theorem hdd_fp {fd ex : List Int} (h : Ex ex) {r : List Int} (hr : hdd r = false) : hdd (fp fd ++ ex ++ r) = false := by
  unfold fp
  by_cases hfd : fd = []
  · rw [if_pos hfd]; exact hdd_ex h hr
  · rw [if_neg hfd]; rfl
theorem ckI_ip {ip fd ex : List Int} (hi : Ip ip) (hf : Ds fd) (h : Ex ex) {r : List Int} (hr : hdd r = false) (hr2 : ex = [] → hd1 101 69 r = false) (hr3 : fd = [] → ex = [] → hd1 46 46 r = false) (n : Nat) :
    ckI n (ip ++ (fp fd ++ ex ++ r)) = (n + ip.length + (fp fd).length + ex.length, 0) := by
  obtain ⟨hd, hn, hh⟩ := hi
  unfold ckI
  rw [if_pos (hdd_ds hd hn _)]
  rcases hh with rfl | hh
  · rw [if_pos (show hd1 48 48 ([48] ++ (fp fd ++ ex ++ r)) = true by rfl)]
    have e : ([48] ++ (fp fd ++ ex ++ r)).drop 1 = fp fd ++ ex ++ r := rfl
    rw [e, ckF_fp hf h hr hr2 hr3]; rfl
  · have h0 : hd1 48 48 (ip ++ (fp fd ++ ex ++ r)) = false := by
      rcases ip with _ | ⟨x, ip⟩
      · exact absurd rfl hn
      · have hx : x ≠ 48 := fun e => hh (by rw [e]; rfl)
        exact decide_eq_false (by omega)
    rw [if_neg (by rw [h0]; decide), rn_app hd, rn_zero (hdd_fp h hr), Nat.add_zero, List.drop_left, ckF_fp hf h hr hr2 hr3]
/-- where it ends, whatever stands behind it that does not go on with it -/
theorem ck_mk {b : Bool} {ip fd ex : List Int} (hi : Ip ip) (hf : Ds fd) (h : Ex ex) {r : List Int} (hr : hdd r = false) (hr2 : ex = [] → hd1 101 69 r = false) (hr3 : fd = [] → ex = [] → hd1 46 46 r = false) (n : Nat) :
    ck n (mk b ip fd ex ++ r) = (n + (mk b ip fd ex).length, 0) := by
  have e : mk b ip fd ex ++ r = sg b ++ (ip ++ (fp fd ++ ex ++ r)) := by unfold mk; simp
  have hl : (mk b ip fd ex).length = (sg b).length + (ip.length + ((fp fd).length + ex.length)) := by unfold mk; simp
  rw [e, hl]
  unfold ck
  cases b with
  | true =>
    rw [if_pos (show hd1 45 45 (sg true ++ (ip ++ (fp fd ++ ex ++ r))) = true by rfl)]
    have hd : (sg true ++ (ip ++ (fp fd ++ ex ++ r))).drop 1 = ip ++ (fp fd ++ ex ++ r) := rfl
    rw [hd, ckI_ip hi hf h hr hr2 hr3]
    have : (sg true).length = 1 := rfl
    rw [this]; congr 1; omega
  | false =>
    have hd : sg false ++ (ip ++ (fp fd ++ ex ++ r)) = ip ++ (fp fd ++ ex ++ r) := rfl
    rw [hd, if_neg (by rw [hd1_ds hi.1 hi.2.1 _ (by omega) (by omega)]; decide), ckI_ip hi hf h hr hr2 hr3]
    have : (sg false).length = 0 := rfl
    rw [this]; congr 1; omega
theorem ck_mk0 {b : Bool} {ip fd ex : List Int} (hi : Ip ip) (hf : Ds fd) (h : Ex ex) : ck 0 (mk b ip fd ex) = ((mk b ip fd ex).length, 0) := by
  have := ck_mk (b := b) hi hf h (r := []) rfl (fun _ => rfl) (fun _ _ => rfl) 0
  rwa [List.append_nil, Nat.zero_add] at this
end Go.Proofs.YtjgkaccmfdjffaaDoor.Nu
