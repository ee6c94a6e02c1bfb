/-
  Plain mathematics of JSON's numbers: the values of numbers put together of their parts. Nothing of the program is named here.
-/
import Derived.Test.YtjgkaccmfdjffaaDoorNe
namespace Go.Proofs.YtjgkaccmfdjffaaDoor.Nu
set_option linter.unusedVariables false
set_option linter.unusedSimpArgs false
open Dm (Ds vl decs)

/-- what the power of such a number is -/
def xp (ex : List Int) : Option Int := if ex = [] then some 0 else pw (ex.drop 1)
theorem takeWhile_app {p : Int → Bool} {a : List Int} (h : ∀ x ∈ a, p x = true) (b : List Int) : (a ++ b).takeWhile p = a ++ b.takeWhile p := by
  induction a with
  | nil => rfl
  | cons x a ih => rw [List.cons_append, List.takeWhile_cons, if_pos (h x (by simp)), ih (fun y hy => h y (by simp [hy]))]; rfl
theorem dropWhile_app {p : Int → Bool} {a : List Int} (h : ∀ x ∈ a, p x = true) (b : List Int) : (a ++ b).dropWhile p = b.dropWhile p := by
  induction a with
  | nil => rfl
  | cons x a ih => rw [List.cons_append, List.dropWhile_cons, if_pos (h x (by simp)), ih (fun y hy => h y (by simp [hy]))]
theorem ex_take {ex : List Int} (h : Ex ex) : ex.takeWhile nl = [] ∧ ex.dropWhile nl = ex := by
  rcases h with _ | ⟨c, s, ed, hc, hs, hd, hn⟩
  · exact ⟨rfl, rfl⟩
  · have hf : nl c = false := decide_eq_false (by omega)
    exact ⟨by rw [List.takeWhile_cons, if_neg (by rw [hf]; decide)], by rw [List.dropWhile_cons, if_neg (by rw [hf]; decide)]⟩
/-- what stands ahead of the power -/
def hd (b : Bool) (ip fd : List Int) : List Int := sg b ++ (ip ++ fp fd)
theorem mk_eq (b : Bool) (ip fd ex : List Int) : mk b ip fd ex = hd b ip fd ++ ex := by unfold mk hd; simp
theorem hd_nl {b : Bool} {ip fd : List Int} (hi : Ds ip) (hf : Ds fd) : ∀ x ∈ hd b ip fd, nl x = true := by
  intro x hx
  unfold hd at hx
  rcases List.mem_append.1 hx with h | h
  · cases b
    · cases h
    · have : x = 45 := by simpa [sg] using h
      subst this; rfl
  · rcases List.mem_append.1 h with h | h
    · have := hi x h; exact decide_eq_true (by omega)
    · unfold fp at h
      by_cases hfd : fd = []
      · rw [if_pos hfd] at h; cases h
      · rw [if_neg hfd] at h
        rcases List.mem_cons.1 h with rfl | h
        · rfl
        · have := hf x h; exact decide_eq_true (by omega)
theorem filter_ds {a : List Int} (h : Ds a) : a.filter dg = a := List.filter_eq_self.2 fun x hx => dg_yes (h x hx)
theorem filter_sg (b : Bool) : (sg b).filter dg = [] := by cases b <;> rfl
theorem filter_fp {fd : List Int} (h : Ds fd) : (fp fd).filter dg = fd := by
  unfold fp
  by_cases hfd : fd = []
  · rw [if_pos hfd, hfd]; rfl
  · rw [if_neg hfd, List.filter_cons, if_neg (by decide), filter_ds h]
theorem mk_dgs {b : Bool} {ip fd ex : List Int} (hi : Ds ip) (hf : Ds fd) (h : Ex ex) : dgs (mk b ip fd ex) = ip ++ fd := by
  unfold dgs
  rw [mk_eq, takeWhile_app (hd_nl hi hf), (ex_take h).1, List.append_nil]
  unfold hd
  rw [List.filter_append, List.filter_append, filter_sg, filter_ds hi, filter_fp hf]; rfl
theorem mk_frc {b : Bool} {ip fd ex : List Int} (hi : Ds ip) (hf : Ds fd) (h : Ex ex) : frc (mk b ip fd ex) = fd.length := by
  unfold frc
  rw [mk_eq, takeWhile_app (hd_nl hi hf), (ex_take h).1, List.append_nil]
  have e : (hd b ip fd).dropWhile np = fp fd := by
    unfold hd
    rw [← List.append_assoc, dropWhile_app]
    · unfold fp
      by_cases hfd : fd = []
      · rw [if_pos hfd]; rfl
      · rw [if_neg hfd, List.dropWhile_cons, if_neg (by decide)]
    · intro x hx
      rcases List.mem_append.1 hx with h | h
      · cases b
        · cases h
        · have : x = 45 := by simpa [sg] using h
          subst this; rfl
      · have := hi x h; exact decide_eq_true (by omega)
  rw [e, filter_fp hf]
theorem mk_xpo {b : Bool} {ip fd ex : List Int} (hi : Ds ip) (hf : Ds fd) (h : Ex ex) : xpo (mk b ip fd ex) = xp ex := by
  unfold xpo xp
  rw [mk_eq, dropWhile_app (hd_nl hi hf), (ex_take h).2]
theorem mk_sign {b : Bool} {ip fd ex : List Int} (hi : Ip ip) : hd1 45 45 (mk b ip fd ex) = b := by
  cases b
  · exact hd1_ds hi.1 hi.2.1 _ (by omega) (by omega)
  · rfl
/-- the value of a number put together of its parts -/
theorem val_mk {b : Bool} {ip fd ex : List Int} (hi : Ip ip) (hf : Ds fd) (h : Ex ex) : val (mk b ip fd ex) =
    if nz (ip ++ fd) = [] then some (false, [], 0) else match xp ex with
      | none => none
      | some v => some (b, ez (nz (ip ++ fd)), v - (fd.length : Int) + (tz (nz (ip ++ fd)) : Int)) := by
  unfold val
  rw [if_neg (fun g => g (ck_mk0 hi hf h)), mk_dgs hi.1 hf h, mk_frc hi.1 hf h, mk_xpo hi.1 hf h, mk_sign hi]
  rfl
theorem val_zero {b : Bool} {ip fd ex : List Int} (hi : Ip ip) (hf : Ds fd) (h : Ex ex) (h0 : nz (ip ++ fd) = []) : val (mk b ip fd ex) = some (false, [], 0) := by
  rw [val_mk hi hf h, if_pos h0]
theorem val_some {b : Bool} {ip fd ex : List Int} (hi : Ip ip) (hf : Ds fd) (h : Ex ex) (h0 : nz (ip ++ fd) ≠ []) {v : Int} (hv : xp ex = some v) {d : List Int} {z : Nat} (hd : ez (nz (ip ++ fd)) = d) (hz : tz (nz (ip ++ fd)) = z) :
    val (mk b ip fd ex) = some (b, d, v - (fd.length : Int) + (z : Int)) := by
  rw [val_mk hi hf h, if_neg h0, hv, hd, hz]
theorem xp_none : xp [] = some 0 := rfl
/-- what digits count, as a power -/
theorem pd_ds {ed : List Int} (hd : Ds ed) (hn : ed ≠ []) : pd ed = nz ed := by
  unfold pd
  have := hd1_ds hd hn [] (x := 43) (y := 45) (by omega) (by omega)
  rw [List.append_nil] at this
  rw [if_neg (by rw [this]; decide)]
theorem xp_some {c : Int} {s ed : List Int} (hs : s = [] ∨ s = [43] ∨ s = [45]) (hd : Ds ed) (hn : ed ≠ []) (hl : (nz ed).length ≤ 15) : xp (c :: (s ++ ed)) = some (if s = [45] then - vl ed else vl ed) := by
  have hnil : ∀ x y : Int, ¬ (48 ≤ x ∧ x ≤ 57) → ¬ (48 ≤ y ∧ y ≤ 57) → hd1 x y ed = false := fun x y hx hy => by
    have := hd1_ds hd hn [] hx hy; rwa [List.append_nil] at this
  unfold xp
  rw [if_neg (by simp)]
  show pw (s ++ ed) = _
  unfold pw
  rcases hs with rfl | rfl | rfl
  · rw [List.nil_append, pd_ds hd hn, if_neg (by omega), if_neg (by rw [hnil 45 45 (by omega) (by omega)]; decide), nz_vl, if_neg (by simp)]
  · have e : pd ([43] ++ ed) = nz ed := by unfold pd; rw [if_pos (show hd1 43 45 ([43] ++ ed) = true by rfl)]; rfl
    rw [e, if_neg (by omega), if_neg (show ¬ hd1 45 45 ([43] ++ ed) = true by rw [show hd1 45 45 ([43] ++ ed) = decide ((43 : Int) = 45 ∨ (43 : Int) = 45) from rfl]; decide), nz_vl, if_neg (by simp)]
  · have e : pd ([45] ++ ed) = nz ed := by unfold pd; rw [if_pos (show hd1 43 45 ([45] ++ ed) = true by rfl)]; rfl
    rw [e, if_neg (by omega), if_pos (show hd1 45 45 ([45] ++ ed) = true by rfl), nz_vl, if_pos rfl]
theorem ip_decs (n : Nat) : Ip (decs n) := by
  refine ⟨Dm.ds_decs n, Dm.decs_ne n, ?_⟩
  by_cases h : n = 0
  · subst h; left; rw [Dm.decs_one (by omega)]; rfl
  · right; exact Dm.decs_head (by omega)
theorem nz_decs {n : Nat} (h : 1 ≤ n) : nz (decs n) = decs n := by
  rcases hd : decs n with _ | ⟨x, t⟩
  · exact absurd hd (Dm.decs_ne n)
  · have := Dm.decs_head h
    rw [hd] at this
    exact nz_other (fun e => this (by rw [e]; rfl)) t
theorem decs_zero : decs 0 = [48] := by rw [Dm.decs_one (by omega)]; rfl
theorem decs_len {n k : Nat} (h : n < 10 ^ k) (hk : 1 ≤ k) : (decs n).length ≤ k := by
  by_cases h0 : n = 0
  · subst h0; rw [decs_zero]; exact hk
  · rcases hd : decs n with _ | ⟨x, t⟩
    · simp
    · have hh := Dm.decs_head (n := n) (by omega)
      rw [hd] at hh
      have hds := Dm.ds_decs n
      rw [hd] at hds
      have hg := Dm.vl_ge hds (fun e => hh (by rw [e]; rfl))
      rw [← hd, Dm.vl_decs] at hg
      rcases Nat.lt_or_ge t.length k with g | g
      · rw [List.length_cons]; omega
      · have h3 : 10 ^ k ≤ 10 ^ t.length := Nat.pow_le_pow_right (by omega) g
        have h4 : (10 : Nat) ^ t.length ≤ n := by exact_mod_cast hg
        omega
end Go.Proofs.YtjgkaccmfdjffaaDoor.Nu
