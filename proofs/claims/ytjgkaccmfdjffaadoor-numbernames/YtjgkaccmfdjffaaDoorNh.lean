/-
  Plain mathematics of JSON's numbers: noughts, whole numbers, unlike ones, places. Nothing of the program is named here.
-/
import Derived.Test.YtjgkaccmfdjffaaDoorNg
namespace Go.Proofs.YtjgkaccmfdjffaaDoor.Nu
set_option linter.unusedVariables false
set_option linter.unusedSimpArgs false
open Dm (Ds vl decs)

theorem ds_nil : Ds [] := fun x hx => by cases hx
theorem ip_0 : Ip [48] := ⟨ds_one (by omega), by simp, .inl rfl⟩
theorem mk_plain (ip : List Int) : mk false ip [] [] = ip := by simp [mk, sg, fp]
theorem nz_snoc {x : Int} (h : x ≠ 48) (l : List Int) : nz (l ++ [x]) = nz l ++ [x] := by
  induction l with
  | nil => exact nz_other h []
  | cons a l ih =>
    by_cases g : a = 48
    · subst g; rw [List.cons_append, nz_zero, nz_zero, ih]
    · rw [List.cons_append, nz_other g, nz_other g]; rfl
/-! ### NumberNoughts -/
theorem val_nought {b : Bool} {m : Nat} {ex : List Int} (h : Ex ex) : val (mk b [48] (List.replicate m 48) ex) = some (false, [], 0) :=
  val_zero ip_0 (Dm.ds_noughts m) h (by show nz (48 :: List.replicate m 48) = []; rw [nz_zero, nz_all])
theorem val_0 : val [48] = some (false, [], 0) := by have := val_nought (b := false) (m := 0) Ex.none; exact this
theorem val_other {m : Nat} {o : List Int} (ho : Ds o) : ∃ t z, z ≤ o.length ∧ val (mk false [48] (List.replicate m 48 ++ (49 :: o)) []) = some (false, 49 :: t, 0 - ((m + 1 + o.length : Nat) : Int) + (z : Int)) := by
  obtain ⟨t, ht⟩ := ez_head (x := 49) (by omega) o
  have hl := ez_length (49 :: o)
  rw [ht, List.length_cons, List.length_cons] at hl
  have hn : nz ([48] ++ (List.replicate m 48 ++ (49 :: o))) = 49 :: o := by
    show nz (48 :: (List.replicate m 48 ++ (49 :: o))) = _
    rw [nz_zero, nz_reps, nz_other (by omega)]
  refine ⟨t, tz (49 :: o), by omega, ?_⟩
  have := val_some (b := false) ip_0 ((Dm.ds_noughts m).append (ds_cons (x := 49) (by omega) ho)) Ex.none (by rw [hn]; simp) xp_none (d := 49 :: t) (z := tz (49 :: o)) (by rw [hn, ht]) (by rw [hn])
  rw [this]; simp only [List.length_append, List.length_replicate, List.length_cons]
  congr 3; omega
theorem itg_zero {l : List Int} (h : val l = some (false, [], 0)) : itg l = (0, true) := by unfold itg; rw [h]; rfl
theorem itg_below {l d : List Int} {b : Bool} {p : Int} (h : val l = some (b, d, p)) (hp : p < 0) : itg l = (0, false) := by unfold itg; rw [h]; exact if_pos (.inl hp)
theorem itg_none {l : List Int} (h : val l = none) : itg l = (0, false) := by unfold itg; rw [h]
/-! ### whole numbers -/
/-- a whole number's value, with a power -/
def vw (b : Bool) (v : Nat) (e : Int) : Bool × List Int × Int := if v = 0 then (false, [], 0) else (b, ez (decs v), e + (tz (decs v) : Int))
theorem val_whole {b : Bool} {v : Nat} {ex : List Int} (h : Ex ex) {e : Int} (he : xp ex = some e) : val (mk b (decs v) [] ex) = some (vw b v e) := by
  unfold vw
  by_cases h0 : v = 0
  · subst h0; rw [if_pos rfl, decs_zero]
    exact val_zero ip_0 ds_nil h rfl
  · have hn : nz (decs v ++ []) = decs v := by rw [List.append_nil, nz_decs (by omega)]
    rw [if_neg h0, val_some (ip_decs v) ds_nil h (by rw [hn]; exact Dm.decs_ne v) he (d := ez (decs v)) (z := tz (decs v)) (by rw [hn]) (by rw [hn])]
    simp only [List.length_nil]; congr 3; omega
theorem val_plain {b : Bool} (v : Nat) : val (mk b (decs v) [] []) = some (vw b v 0) := val_whole Ex.none xp_none
theorem val_dot {b : Bool} (v z : Nat) : val (mk b (decs v) (List.replicate z 48) []) = some (vw b v 0) := by
  unfold vw
  by_cases h0 : v = 0
  · subst h0; rw [if_pos rfl, decs_zero]; exact val_nought Ex.none
  · have hn : nz (decs v ++ List.replicate z 48) = decs v ++ List.replicate z 48 := by rw [nz_app (by rw [nz_decs (by omega)]; exact Dm.decs_ne v), nz_decs (by omega)]
    have hr := ez_reps (decs v) z
    rw [if_neg h0, val_some (ip_decs v) (Dm.ds_noughts z) Ex.none (by rw [hn]; simp [Dm.decs_ne v]) xp_none (d := ez (decs v)) (z := tz (decs v) + z) (by rw [hn, hr.1]) (by rw [hn, hr.2])]
    rw [List.length_replicate]; congr 3; omega
theorem val_moved {b : Bool} {v z : Nat} (h0 : v ≠ 0) (hz : z < 10 ^ 15) : val (mk b (decs v ++ List.replicate z 48) [] (101 :: ([45] ++ decs z))) = some (vw b v 0) := by
  unfold vw
  have hd : Ds (decs v ++ List.replicate z 48) := (Dm.ds_decs v).append (Dm.ds_noughts z)
  have hi : Ip (decs v ++ List.replicate z 48) := by
    refine ⟨hd, by simp [Dm.decs_ne v], .inr ?_⟩
    have := Dm.decs_head (n := v) (by omega)
    rcases hh : decs v with _ | ⟨x, t⟩
    · exact absurd hh (Dm.decs_ne v)
    · rw [hh] at this; simpa using this
  have hn : nz (decs v ++ List.replicate z 48 ++ []) = decs v ++ List.replicate z 48 := by rw [List.append_nil, nz_app (by rw [nz_decs (by omega)]; exact Dm.decs_ne v), nz_decs (by omega)]
  have hr := ez_reps (decs v) z
  rw [if_neg h0, val_some hi ds_nil (ex_decs 101 (.inl rfl) [45] (.inr (.inr rfl)) z) (by rw [hn]; simp [Dm.decs_ne v]) (xp_decs (.inr (.inr rfl)) hz) (d := ez (decs v)) (z := tz (decs v) + z) (by rw [hn, hr.1]) (by rw [hn, hr.2])]
  simp only [if_true, List.length_nil]; congr 3; omega
theorem vw_vl (v : Nat) : vl (ez (decs v)) * 10 ^ tz (decs v) = v := by rw [← vl_ez, Dm.vl_decs]
theorem itg_whole {l : List Int} {b : Bool} {v : Nat} (h : val l = some (vw b v 0)) (hv : v < 9007199254740992) : itg l = (if b then - (v : Int) else v, true) := by
  by_cases h0 : v = 0
  · subst h0
    have : vw b 0 0 = (false, [], 0) := if_pos rfl
    rw [this] at h
    rw [itg_zero h]; cases b <;> rfl
  · have e : vw b v 0 = (b, ez (decs v), 0 + (tz (decs v) : Int)) := if_neg h0
    rw [e] at h
    have hl := ez_length (decs v)
    have hl2 := decs_len (n := v) (k := 16) (by omega) (by omega)
    have hvl := vw_vl v
    have ht : (0 + (tz (decs v) : Int)).toNat = tz (decs v) := by omega
    unfold itg; rw [h]; dsimp only
    rw [ht, hvl, if_neg (by omega)]
theorem itg_big {l : List Int} {b : Bool} {v : Nat} (h : val l = some (vw b v 0)) (hv : 9007199254740992 ≤ v) : itg l = (0, false) := by
  have e : vw b v 0 = (b, ez (decs v), 0 + (tz (decs v) : Int)) := if_neg (by omega)
  rw [e] at h
  have hvl := vw_vl v
  have ht : (0 + (tz (decs v) : Int)).toNat = tz (decs v) := by omega
  unfold itg; rw [h]; dsimp only
  rw [ht, hvl, if_pos (by omega)]
theorem itg_half (v : Nat) : itg (mk false (decs v) [53] []) = (0, false) := by
  have hn : nz (decs v ++ [53]) = nz (decs v) ++ [53] := nz_snoc (by omega) _
  have := val_some (b := false) (ip_decs v) (ds_one (x := 53) (by omega)) Ex.none (by rw [hn]; simp) xp_none (d := nz (decs v) ++ [53]) (z := 0) (by rw [hn, ez_other (by omega)]) (by rw [hn, tz_other (by omega)])
  exact itg_below this (by simp)
theorem itg_tenth (v : Nat) : itg (decs v ++ [53] ++ (101 :: ([45] ++ [49]))) = (0, false) := by
  by_cases h0 : v = 0
  · subst h0; rw [decs_zero]; exact itg_none (by decide +kernel)
  · have hd : Ds (decs v ++ [53]) := (Dm.ds_decs v).append (ds_one (by omega))
    have hi : Ip (decs v ++ [53]) := by
      refine ⟨hd, by simp, .inr ?_⟩
      have := Dm.decs_head (n := v) (by omega)
      rcases hh : decs v with _ | ⟨x, t⟩
      · exact absurd hh (Dm.decs_ne v)
      · rw [hh] at this; simpa using this
    have hn : nz (decs v ++ [53] ++ []) = nz (decs v) ++ [53] := by rw [List.append_nil]; exact nz_snoc (by omega) _
    have h1 : decs 1 = [49] := by rw [Dm.decs_one (by omega)]; rfl
    have hx := xp_decs (c := 101) (s := [45]) (.inr (.inr rfl)) (n := 1) (by decide)
    have he := ex_decs 101 (.inl rfl) [45] (.inr (.inr rfl)) 1
    rw [h1] at hx he
    have := val_some (b := false) hi ds_nil he (by rw [hn]; simp) hx (d := nz (decs v) ++ [53]) (z := 0) (by rw [hn, ez_other (by omega)]) (by rw [hn, tz_other (by omega)])
    have e : mk false (decs v ++ [53]) [] (101 :: ([45] ++ [49])) = decs v ++ [53] ++ (101 :: ([45] ++ [49])) := by simp [mk, sg, fp]
    rw [e] at this
    exact itg_below this (by simp)
/-! ### NumberPlaces -/
theorem uc_app {a m r : List Int} {n : Nat} (h : ∀ k, ck k (m ++ r) = (k + n, 0)) : uc (a ++ (m ++ r)) (a.length : Int) = (((a.length + n : Nat) : Int), 0) := by
  have := uc_in (l := a ++ (m ++ r)) (p := a.length) (r := a.length + n) (e := 0) (by rw [List.length_append]; omega) (by rw [List.drop_left]; exact h _)
  exact this
/-- the number of NumberPlaces -/
def mp (u v t : List Int) : List Int := mk true (49 :: u) (v ++ [50]) (101 :: ([43] ++ (t ++ [51])))
theorem mp_ex {t : List Int} (ht : Ds t) : Ex (101 :: ([43] ++ (t ++ [51]))) := Ex.some 101 [43] _ (.inl rfl) (.inr (.inl rfl)) (ht.append (ds_one (by omega))) (by simp)
theorem places_no {a u v t : List Int} (hu : Ds u) (hv : Ds v) (ht : Ds t) {x : Int} (hx : ¬ (48 ≤ x ∧ x ≤ 57)) : uc (a ++ (mp u v t ++ [x])) (a.length : Int) = (((a.length + (mp u v t).length : Nat) : Int), 0) :=
  uc_app fun k => ck_mk (ip_49 hu) (hv.append (ds_one (x := 50) (by omega))) (mp_ex ht) (show hdd [x] = false from dg_no hx) (fun e => by cases e) (fun e => by simp at e) k
theorem places_yes {a u v t : List Int} (hu : Ds u) (hv : Ds v) (ht : Ds t) {x : Int} (hx : 48 ≤ x ∧ x ≤ 57) : uc (a ++ (mp u v t ++ [x])) (a.length : Int) = (((a.length + (mp u v t).length + 1 : Nat) : Int), 0) := by
  have e : mp u v t ++ [x] = mk true (49 :: u) (v ++ [50]) (101 :: ([43] ++ (t ++ [51] ++ [x]))) ++ [] := by simp [mp, mk]
  have hl : (mp u v t).length + 1 = (mk true (49 :: u) (v ++ [50]) (101 :: ([43] ++ (t ++ [51] ++ [x])))).length := by
    have := congrArg List.length e
    rw [List.append_nil, List.length_append] at this; exact this
  rw [e, Nat.add_assoc, hl]
  exact uc_app fun k => ck_mk (ip_49 hu) (hv.append (ds_one (x := 50) (by omega))) (Ex.some 101 [43] _ (.inl rfl) (.inr (.inl rfl)) ((ht.append (ds_one (x := 51) (by omega))).append (ds_one hx)) (by simp)) rfl (fun e => by cases e) (fun e => by simp at e) k
theorem places_all {u v t : List Int} (hu : Ds u) (hv : Ds v) (ht : Ds t) : uc (mp u v t) 0 = (((mp u v t).length : Int), 0) := by
  have := uc_in (l := mp u v t) (p := 0) (r := (mp u v t).length) (e := 0) (by omega) (by rw [List.drop_zero]; exact ck_mk0 (ip_49 hu) (hv.append (ds_one (x := 50) (by omega))) (mp_ex ht))
  exact this
/-! ### NumberUnlike -/
theorem vw_inj {x y : Nat} {e : Int} (h : vw false x e = vw false y e) : x = y := by
  by_cases hx : x = 0
  · by_cases hy : y = 0
    · omega
    · rw [show vw false x e = (false, [], 0) from if_pos hx, show vw false y e = (false, ez (decs y), e + (tz (decs y) : Int)) from if_neg hy] at h
      have hv := vw_vl y
      have h2 := congrArg (fun q => q.2.1) h
      dsimp only at h2
      rw [← h2, Dm.vl_nil, Int.zero_mul] at hv; omega
  · by_cases hy : y = 0
    · rw [show vw false y e = (false, [], 0) from if_pos hy, show vw false x e = (false, ez (decs x), e + (tz (decs x) : Int)) from if_neg hx] at h
      have hv := vw_vl x
      have h2 := congrArg (fun q => q.2.1) h
      dsimp only at h2
      rw [h2, Dm.vl_nil, Int.zero_mul] at hv; omega
    · rw [show vw false x e = (false, ez (decs x), e + (tz (decs x) : Int)) from if_neg hx, show vw false y e = (false, ez (decs y), e + (tz (decs y) : Int)) from if_neg hy] at h
      have h2 := congrArg (fun q => q.2.1) h
      have h3 := congrArg (fun q => q.2.2) h
      dsimp only at h2 h3
      have h4 : tz (decs x) = tz (decs y) := by omega
      have hv := vw_vl x
      rw [h2, h4, vw_vl y] at hv; omega
theorem sam_vw {a b : List Int} {x y : Nat} {e : Int} (ha : val a = some (vw false x e)) (hb : val b = some (vw false y e)) : sam a b = decide (x = y) := by
  by_cases h : x = y
  · subst h; rw [sam_yes ha hb, decide_eq_true rfl]
  · rw [sam_no ha hb (fun g => h (vw_inj g)), decide_eq_false h]
theorem sam_neg {a b : List Int} {x y : Nat} (ha : val a = some (vw true x 0)) (hb : val b = some (vw false y 0)) : sam a b = decide (x = 0 ∧ y = 0) := by
  by_cases hx : x = 0
  · have e1 : vw true x 0 = vw false 0 0 := by subst hx; rfl
    rw [e1] at ha
    rw [sam_vw ha hb]; by_cases hy : y = 0
    · rw [decide_eq_true (show 0 = y by omega), decide_eq_true ⟨hx, hy⟩]
    · rw [decide_eq_false (show ¬ 0 = y by omega), decide_eq_false (by omega)]
  · rw [decide_eq_false (by omega)]
    refine sam_no ha hb fun g => ?_
    rw [show vw true x 0 = (true, ez (decs x), 0 + (tz (decs x) : Int)) from if_neg hx] at g
    have h2 := congrArg (fun q => q.1) g
    unfold vw at h2
    split at h2 <;> (dsimp only at h2; exact Bool.noConfusion h2)
end Go.Proofs.YtjgkaccmfdjffaaDoor.Nu
