/-
  Plain mathematics of JSON's numbers: what the statements of layer 9 say of them. Nothing of the program is named here.
-/
import Derived.Test.YtjgkaccmfdjffaaDoorNf
namespace Go.Proofs.YtjgkaccmfdjffaaDoor.Nu
set_option linter.unusedVariables false
set_option linter.unusedSimpArgs false
open Dm (Ds vl decs)

theorem ds_one {x : Int} (h : 48 ≤ x ∧ x ≤ 57) : Ds [x] := fun y hy => by
  have : y = x := by simpa using hy
  subst this; exact h
theorem ds_cons {x : Int} {l : List Int} (h : 48 ≤ x ∧ x ≤ 57) (hl : Ds l) : Ds (x :: l) := fun y hy => by
  rcases List.mem_cons.1 hy with rfl | e
  · exact h
  · exact hl y e
theorem ex_decs (c : Int) (hc : c = 101 ∨ c = 69) (s : List Int) (hs : s = [] ∨ s = [43] ∨ s = [45]) (n : Nat) : Ex (c :: (s ++ decs n)) := Ex.some c s _ hc hs (Dm.ds_decs n) (Dm.decs_ne n)
theorem xp_decs {c : Int} {s : List Int} (hs : s = [] ∨ s = [43] ∨ s = [45]) {n : Nat} (hn : n < 10 ^ 15) : xp (c :: (s ++ decs n)) = some (if s = [45] then - (n : Int) else (n : Int)) := by
  have hl : (nz (decs n)).length ≤ 15 := Nat.le_trans (nz_length _) (decs_len hn (by omega))
  rw [xp_some hs (Dm.ds_decs n) (Dm.decs_ne n) hl, Dm.vl_decs]
/-- digits whose first one is no nought, and whose last one is none -/
theorem nice {x y : Int} (hx : x ≠ 48) (hy : y ≠ 48) (l : List Int) : nz (x :: (l ++ [y])) = x :: (l ++ [y]) ∧ ez (x :: (l ++ [y])) = x :: (l ++ [y]) ∧ tz (x :: (l ++ [y])) = 0 := by
  refine ⟨nz_other hx _, ?_, ?_⟩
  · have := ez_other hy (x :: l); rwa [List.cons_append] at this
  · have := tz_other hy (x :: l); rwa [List.cons_append] at this

/-! ### NumberMoved -/
section
variable {b : Bool} {p k : Nat} {u v : List Int}
/-- 1 and digits, a point, digits and 5, a power -/
def mx (b : Bool) (u v : List Int) (p : Nat) : List Int := mk b (49 :: u) (v ++ [53]) (101 :: ([] ++ decs p))
def my (b : Bool) (u v : List Int) (k : Nat) : List Int := mk b ((49 :: u) ++ (v ++ [53]) ++ List.replicate k 48) [] (69 :: ([45] ++ decs ((v ++ [53]).length + k)))
def mz (b : Bool) (u v : List Int) (k p : Nat) : List Int := mk b (49 :: u) ((v ++ [53]) ++ List.replicate k 48) (101 :: ([43] ++ ([48, 48, 48] ++ decs p)))
def mu (b : Bool) (u v : List Int) (p : Nat) : List Int := mk b [48] ((49 :: u) ++ (v ++ [53])) (101 :: ([] ++ decs (p + (49 :: u).length)))
theorem mvd (u v : List Int) : nz ((49 :: u) ++ (v ++ [53])) = (49 :: u) ++ (v ++ [53]) ∧ ez ((49 :: u) ++ (v ++ [53])) = (49 :: u) ++ (v ++ [53]) ∧ tz ((49 :: u) ++ (v ++ [53])) = 0 := by
  have := nice (x := 49) (y := 53) (by omega) (by omega) (u ++ v)
  rw [show 49 :: (u ++ v ++ [53]) = (49 :: u) ++ (v ++ [53]) by simp] at this
  exact this
theorem ip_49 {u : List Int} (hu : Ds u) : Ip (49 :: u) := ⟨ds_cons (by omega) hu, by simp, .inr (by simp)⟩
theorem ne49 (u v : List Int) : nz ((49 :: u) ++ v) ≠ [] := by rw [List.cons_append, nz_other (by omega)]; simp
theorem val_x (hu : Ds u) (hv : Ds v) (hp : p < 10 ^ 15) : val (mx b u v p) = some (b, (49 :: u) ++ (v ++ [53]), (p : Int) - ((v ++ [53]).length : Int)) := by
  have hf : Ds (v ++ [53]) := hv.append (ds_one (by omega))
  have := val_some (b := b) (ip_49 hu) hf (ex_decs 101 (.inl rfl) [] (.inl rfl) p) (ne49 _ _) (xp_decs (.inl rfl) hp) (d := (49 :: u) ++ (v ++ [53])) (z := 0) (by rw [(mvd u v).1]; exact (mvd u v).2.1) (by rw [(mvd u v).1]; exact (mvd u v).2.2)
  unfold mx; rw [this]
  simp only [reduceCtorEq, if_false]
  congr 3; omega
theorem val_y (hu : Ds u) (hv : Ds v) (hl : (v ++ [53]).length + k < 10 ^ 15) : val (my b u v k) = some (b, (49 :: u) ++ (v ++ [53]), - ((v ++ [53]).length : Int)) := by
  have hf : Ds ((49 :: u) ++ (v ++ [53]) ++ List.replicate k 48) := ((ds_cons (by omega) hu).append (hv.append (ds_one (by omega)))).append (Dm.ds_noughts k)
  have hi : Ip ((49 :: u) ++ (v ++ [53]) ++ List.replicate k 48) := ⟨hf, by simp, .inr (by simp)⟩
  have hn : nz ((49 :: u) ++ (v ++ [53]) ++ List.replicate k 48) = (49 :: u) ++ (v ++ [53]) ++ List.replicate k 48 := by rw [nz_app (ne49 _ _), (mvd u v).1]
  have hr := ez_reps ((49 :: u) ++ (v ++ [53])) k
  have := val_some (b := b) (fd := []) hi (fun x hx => by cases hx) (ex_decs 69 (.inr rfl) [45] (.inr (.inr rfl)) ((v ++ [53]).length + k)) (by rw [List.append_nil, hn]; simp) (xp_decs (.inr (.inr rfl)) hl) (d := (49 :: u) ++ (v ++ [53])) (z := k)
    (by rw [List.append_nil, hn, hr.1, (mvd u v).2.1]) (by rw [List.append_nil, hn, hr.2, (mvd u v).2.2, Nat.zero_add])
  unfold my; rw [this]; simp only [if_true, List.length_nil]
  congr 3; omega
theorem val_z (hu : Ds u) (hv : Ds v) (hp : p < 10 ^ 12) : val (mz b u v k p) = some (b, (49 :: u) ++ (v ++ [53]), (p : Int) - ((v ++ [53]).length : Int)) := by
  have hf : Ds ((v ++ [53]) ++ List.replicate k 48) := (hv.append (ds_one (by omega))).append (Dm.ds_noughts k)
  have hd : Ds ([48, 48, 48] ++ decs p) := (ds_cons (by omega) (ds_cons (by omega) (ds_one (by omega)))).append (Dm.ds_decs p)
  have hvd : vl ([48, 48, 48] ++ decs p) = p := by have := Dm.vl_nought 3 (decs p); rw [Dm.vl_decs] at this; exact this
  have hnz : (nz ([48, 48, 48] ++ decs p)).length ≤ 15 := by
    have e : nz ([48, 48, 48] ++ decs p) = nz (decs p) := nz_reps 3 _
    rw [e]; exact Nat.le_trans (nz_length _) (decs_len (Nat.lt_of_lt_of_le hp (by decide)) (by omega))
  have hx := xp_some (c := 101) (s := [43]) (.inr (.inl rfl)) hd (by simp) hnz
  rw [hvd, if_neg (by simp)] at hx
  have hr := ez_reps ((49 :: u) ++ (v ++ [53])) k
  have e0 : (49 :: u) ++ ((v ++ [53]) ++ List.replicate k 48) = (49 :: u) ++ (v ++ [53]) ++ List.replicate k 48 := by simp
  have hn : nz ((49 :: u) ++ (v ++ [53]) ++ List.replicate k 48) = (49 :: u) ++ (v ++ [53]) ++ List.replicate k 48 := by rw [nz_app (ne49 _ _), (mvd u v).1]
  have := val_some (b := b) (ip_49 hu) hf (Ex.some 101 [43] _ (.inl rfl) (.inr (.inl rfl)) hd (by simp)) (ne49 _ _) hx (d := (49 :: u) ++ (v ++ [53])) (z := k)
    (by rw [e0, hn, hr.1, (mvd u v).2.1]) (by rw [e0, hn, hr.2, (mvd u v).2.2, Nat.zero_add])
  unfold mz; rw [this, List.length_append, List.length_replicate]
  congr 3; omega
theorem val_u (hu : Ds u) (hv : Ds v) (hp : p + (49 :: u).length < 10 ^ 15) : val (mu b u v p) = some (b, (49 :: u) ++ (v ++ [53]), (p : Int) - ((v ++ [53]).length : Int)) := by
  have hf : Ds ((49 :: u) ++ (v ++ [53])) := (ds_cons (by omega) hu).append (hv.append (ds_one (by omega)))
  have hn : nz ([48] ++ ((49 :: u) ++ (v ++ [53]))) = (49 :: u) ++ (v ++ [53]) := by
    show nz (48 :: ((49 :: u) ++ (v ++ [53]))) = _
    rw [nz_zero, (mvd u v).1]
  have := val_some (b := b) ⟨ds_one (by omega), by simp, .inl rfl⟩ hf (ex_decs 101 (.inl rfl) [] (.inl rfl) (p + (49 :: u).length)) (by rw [hn]; simp) (xp_decs (.inl rfl) hp) (d := (49 :: u) ++ (v ++ [53])) (z := 0) (by rw [hn]; exact (mvd u v).2.1) (by rw [hn]; exact (mvd u v).2.2)
  unfold mu; rw [this, List.length_append]
  simp only [reduceCtorEq, if_false]
  congr 3; omega
end
theorem sam_yes {a b : List Int} {x : Bool × List Int × Int} (ha : val a = some x) (hb : val b = some x) : sam a b = true := by unfold sam; rw [ha, hb]; exact decide_eq_true rfl
theorem sam_no {a b : List Int} {x y : Bool × List Int × Int} (ha : val a = some x) (hb : val b = some y) (h : x ≠ y) : sam a b = false := by unfold sam; rw [ha, hb]; exact decide_eq_false h
end Go.Proofs.YtjgkaccmfdjffaaDoor.Nu
