/-
  A reader in memory; what its take computes.
-/
import Derived.Test.YtigiiofiajhnlaaGreatDoorFb
namespace Go.Proofs.YtigiiofiajhnlaaGreatDoor
set_option linter.unusedVariables false
set_option linter.unusedSimpArgs false
open Go.RowKit Go.Shelf
namespace Fa
open Wd We Dm Dc Dd Hm Hb He Fm
attribute [local go_sem] Oper.semAt_some

/-- the block P is a reader: how it stands, what it has -/
def Rdr (w : World) (P : Nat) (st : Int) (v : Value) : Prop := w.heap[P]? = some (.cells #[.int .i64 st, v] 31 (0, 0))
theorem Rdr.lt {w : World} {P : Nat} {st : Int} {v : Value} (h : Rdr w P st v) : P < w.heap.size := (Array.getElem?_eq_some_iff.1 h).1
theorem Rdr.at0 {w : World} {P : Nat} {st : Int} {v : Value} (h : Rdr w P st v) : w.cell? ⟨P, 0, none⟩ = some (.int .i64 st) := by simp [World.cell?, show w.heap[P]? = _ from h]
theorem Rdr.at1 {w : World} {P : Nat} {st : Int} {v : Value} (h : Rdr w P st v) : w.cell? ⟨P, 1, none⟩ = some v := by simp [World.cell?, show w.heap[P]? = _ from h]
theorem Rdr.fz {w : World} {P : Nat} {st : Int} {v : Value} (h : Rdr w P st v) (j : Nat) : w.frozen? ⟨P, j, none⟩ = false := by simp [World.frozen?, show w.heap[P]? = _ from h]
theorem Rdr.stay {S : Nat → Prop} {w w' : World} {P : Nat} {st : Int} {v : Value} (h : Rdr w P st v) (hb : Stay S w w') (hs : ¬ S P) : Rdr w' P st v := (hb.block P h.lt hs).trans h
theorem Rdr.below {w w' : World} {P : Nat} {st : Int} {v : Value} (h : Rdr w P st v) (hb : Below w.heap.size w w') : Rdr w' P st v := (hb.block P h.lt).trans h
theorem Rdr.set0 {w : World} {P : Nat} {st : Int} {v : Value} (h : Rdr w P st v) (st' : Int) : Rdr (w.setCell ⟨P, 0, none⟩ (.int .i64 st')) P st' v := by
  have := set_cells (off := 0) h (.int .i64 st'); exact this
theorem Rdr.set1 {w : World} {P : Nat} {st : Int} {v : Value} (h : Rdr w P st v) (v' : Value) : Rdr (w.setCell ⟨P, 1, none⟩ v') P st v' := by
  have := set_cells (off := 1) h v'; exact this
theorem Rdr.not_row {w : World} {P : Nat} {st : Int} {v u : Value} (h : Rdr w P st v) {e : TypeId} {B m : Nat} {us : List Value} (hr : w.ownsRow B e 1 u m us) (hne : 31 ≠ e) : u.ownBlock ≠ some P := by
  intro hu
  rcases hr.2 with ⟨rfl, _⟩ | ⟨g, cap, cur, rfl, _, h1, _⟩
  · simp [Value.ownBlock] at hu
  · simp [Value.ownBlock] at hu
    subst hu
    rw [show w.heap[g]? = _ from h] at h1
    cases h1
    exact hne rfl

/-- a block that is no cells changes -/
theorem row_other {W W' : World} {B : Nat} {e : TypeId} {v : Value} {m : Nat} {xs : List Value} {row : Option Nat} (h : W.ownsRow B e 1 v m xs) (hg : W.grownBy W' row) (hr : ∀ r, row = some r → ∃ o : Obj, W.heap[r]? = some o ∧ o.isCells = false) : W'.ownsRow B e 1 v m xs := by
  refine h.kept hg ?_
  rcases h.2 with ⟨rfl, _⟩ | ⟨g, cap, cur, rfl, _, hgb, _⟩
  · exact .inl rfl
  · refine .inr fun e' => ?_
    obtain ⟨o, ho, hc⟩ := hr g (by simpa [Value.ownBlock] using e'.symm)
    rw [hgb] at ho; cases ho; cases hc
theorem OL.other {t e : TypeId} {X : Nat → Prop} {W W' : World} {B : Nat} {v : Value} {ls : List (List Int)} {row : Option Nat} (h : OL t e W B X v ls) (hg : W.grownBy W' row) (hr : ∀ r, row = some r → ∃ o : Obj, W.heap[r]? = some o ∧ o.isCells = false) : OL t e W' B X v ls := by
  obtain ⟨vs, h1, h2⟩ := h
  exact ⟨vs, row_other h1 hg hr, fun i l hi => by obtain ⟨x, h3, h4, h5⟩ := h2 i l hi; exact ⟨x, h3, row_other h4 hg hr, h5⟩⟩
theorem Boxed.oth {W W' : World} {B : Nat} {t : TypeId} {v : Value} {row : Option Nat} (h : Boxed W B t v) (hg : W.grownBy W' row) (hr : ∀ r, row = some r → ∃ o : Obj, W.heap[r]? = some o ∧ o.isCells = false) : Boxed W' B t v :=
  h.kept hg (fun e => by obtain ⟨o, ho, hc⟩ := hr B e.symm; rw [show W.heap[B]? = _ from h] at ho; cases ho; cases hc)

/-- what the variable rest holds behind the frames that came -/
def lastv {w : World} {M : Nat} (v : Value) (xs : List (Fr w M)) : Value := (xs.getLast?.map fun x => .slice x.A2 x.n2 x.c2).getD v
theorem lastv_nil {w : World} {M : Nat} (v : Value) : lastv (w := w) (M := M) v [] = v := rfl
theorem lastv_snoc {w : World} {M : Nat} (v : Value) (xs : List (Fr w M)) (x : Fr w M) : lastv v (xs ++ [x]) = .slice x.A2 x.n2 x.c2 := by simp [lastv]
theorem lastv_sl {w : World} {M : Nat} {A : Option Addr} {c : Nat} {l : List Int} (s : Sl .u8 w A l.length c l) (xs : List (Fr w M)) : ∃ A' n' c', lastv (.slice A l.length c) xs = .slice A' n' c' ∧ Sl .u8 w A' n' c' (lastr l xs) := by
  rcases List.eq_nil_or_concat xs with rfl | ⟨ys, x, rfl⟩
  · exact ⟨_, _, _, rfl, s⟩
  · rw [List.concat_eq_append, lastv_snoc, lastr_snoc]
    exact ⟨_, _, _, rfl, x.s2⟩

/-- between two rounds of take -/
def TI (w : World) (v : Value) {M : Nat} (pre : List (Fr w M)) (W : World) : Prop :=
  (∃ vb, Boxed W w.heap.size 23 vb ∧ OL 27 5 W (w.heap.size + 1 + 1) (fun _ => True) vb (pre.map Fr.b)) ∧ Boxed W (w.heap.size + 1) 27 (lastv v pre) ∧ Below w.heap.size w W
theorem ti_own (w : World) (v : Value) (M : Nat) {B : Nat} (hB : w.heap.size ≤ B) : OwnFrom B (fun (pre : List (Fr w M)) W => TI w v pre W) := by
  rintro pre W W' row ⟨⟨vb, h1, h2⟩, h3, h4⟩ hg hr
  have hr' : ∀ r, row = some r → ∃ o : Obj, W.heap[r]? = some o ∧ o.isCells = false := fun r e => (hr r e).2
  exact ⟨⟨vb, Boxed.oth h1 hg hr', OL.other h2 hg hr'⟩, Boxed.oth h3 hg hr', h4.grown hg h4.size (fun k e => Nat.le_trans hB (hr k e).1)⟩

theorem bytes_info : (Tryz.prog.info? 27).map (fun i => (i.zero, i.size, i.bytes)) = some (some (.slice none 0 0), 1, 24) := by kernel_rfl

set_option maxRecDepth 100000 in
set_option maxHeartbeats 4000000 in
theorem take_any (w : World) (P : Nat) (st : Int) (v : Value) (l : List Int) (B : Nat) (hB : B ≤ w.heap.size) (hr : Rdr w P st v) (ho : Wd.Own .u8 5 w B v l) (hl : IsB l) (hn : l.length ≤ 140737488500000) (env : Env w) :
    Calls Tryz.prog 13 #[.pointer (some ⟨P, 0, none⟩)] w fun e w' => ∃ vb v', e = .returned vb ∧ OL 27 5 w' w.heap.size (fun k => v'.ownBlock ≠ some k) vb (frs l).1 ∧ Rdr w' P st v' ∧ Wd.Own .u8 5 w' B v' (frs l).2 ∧ (v' = v ∨ ∀ g, v'.ownBlock = some g → w.heap.size ≤ g) ∧ Stay (fun k => k = P) w w' := by
  obtain ⟨i0, hi, hz0, hz1, hz2⟩ := info_parts bytes_info
  obtain ⟨A, c, rfl, s, hA⟩ := ho.sl
  have c1 := hr.at1
  have hP := hr.lt
  have R := Lib.hid hr
  have O := Lib.hid ho
  have S := Lib.hid s
  have HL := Lib.hid hl
  have E := Lib.hid env
  clear hr ho s hl env hA
  refine (callsIn_wide (n := 6)).1 (callsIn_of_wp_marks Tryz.func13 rfl trivial ?_ rfl)
  simp only [Tryz.ntmps13, List.size_toArray, List.length_cons, List.length_nil, Nat.reduceAdd, Nat.reduceSub, Array.replicate_succ, Array.replicate_zero, List.push_toArray, List.append_toArray, List.nil_append, List.cons_append]
  gi_wp2_with fail
  refine ⟨trivial, ?_⟩
  refine (frames_in _ _ _ _ _).mono ?_
  rintro r w' ⟨rfl, rfl⟩
  gi_wp2_with fail
  obtain ⟨W0, hW0⟩ : ∃ W0, (((w.alloc (.cells #[.slice none 0 0] 23)).alloc (.cells #[.slice A l.length c] 27)).alloc (.cells #[.slice A l.length c] 27)) = W0 := ⟨_, rfl⟩
  rw [hW0]
  have b0 : Boxed W0 w.heap.size 23 (.slice none 0 0) := by rw [← hW0]; exact ((Boxed.new w _ _).alloc _).alloc _
  have b1 : Boxed W0 (w.heap.size + 1) 27 (.slice A l.length c) := by
    rw [← hW0]
    have := Boxed.new (w.alloc (.cells #[.slice none 0 0] 23)) 27 (.slice A l.length c)
    rw [World.size_alloc] at this
    exact this.alloc _
  have b2 : Boxed W0 (w.heap.size + 1 + 1) 27 (.slice A l.length c) := by
    rw [← hW0]
    have := Boxed.new ((w.alloc (.cells #[.slice none 0 0] 23)).alloc (.cells #[.slice A l.length c] 27)) 27 (.slice A l.length c)
    rw [World.size_alloc, World.size_alloc] at this
    exact this
  have hsz : W0.heap.size = w.heap.size + 1 + 1 + 1 := by rw [← hW0]; simp
  have hb0 : Below w.heap.size w W0 := by rw [← hW0]; exact ((((Below.refl _ w).alloc (Nat.le_refl _) _).alloc (by simp) _).alloc (by simp; omega) _)
  clear hW0
  have hTI : TI (M := l.length) w (.slice A l.length c) [] W0 := ⟨⟨_, b0, OL.nil _ _ _ _ _⟩, b1, hb0⟩
  have HT := Lib.hid hTI
  clear hTI b0 b1
  refine wpIn_rangeFunc_ownG rfl (by decide) (gf := 35) (lb := #[.pointer (some ⟨w.heap.size + 1 + 1, 0, none⟩)]) rfl trivial (enters_of Tryz.func35 (by kernel_rfl) rfl)
    (frames_stops 5 (by decide) (w.heap.size + 1 + 1) l.length w A l.length c l S.out HL.out (Nat.le_refl _) E.out W0 hb0 (by omega) b2.cell)
    belowK_t (belowK_b (by omega)) (Below.refl _ _) (fun _ => rfl)
    (fun pre W => TI w (.slice A l.length c) pre W) (fun _ _ _ => False) (ti_own _ _ _ (by omega)) (fun _ _ _ _ _ hs _ _ => hs) HT.out
    (fun x => { tmps := #[.pointer (some ⟨P, 0, none⟩), undef, .slice none 0 0, .pointer (some ⟨w.heap.size, 0, none⟩), .pointer (some ⟨w.heap.size + 1, 0, none⟩), .slice x.A1 x.n1 x.c1, .slice x.A2 x.n2 x.c2, .pointer (some ⟨P, 0, none⟩), .pointer (some ⟨P, 0, none⟩), .pointer (some ⟨P, 1, none⟩), .slice A l.length c, .pointer (some ⟨P, 0, none⟩), .pointer (some ⟨P, 0, none⟩), .pointer (some ⟨P, 1, none⟩), .slice A l.length c, .func (.func 35) #[] #[.pointer (some ⟨w.heap.size + 1 + 1, 0, none⟩)], .slice x.A1 x.n1 x.c1, .slice x.A2 x.n2 x.c2, undef, undef, undef, undef, undef, undef, undef, undef, undef, undef, undef, undef, undef, undef, undef], defers := [] }) ?assign ?body ?done ?stop
  case assign =>
    intro l x W K hK
    simp only [encF]
    gi_wp2_with fail
    exact hK
  case body =>
    rintro q pre x W ⟨⟨vb, hv, hO⟩, hX, hB⟩ hlt
    have hfl := frs_len l
    have cv := hv.cell
    have hsz' := hB.size
    have HV := Lib.hid hv
    have HO := Lib.hid hO
    have HX := Lib.hid hX
    have HB := Lib.hid hB
    clear hv hO hX hB
    gi_wp2_with fail
    refine region_round (fun w' => w'.cell? ⟨w.heap.size, 0, none⟩ = some vb) [0, 1] (by kernel_rfl) (by kernel_rfl) ?hno ?_
    case hno => rintro ⟨_, _, h⟩; exact h
    have hS : W.drew.cell? ⟨w.heap.size, 0, none⟩ = some vb := cv
    refine any_takeD 0 18 vb rfl rfl (by kernel_rfl) (by kernel_rfl) (by kernel_rfl) (by kernel_rfl) (fun _ _ _ h => h) (by rfl) ?_ hS ?_
    · rintro w' q1; go_simp
    simp only [Act.put, List.setIfInBounds_toArray, List.set_cons_zero, List.set_cons_succ]
    refine any_takeD 1 19 (.slice x.A1 x.n1 x.c1) rfl rfl (by kernel_rfl) (by kernel_rfl) (by kernel_rfl) (by kernel_rfl) (fun _ _ _ h => h) (by rfl) ?_ hS ?_
    · rintro w' q1; go_simp
    simp only [Act.put, List.setIfInBounds_toArray, List.set_cons_zero, List.set_cons_succ]
    have hDB : Below w.heap.size w W.drew := Wd.below_drewN HB.out 1
    refine any_callD 2 20 (by kernel_rfl) rfl rfl (by rfl) (fn := 29) (args := #[.slice x.A1 x.n1 x.c1]) ?_ (clone_any _ _ _ _ W.drew (x.s1.below hDB) (by have := x.l1; omega)) ?_
    · go_simp
    rintro e w1 ⟨u, rfl, ho1, hb1⟩
    have hlow : w.heap.size + 1 < W.heap.size := HX.out.lt
    obtain ⟨Ac, cc, rfl, su, _⟩ := ho1.sl
    have V1 : Boxed w1 w.heap.size 23 vb := boxed_below (show Boxed W.drew _ _ _ from HV.out) hb1
    have X1 : Boxed w1 (w.heap.size + 1) 27 (lastv (.slice A l.length c) pre) := boxed_below (show Boxed W.drew _ _ _ from HX.out) hb1
    have O1 := Wd.OL.below (show OL _ _ W.drew _ _ _ _ from HO.out) hb1
    have hs1 : w.heap.size + 1 < w1.heap.size := Nat.lt_of_lt_of_le hlow hb1.size
    refine ⟨_, rfl, .inr V1.cell, ?_⟩
    simp only [Act.put, List.setIfInBounds_toArray, List.set_cons_zero, List.set_cons_succ]
    refine any_runD 3 21 (.slice (some ⟨w1.heap.size, 0, none⟩) 1 1) (w1.alloc (.cells #[.slice Ac x.b.length cc] 27)) (by kernel_rfl) rfl rfl (by rfl) ?_ (.inr ?_) ?_
    · go_simp
    · exact (V1.alloc _).cell
    simp only [Act.put, List.setIfInBounds_toArray, List.set_cons_zero, List.set_cons_succ]
    have O2 := Wd.OL.below O1 (Dd.below_alloc w1 (.cells #[.slice Ac x.b.length cc] 27))
    have o2 := (ho1.mono (B' := w.heap.size + 1 + 1) (show w.heap.size + 1 + 1 ≤ W.heap.size by omega)).below (Dd.below_alloc w1 (.cells #[.slice Ac x.b.length cc] 27)) (fun g hg => (ho1.lt hg).2)
    have V2 := V1.alloc (.cells #[.slice Ac x.b.length cc] 27)
    have X2 := X1.alloc (.cells #[.slice Ac x.b.length cc] 27)
    have k2 : KeepsFrom W0.heap.size W (w1.alloc (.cells #[.slice Ac x.b.length cc] 27)) := ((KeepsOthers.drew W).from _).trans ((keeps_below hb1).trans (keeps_below (Dd.below_alloc w1 _)))
    have hb2 : Below w.heap.size W (w1.alloc (.cells #[.slice Ac x.b.length cc] 27)) := ((Wd.below_drewN (Below.refl _ W) 1).trans (hb1.mono hsz')).alloc (by omega) _
    have hcell := cell_one_new w1 (.slice Ac x.b.length cc) 27
    have hsa : (w1.alloc (.cells #[.slice Ac x.b.length cc] 27)).heap.size = w1.heap.size + 1 := by simp
    generalize w1.alloc (.cells #[.slice Ac x.b.length cc] 27) = w2 at *
    obtain ⟨vs, hrow, hel⟩ := O2
    have hpl : (pre.map Fr.b).length = pre.length := by simp
    rw [hpl] at hrow
    refine any_appW 4 22 (by kernel_rfl) rfl rfl (by rfl) (.tmp 18) (.tmp 21) 23 rfl (w.heap.size + 1 + 1) 27 i0 _ 24 Tryz.underlying23 hi hz0 hz1 hz2 rfl vb pre.length vs rfl hrow ⟨w1.heap.size, 0, none⟩ 1 1 [.slice Ac x.b.length cc] rfl rfl hcell (by simp [Value.oneCell']) (by unfold maxLen; omega) (by omega) (by omega) ?_
    intro v' w3 hown' hgrow _
    have O3 : OL 27 5 w3 (w.heap.size + 1 + 1) (fun _ => True) v' (pre.map Fr.b ++ [x.b]) := ol_apps (by decide) (by rw [hpl]; exact hrow) hel (one_at o2 (fun _ _ => trivial)) (by rw [List.length_append, hpl]; exact hown') hgrow
    obtain ⟨g', cap', rfl⟩ := ownsRow_succ hown'
    have hvb : ∀ k, vb.ownBlock = some k → w.heap.size + 1 + 1 ≤ k := fun k hk => (World.ownsRow.lt hrow k hk).1
    have V3 := V2.kept hgrow (fun e => by have := hvb _ e.symm; omega)
    have X3 := X2.kept hgrow (fun e => by have := hvb _ e.symm; omega)
    have k3 := k2.trans ((keeps_grown hrow hgrow).from W0.heap.size)
    have hb3 := hb2.grown hgrow (by omega) (fun k e => by have := hvb k e; omega)
    have hs3 := hgrow.size
    refine ⟨.inr V3.cell, ?_⟩
    have fz := V3.frozen
    have cl := V3.cell
    simp only [Act.put, List.setIfInBounds_toArray, List.set_cons_zero, List.set_cons_succ]
    refine any_run0 5 (w3.setCell ⟨w.heap.size, 0, none⟩ (.slice (some ⟨g', 0, none⟩) (pre.length + 1) cap')) (by kernel_rfl) rfl rfl (by rfl) ?_ (.inl (late_of (by kernel_rfl))) ?_
    · go_simp
    refine any_done (by kernel_rfl) ?_ _
    have V4 := V3.set (.slice (some ⟨g', 0, none⟩) (pre.length + 1) cap')
    have X4 := X3.other (show w.heap.size + 1 ≠ w.heap.size by omega) (.slice (some ⟨g', 0, none⟩) (pre.length + 1) cap')
    have O4 := OL.stay O3 (S := fun k => k = w.heap.size) (Stay.set w3 (p := ⟨w.heap.size, 0, none⟩) (.slice (some ⟨g', 0, none⟩) (pre.length + 1) cap') rfl) (fun g hg c => by have := (OL.lt O3 g hg).1; omega) (fun k hk _ _ c => by omega)
    have k4 := k3.trans (keeps_set (B := W0.heap.size) w3 ⟨w.heap.size, 0, none⟩ (.slice (some ⟨g', 0, none⟩) (pre.length + 1) cap'))
    have hb4 := hb3.setCell (p := ⟨w.heap.size, 0, none⟩) (Nat.le_refl _) (.slice (some ⟨g', 0, none⟩) (pre.length + 1) cap')
    clear fz cl cv V3 X3 O3 k3 hb3 V2 X2 k2 hb2 V1 X1 O1 hS hcell hel hrow o2 su ho1 hown' hgrow hs3
    generalize w3.setCell ⟨w.heap.size, 0, none⟩ (.slice (some ⟨g', 0, none⟩) (pre.length + 1) cap') = w4 at *
    have HV4 := Lib.hid V4
    have HX4 := Lib.hid X4
    have HO4 := Lib.hid O4
    have HK4 := Lib.hid k4
    have HB4 := Lib.hid hb4
    have cl := X4.cell
    have fz := X4.frozen
    clear V4 X4 O4 k4 hb4
    gi_wp2_with fail
    refine ⟨HK4.out.trans (keeps_set _ _ _), HB4.out.setCell (p := ⟨w.heap.size + 1, 0, none⟩) (show w.heap.size ≤ w.heap.size + 1 by omega) _, ⟨_, HV4.out.other (by omega) _, ?_⟩, ?_, HB.out.trans (HB4.out.setCell (p := ⟨w.heap.size + 1, 0, none⟩) (show w.heap.size ≤ w.heap.size + 1 by omega) _)⟩
    · have := OL.stay HO4.out (S := fun k => k = w.heap.size + 1) (Stay.set w4 (p := ⟨w.heap.size + 1, 0, none⟩) (.slice x.A2 x.n2 x.c2) rfl) (fun g hg c => by have := (OL.lt HO4.out g hg).1; omega) (fun k hk _ _ c => by omega)
      rw [List.map_append, List.map_singleton]
      exact this
    · rw [lastv_snoc]; exact HX4.out.set _
  case done =>
    rintro D ys W hD ⟨hS1, hS2⟩ ⟨⟨vb, hv, hO⟩, hX, hB⟩ hK
    rw [hS1] at hO
    obtain ⟨A', n', c', e1, s1⟩ := lastv_sl S.out ys
    rw [e1] at hX
    rw [hS2] at s1
    have hys : (frs l).1 = [] → (frs l).2 = l := fun h => by
      rw [h] at hS1
      obtain rfl : ys = [] := by cases ys with
        | nil => rfl
        | cons y ys => simp at hS1
      exact hS2.symm
    have hfl := frs_len l
    have hs1 := s1.len
    obtain ⟨Ab, cb, rfl, _, _⟩ := OL.ll hO
    obtain ⟨m, hm⟩ : ∃ m, (frs l).1.length = m := ⟨_, rfl⟩
    have RW := Lib.hid (R.out.below hB)
    have c3 := (R.out.below hB).at1
    have f3 := (R.out.below hB).fz 1
    have cv := hv.cell
    have cX := hX.cell
    have hlow : w.heap.size + 1 < W.heap.size := hX.lt
    have hDP : P ≠ D := by omega
    have HM := Lib.hid hm
    have HO := Lib.hid hO
    have HB := Lib.hid hB
    have HK := Lib.hid hK
    have HY := Lib.hid hys
    have HS := Lib.hid s1
    have hbox : ∀ u, (W.setCell ⟨P, 1, none⟩ u).cell? ⟨w.heap.size, 0, none⟩ = W.cell? ⟨w.heap.size, 0, none⟩ := fun u => World.cell?_setCell_other _ _ _ _ (fun e => by injection e; omega)
    have HV := Lib.hid hv
    rw [hm] at cv
    clear hO hB hK hys hX s1 hS1 hS2 hbox hv
    by_cases h0 : m = 0
    · subst h0
      have hnil : (frs l).1 = [] := List.eq_nil_of_length_eq_zero hm
      have HN := Lib.hid hnil
      have h2 := Lib.hid (HY.out hnil)
      clear hnil hm hfl
      gi_wp2_with fail
      refine ⟨by simp, .inl ⟨_, _, rfl, run_takeDeferred HK.out, ?_⟩⟩
      refine ⟨_, results_tmp rfl _ _ _, _, _, rfl, ?_, ?_, ?_, .inl rfl, ?_⟩
      · have q := (OL.other HO.out (grownBy_putObj' W D (.deferred none)) (fun r e => by cases e; exact ⟨_, HK.out, rfl⟩)).low (show w.heap.size ≤ w.heap.size + 1 + 1 by omega)
        rw [HN.out] at q ⊢
        exact ⟨q.choose, q.choose_spec.1, fun i l hi => by simp at hi⟩
      · exact RW.out.stay (S := fun k => k = D) (Stay.grown (grownBy_putObj' W D (.deferred none)) (fun k e => by cases e; rfl)) hDP
      · rw [h2.out]
        exact O.out.below (B' := w.heap.size) (HB.out.trans (below_put W _ (by omega))) (fun g hg => (O.out.lt hg).2)
      · exact Stay.of_below _ (HB.out.trans (below_put W _ (by omega)))
    · have i1 : (0 : Int) < (m : Int) := by omega
      gi_wp2_with fail
      refine ⟨trivial, ?_⟩
      refine (callsIn_wide.2 (clone_any A' n' c' _ W (HS.out.below HB.out) (by omega))).mono ?_
      rintro e W3 ⟨u, rfl, ho3, hb3⟩
      obtain ⟨Au, cu, hu, _, _⟩ := ho3.sl
      rw [hs1] at hu
      subst hu
      have R3 := RW.out.below hb3
      have V3 := boxed_below HV.out hb3
      have O3 := OL.below (OL.bound HO.out) hb3
      have K3 := (hb3.block _ (Array.getElem?_eq_some_iff.1 HK.out).1).trans HK.out
      have hsz3 := hb3.size
      have hb30 := HB.out.trans (hb3.mono (show w.heap.size ≤ W.heap.size by omega))
      clear c3 f3 cv cX
      have c3 := R3.at1
      have f3 := R3.fz 1
      have cv := V3.cell
      rw [HM.out] at cv
      have HR3 := Lib.hid R3
      have HO3 := Lib.hid O3
      have HK3 := Lib.hid K3
      have HB3 := Lib.hid hb30
      have HW3 := Lib.hid ho3
      have hne : P ≠ w.heap.size := by omega
      have c4 := (World.cell?_setCell_other W3 ⟨P, 1, none⟩ ⟨w.heap.size, 0, none⟩ (.slice Au n' cu) (fun e => by injection e; omega)).trans cv
      clear R3 V3 O3 K3 hb3 hb30 ho3
      gi_wp2_with fail
      refine ⟨by simp, .inl ⟨_, _, rfl, run_takeDeferred ((Below.heap_setCell W3 ⟨P, 1, none⟩ _ D (by show D ≠ P; omega)).trans HK3.out), ?_⟩⟩
      refine ⟨_, results_tmp rfl _ _ _, _, .slice Au n' cu, rfl, ?_, ?_, ?_, .inr ?_, ?_⟩
      · have q1 := OL.stay HO3.out (S := fun k => k = P) (Stay.set W3 (p := ⟨P, 1, none⟩) (.slice Au n' cu) rfl) (fun g hg c => by have := (OL.lt HO3.out g hg).1; omega) (fun k hk _ _ c => by omega)
        have q2 := OL.other q1 (grownBy_putObj' (W3.setCell ⟨P, 1, none⟩ (.slice Au n' cu)) D (.deferred none)) (fun r e => by cases e; exact ⟨_, (Below.heap_setCell W3 ⟨P, 1, none⟩ _ D (by show D ≠ P; omega)).trans HK3.out, rfl⟩)
        have q3 := OL.mono (OL.low q2 (show w.heap.size ≤ w.heap.size + 1 + 1 by omega)) (Y := fun k => (Value.slice Au n' cu).ownBlock ≠ some k) (fun k hk c => by have := (HW3.out.lt c).1; omega)
        rw [HM.out] at q3
        exact q3
      · exact (HR3.out.set1 _).stay (S := fun k => k = D) (Stay.grown (grownBy_putObj' _ D (.deferred none)) (fun k e => by cases e; rfl)) hDP
      · have q1 := HW3.out.stay (S := fun k => k = P) (Stay.set W3 (p := ⟨P, 1, none⟩) (.slice Au n' cu) rfl) (fun g hg c => by have := (HW3.out.lt hg).1; omega)
        exact Wd.Own.mono (row_other q1 (grownBy_putObj' (W3.setCell ⟨P, 1, none⟩ (.slice Au n' cu)) D (.deferred none)) (fun r e => by cases e; exact ⟨_, (Below.heap_setCell W3 ⟨P, 1, none⟩ _ D (by show D ≠ P; omega)).trans HK3.out, rfl⟩)) (show B ≤ W.heap.size by omega)
      · intro g hg
        have := (HW3.out.lt hg).1
        omega
      · have q1 : Stay (fun k => k = P ∨ w.heap.size ≤ k) w W3 := Stay.of_below _ HB3.out
        have q2 := q1.trans (Stay.set W3 (p := ⟨P, 1, none⟩) (.slice Au n' cu) (.inl rfl))
        have q3 := q2.trans (Stay.grown (grownBy_putObj' (W3.setCell ⟨P, 1, none⟩ (.slice Au n' cu)) D (.deferred none)) (fun k e => by cases e; exact .inr (by omega)))
        exact q3.mono (fun k hk c => by rcases c with c | c <;> omega)
  case stop =>
    rintro D cc pre W hD _ h
    exact h.elim
end Fa
end Go.Proofs.YtigiiofiajhnlaaGreatDoor
