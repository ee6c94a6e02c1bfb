/-
  The walk of FrameAll.
-/
import Derived.Test.YtigiiofiajhnlaaGreatDoorFx
import Derived.Test.YtigiiofiajhnlaaGreatDoorFz
import Derived.LoopNIn
import Derived.LoopIn
import Derived.TacticsInMore
import Derived.Test.YtigiiofiajhnlaaGreatDoorWp
import Derived.Test.YtigiiofiajhnlaaGreatDoorWh
import Derived.Deep.DeepCutAuto
namespace Go.Proofs.YtigiiofiajhnlaaGreatDoor
set_option linter.unusedVariables false
set_option linter.unusedSimpArgs false
open Go.RowKit Go.ChangeShapes Go.WideShapes Go.Shelf
open Wd We Dm Dc Dd Hm Hb He Fm Fa
attribute [local go_sem] Oper.semAt_some

theorem Wd.LL.upto {w : World} {A : Option Addr} {n c k : Nat} {ls : List (List Int)} (h : LL w A n c ls) (hk : k ≤ n) : LL w A k c (ls.take k) :=
  ⟨by rw [List.length_take, h.len]; omega, by have := h.le; omega, h.max, h.nil, fun i l hi => by
    rw [List.getElem?_take] at hi
    split at hi
    · exact h.at_ i l hi
    · cases hi⟩

/-- what the loop holds: the bodies that it took lie in a box, the rest of what lay there stays -/
def Fa.AJ (W0 : World) (gb : Nat) (pre : List Cb) (V : World) : Prop :=
  (∃ vb, Boxed V gb 23 vb ∧ OL 27 5 V (W0.heap.size + 2 + 1) (fun _ => True) vb (pre.map Cb.l)) ∧ Stay (fun k => k = gb ∨ W0.heap.size ≤ k) W0 V
theorem Fa.aj_own (W0 : World) (gb : Nat) : OwnFrom W0.heap.size (Fa.AJ W0 gb) := by
  rintro pre V V' row ⟨⟨vb, h1, h2⟩, h3⟩ hg hr
  have hr' : ∀ r, row = some r → ∃ o : Obj, V.heap[r]? = some o ∧ o.isCells = false := fun r e => (hr r e).2
  exact ⟨⟨vb, Boxed.oth h1 hg hr', OL.other h2 hg hr'⟩, h3.trans (Stay.grown hg (fun k e => .inr (hr k e).1))⟩

set_option maxRecDepth 100000 in
set_option maxHeartbeats 8000000 in
theorem core_FrameAll (A0 : Option Addr) (n0 c0 : Nat) (l0 : List Int) (a1 : Int) (w : World) (s0 : Sl .u8 w A0 n0 c0 l0) (b0 : IsB l0) (hn : n0 ≤ 140737488351232) (h1 : -9223372036854775808 ≤ a1) (h2 : a1 ≤ 9223372036854775807) (env : Env w) :
    Calls Tryz.prog 9 #[.slice A0 n0 c0, .int .i64 a1] w fun e w' => e = .returned (.bool true) ∧ Below w.heap.size w w' := by
  obtain ⟨i0, hi, hz0, hz1, hz2⟩ := info_parts bytes_info
  have hl0 := s0.len
  have S0 := Lib.hid s0
  have IB := Lib.hid b0
  have E := Lib.hid env
  clear s0 b0 env
  refine (callsIn_wide (n := 6)).1 (callsIn_of_wp_marks Tryz.func9 rfl trivial ?_ rfl)
  simp only [Tryz.ntmps9, List.size_toArray, List.length_cons, List.length_nil, Nat.reduceAdd, Nat.reduceSub, Array.replicate_succ, Array.replicate_zero, List.push_toArray, List.append_toArray, List.nil_append, List.cons_append]
  refine wpIn_wide.2 ?_
  go_wp2_with fail
  refine (copy_wide _ _ _ _ w S0.out (by omega)).mono ?_
  rintro e w1 ⟨v1, rfl, o1, b1⟩
  obtain ⟨A1, cc1, rfl, t1, _⟩ := id o1.sl
  rw [hl0] at t1 ⊢
  have T1 := Lib.hid t1
  have S1 := Lib.hid (S0.out.below b1)
  have E1 := Lib.hid (E.out.below b1)
  have H1 := Lib.hid b1
  clear o1 t1 b1
  go_wp2_with fail
  refine (bodies_any A0 n0 c0 l0 w1 S1.out IB.out (by omega)).mono ?_
  rintro e w2 ⟨v2, u2, rfl, o2, _, b2⟩
  obtain ⟨A2, c2, rfl, l2, _⟩ := OL.ll o2
  have hfl := frs_len l0
  obtain ⟨M, hM⟩ : ∃ M, (frs l0).1.length = M := ⟨_, rfl⟩
  rw [hM] at l2 ⊢
  have hm2 : c2 ≤ 9223372036854775807 := by have := l2.max; unfold maxLen at this; omega
  have hmc : M ≤ c2 := l2.le
  have hM8 : M ≤ 7818749353340 := by omega
  have hbr := bring_any a1 ((M : Int) + 2) (by omega) (by omega) h1 h2
  obtain ⟨q, hq⟩ := Int.eq_ofNat_of_zero_le (Int.emod_nonneg a1 (b := (M : Int) + 2) (by omega))
  have hq2 := Int.emod_lt_of_pos a1 (b := (M : Int) + 2) (by omega)
  rw [hq] at hbr hq2
  have hqM : q < M + 2 := by omega
  have HBR := Lib.hid hbr
  have HM := Lib.hid hM
  have HFL := Lib.hid hfl
  have L2 := Lib.hid l2
  have H2 := Lib.hid (ext_trans H1.out b2)
  have H12 := Lib.hid b2
  clear hbr hq hq2 h1 h2 o2 l2 b2 hM hfl
  have T2 := Lib.hid (T1.out.below H12.out)
  go_wp2_with fail
  refine (HBR.out w2).mono ?_
  rintro e w3 ⟨rfl, rfl⟩
  go_wp2_with fail
  refine (callsIn_wide (n := 5)).1 (all_in _ _ _ _ _) |>.mono ?_
  rintro e w' ⟨rfl, rfl⟩
  go_wp2_with fail
  rw [seq_not_nil]
  go_wp2_with fail
  refine (callsIn_wide (n := 5)).1 (all_in _ _ _ _ _) |>.mono ?_
  rintro e w' ⟨rfl, rfl⟩
  go_wp2_with fail
  obtain ⟨W0, hW0⟩ : ∃ W0, ((((w2.alloc (.cells #[.int .i64 (q : Int)] 3)).alloc (.cells #[.slice none 0 0] 23)).alloc (.cells #[.slice A1 n0 cc1] 27)).alloc (.cells #[.slice A1 n0 cc1] 27)) = W0 := ⟨_, rfl⟩
  rw [hW0]
  have x0 : Boxed W0 w2.heap.size 3 (.int .i64 (q : Int)) := by rw [← hW0]; exact (((Boxed.new w2 _ _).alloc _).alloc _).alloc _
  have x1 : Boxed W0 (w2.heap.size + 1) 23 (.slice none 0 0) := by
    rw [← hW0]
    have := Boxed.new (w2.alloc (.cells #[.int .i64 (q : Int)] 3)) 23 (.slice none 0 0)
    rw [World.size_alloc] at this
    exact (this.alloc _).alloc _
  have x3 : Boxed W0 (w2.heap.size + 1 + 1 + 1) 27 (.slice A1 n0 cc1) := by
    rw [← hW0]
    have := Boxed.new (((w2.alloc (.cells #[.int .i64 (q : Int)] 3)).alloc (.cells #[.slice none 0 0] 23)).alloc (.cells #[.slice A1 n0 cc1] 27)) 27 (.slice A1 n0 cc1)
    rw [World.size_alloc, World.size_alloc, World.size_alloc] at this
    exact this
  have hsz : W0.heap.size = w2.heap.size + 1 + 1 + 1 + 1 := by rw [← hW0]; simp
  have hb0 : Below w2.heap.size w2 W0 := by rw [← hW0]; exact ((((Below.refl _ w2).alloc (Nat.le_refl _) _).alloc (by simp) _).alloc (by simp; omega) _).alloc (by simp; omega) _
  clear hW0
  have hs12 := H12.out.size
  have hs02 := H2.out.size
  have X0 := Lib.hid x0
  have X3 := Lib.hid x3
  have hbW := Lib.hid (ext_trans H2.out hb0)
  have hbW1 := Lib.hid (ext_trans H12.out hb0)
  have L3 := Lib.hid (L2.out.below hb0)
  have T3 := Lib.hid (T2.out.below hb0)
  have hb02 := Lib.hid hb0
  clear x0 x3 hb0
  refine (wpIn_wide (n := 6)).1 ?_
  refine rangeP (n := 6) (X := XC) (n₀ := w1.heap.size) (K := 1) rfl (by decide) (gf := 33) (lb := #[.pointer (some ⟨w2.heap.size + 1 + 1 + 1, 0, none⟩)]) rfl trivial (enters_of Tryz.func33 (by kernel_rfl) rfl)
    (all1_stops (w2.heap.size + 1 + 1 + 1) w1 A1 n0 cc1 l0 T1.out IB.out E1.out W0 hbW1.out (by omega) X3.out.cell) (by omega) xc_put (Below.refl _ _) (fun _ => rfl)
    (fun pre V => AJ W0 (w2.heap.size + 1) pre V ∧ pre.length ≤ q)
    (fun cc pre V => cc = .exit 0 ∧ ∃ pre0, (∃ x, pre = pre0 ++ [x]) ∧ pre0.length = q ∧ AJ W0 (w2.heap.size + 1) pre0 V) ?hI ?hIx ⟨⟨⟨_, x1, OL.nil _ _ _ _ _⟩, Stay.refl _ _⟩, Nat.zero_le _⟩
    (fun x => { tmps := #[Value.slice A0 n0 c0, Value.int IntKind.i64 a1, undef, undef, Value.bool false, Value.slice A1 n0 cc1, Value.slice A2 M c2, u2, Value.int IntKind.i64 (er (frs l0).2), Value.pointer (some { block := w2.heap.size, off := 0 }), Value.pointer (some { block := w2.heap.size + 1, off := 0 }), Value.slice x.A x.n x.c, undef, Value.slice A0 n0 c0, Value.slice A1 n0 cc1, Value.tuple #[Value.slice A2 M c2, u2, Value.int IntKind.i64 (er (frs l0).2)], Value.slice A0 n0 c0, Value.tuple #[Value.slice A2 M c2, u2, Value.int IntKind.i64 (er (frs l0).2)], Value.slice A2 M c2, u2, Value.int IntKind.i64 (er (frs l0).2), Value.int IntKind.i64 a1, Value.slice A2 M c2, Value.int IntKind.i64 (M : Int), Value.int IntKind.i64 ((M : Int) + 2), Value.int IntKind.i64 (q : Int), Value.slice A1 n0 cc1, Value.func (Fn.func 33) #[] #[Value.pointer (some { block := w2.heap.size + 1 + 1, off := 0 })], Value.bool false, Value.slice A1 n0 cc1, Value.func (Fn.func 33) #[] #[Value.pointer (some { block := w2.heap.size + 1 + 1 + 1, off := 0 })], Value.slice x.A x.n x.c, undef, undef, undef, undef, undef, undef, undef, undef, undef, undef, undef, undef, undef, undef, undef, undef, undef, undef, undef, undef, undef, undef, undef, undef, undef, undef, undef, undef, undef, undef, undef, undef, undef, undef, undef, undef, undef, undef, undef], defers := [] }) ?assign ?body ?done ?stop
  case hI => exact fun pre V V' row h hg hr => ⟨aj_own W0 _ pre V V' row h.1 hg hr, h.2⟩
  case hIx => exact fun cc pre V V' row h hg hr => ⟨h.1, by obtain ⟨p0, a1, a2, a3⟩ := h.2; exact ⟨p0, a1, a2, aj_own W0 _ p0 V V' row a3 hg hr⟩⟩
  case assign =>
    intro l x V K hK
    simp only [encC]
    gi_wp2_with fail
    exact hK
  case body =>
    rintro q' pre ⟨xA, xn, xc, xl⟩ V0 V hq ⟨r, hr⟩ ⟨⟨⟨vb, hv, hO⟩, hS⟩, hpq⟩ hKs hbV ⟨hx1, hx2, hx3, hx4⟩ hlt
    dsimp only at hx1 hx2 hx3 hx4 ⊢
    have V1 := boxed_below hv hbV
    have hst1 := hS.trans (Stay.of_below (fun k => k = w2.heap.size + 1 ∨ W0.heap.size ≤ k) hbV)
    have N1 : Boxed V w2.heap.size 3 (.int .i64 (q : Int)) := (hst1.block _ X0.out.lt (by omega)).trans X0.out
    have hszV := hbV.size
    have hcnt : pre.length + 1 ≤ 7818749353340 := by have := HM.out; omega
    have hlm : (pre.map Cb.l).length = pre.length := by simp
    obtain ⟨Ab, cb, hvb, _, _⟩ := OL.ll hO
    rw [hlm] at hvb
    subst hvb
    have cv := V1.cell
    have cn := N1.cell
    by_cases hpe : pre.length = q
    · have i1 : ((pre.length : Nat) : Int) = (q : Int) := by omega
      have HJ := Lib.hid (show AJ W0 (w2.heap.size + 1) pre V from ⟨⟨_, V1, OL.below hO hbV⟩, hst1⟩)
      clear hv hO hS V1 hst1 N1 hx1 hx2 hx3 hx4 hbV
      gi_wp2_with fail
      refine ⟨keeps_below (Below.refl _ _), rfl, pre, ⟨_, rfl⟩, hpe, HJ.out⟩
    · have i1 : ¬ ((pre.length : Nat) : Int) = (q : Int) := by omega
      have xo : Wd.Own .u8 5 V V0.heap.size (.slice xA xn xc) xl := hx1
      have OB := Lib.hid (OL.below (OL.mono (OL.bound hO) (Y := fun k => (Value.slice xA xn xc).ownBlock ≠ some k) (fun k h c => by have := (xo.lt c).1; omega)) hbV)
      have HVB := Lib.hid (OL.lt hO)
      have XO := Lib.hid xo
      have HV := Lib.hid V1
      have HST := Lib.hid hst1
      have HLM := Lib.hid hlm
      have HX2 := Lib.hid hx2
      obtain ⟨_, _, hxe, sx, _⟩ := xo.sl
      injection hxe with q1 q2 q3
      subst q1; subst q3
      rw [hx3] at sx
      have SX := Lib.hid sx
      clear hv hO hS V1 hst1 N1 hx1 hx2 hbV xo hlm sx q2
      gi_wp2_with fail
      refine region_round (fun w' => w'.cell? ⟨w2.heap.size + 1, 0, none⟩ = some (.slice Ab pre.length cb)) [0, 1] (by kernel_rfl) (by kernel_rfl) ?hno ?_
      case hno => rintro ⟨_, _, h⟩; exact h
      have hSc : V.drew.cell? ⟨w2.heap.size + 1, 0, none⟩ = some (.slice Ab pre.length cb) := cv
      refine any_takeD 0 36 (.slice Ab pre.length cb) rfl rfl (by kernel_rfl) (by kernel_rfl) (by kernel_rfl) (by kernel_rfl) (fun _ _ _ h => h) (by rfl) ?_ hSc ?_
      · rintro w' q1; go_simp
      simp only [Act.put, List.setIfInBounds_toArray, List.set_cons_zero, List.set_cons_succ]
      refine any_takeD 1 37 (.slice xA xn xc) rfl rfl (by kernel_rfl) (by kernel_rfl) (by kernel_rfl) (by kernel_rfl) (fun _ _ _ h => h) (by rfl) ?_ hSc ?_
      · rintro w' q1; go_simp
      simp only [Act.put, List.setIfInBounds_toArray, List.set_cons_zero, List.set_cons_succ]
      refine any_callD 2 38 (by kernel_rfl) rfl rfl (by rfl) (fn := 18) (args := #[.slice xA xn xc]) ?_ (copy_wide _ _ _ xl V.drew (SX.out.below (below_drew' (Below.refl _ _))) (by omega)) ?_
      · go_simp
      rintro e w4 ⟨u, rfl, ho1, hb1⟩
      obtain ⟨Ac, cc, rfl, su, _⟩ := ho1.sl
      have V4 : Boxed w4 (w2.heap.size + 1) 23 (.slice Ab pre.length cb) := boxed_below (show Boxed V.drew _ _ _ from HV.out) hb1
      have hb4 : Below V.heap.size V w4 := (below_drew' (Below.refl _ V)).trans hb1
      have hs4 := hb4.size
      refine ⟨_, rfl, .inr V4.cell, ?_⟩
      simp only [Act.put, List.setIfInBounds_toArray, List.set_cons_zero, List.set_cons_succ]
      refine any_runD 3 39 (.slice (some ⟨w4.heap.size, 0, none⟩) 1 1) (w4.alloc (.cells #[.slice Ac xl.length cc] 27)) (by kernel_rfl) rfl rfl (by rfl) ?_ (.inr ?_) ?_
      · go_simp
      · exact (V4.alloc _).cell
      simp only [Act.put, List.setIfInBounds_toArray, List.set_cons_zero, List.set_cons_succ]
      have hal := Dd.below_alloc w4 (.cells #[.slice Ac xl.length cc] 27)
      have hb5 : Below V.heap.size V (w4.alloc (.cells #[.slice Ac xl.length cc] 27)) := hb4.trans (hal.mono hs4)
      have O5 := OL.below OB.out hb5
      have XO5 := XO.out.below hb5 (fun g hg => (XO.out.lt hg).2)
      have o5 := (ho1.mono (B' := W0.heap.size + 2 + 1) (show W0.heap.size + 2 + 1 ≤ V.heap.size by omega)).below hal (fun g hg => (ho1.lt hg).2)
      have hxc : ∀ g, (Value.slice Ac xl.length cc).ownBlock = some g → (Value.slice xA xn xc).ownBlock ≠ some g := fun g hg c => by
        have h1 : V.heap.size ≤ g := (ho1.lt hg).1
        have := (XO.out.lt c).2
        omega
      have V5 := V4.alloc (.cells #[.slice Ac xl.length cc] 27)
      have k5 : KeepsFrom W0.heap.size V (w4.alloc (.cells #[.slice Ac xl.length cc] 27)) := keeps_below hb5
      have hcell := cell_one_new w4 (.slice Ac xl.length cc) 27
      have hsa : (w4.alloc (.cells #[.slice Ac xl.length cc] 27)).heap.size = w4.heap.size + 1 := by simp
      generalize w4.alloc (.cells #[.slice Ac xl.length cc] 27) = w5 at *
      obtain ⟨vs, hrow, hel⟩ := id O5
      rw [HLM.out] at hrow
      refine any_appW 4 40 (by kernel_rfl) rfl rfl (by rfl) (.tmp 36) (.tmp 39) 23 rfl (W0.heap.size + 2 + 1) 27 i0 _ 24 Tryz.underlying23 hi hz0 hz1 hz2 rfl (.slice Ab pre.length cb) pre.length vs rfl hrow ⟨w4.heap.size, 0, none⟩ 1 1 [.slice Ac xl.length cc] rfl rfl hcell (by simp [Value.oneCell']) (by unfold maxLen; omega) (by omega) (by omega) ?_
      intro v' w6 hown' hgrow hgn
      have O6 : OL 27 5 w6 (W0.heap.size + 2 + 1) (fun k => (Value.slice xA xn xc).ownBlock ≠ some k) v' (pre.map Cb.l ++ [xl]) := ol_apps (by decide) (by rw [HLM.out]; exact hrow) hel (one_at o5 hxc) (by rw [List.length_append, HLM.out]; exact hown') hgrow
      have V6 := V5.kept hgrow (fun e => by have := (HVB.out _ e.symm).1; omega)
      have XO6 := XO5.stay (S := fun k => (Value.slice Ab pre.length cb).ownBlock = some k) (Stay.grown hgrow (fun k e => e)) (fun g hg c => by have := (HVB.out _ c).2; have := (XO5.lt hg).1; omega)
      have k6 := k5.trans ((keeps_grown hrow hgrow).from W0.heap.size)
      have st6 : Stay (fun k => k = w2.heap.size + 1 ∨ (Value.slice Ab pre.length cb).ownBlock = some k) V w6 := (Stay.of_below _ hb5).trans (Stay.grown hgrow (fun k e => .inr e))
      have hnx : ∀ g, v'.ownBlock = some g → (Value.slice xA xn xc).ownBlock ≠ some g := fun g hg c => by
        have h1 := XO.out.lt c
        rcases hgn with e | ⟨g2, e, h2⟩
        · have := (HVB.out g (e ▸ hg)).2; omega
        · rw [e] at hg; injection hg with hg; omega
      obtain ⟨g', cap', rfl⟩ := ownsRow_succ hown'
      refine ⟨.inr V6.cell, ?_⟩
      have fz := V6.frozen
      have cl := V6.cell
      simp only [Act.put, List.setIfInBounds_toArray, List.set_cons_zero, List.set_cons_succ]
      refine any_run0 5 (w6.setCell ⟨w2.heap.size + 1, 0, none⟩ (.slice (some ⟨g', 0, none⟩) (pre.length + 1) cap')) (by kernel_rfl) rfl rfl (by rfl) ?_ (.inl (late_of (by kernel_rfl))) ?_
      · go_simp
      refine any_done (by kernel_rfl) ?_ _
      have V7 := V6.set (.slice (some ⟨g', 0, none⟩) (pre.length + 1) cap')
      have sb7 := Stay.set w6 (S := fun k => k = w2.heap.size + 1) (p := ⟨w2.heap.size + 1, 0, none⟩) (.slice (some ⟨g', 0, none⟩) (pre.length + 1) cap') rfl
      have O7 := OL.stay O6 sb7 (fun g hg c => by have := (OL.lt O6 g hg).1; omega) (fun k hk _ _ c => by omega)
      have XO7 := XO6.stay sb7 (fun g hg c => by have := (XO6.lt hg).1; omega)
      have k7 := k6.trans (keeps_set (B := W0.heap.size) w6 ⟨w2.heap.size + 1, 0, none⟩ (.slice (some ⟨g', 0, none⟩) (pre.length + 1) cap'))
      have st7 := st6.trans (sb7.mono (T := fun k => k = w2.heap.size + 1 ∨ (Value.slice Ab pre.length cb).ownBlock = some k) (fun k _ e => .inl e))
      have hs7 := st7.size
      clear fz cl cv cn V6 O6 k6 st6 XO6 V5 O5 k5 XO5 V4 hSc hcell hel hrow o5 su ho1 hown' hgrow sb7 hal hb5 hb4 hb1 hxc hsa
      generalize w6.setCell ⟨w2.heap.size + 1, 0, none⟩ (.slice (some ⟨g', 0, none⟩) (pre.length + 1) cap') = w7 at *
      have HV7 := Lib.hid V7
      have HO7 := Lib.hid O7
      have HK7 := Lib.hid k7
      have HS7 := Lib.hid st7
      have HX7 := Lib.hid XO7
      have HNX := Lib.hid hnx
      clear V7 O7 k7 st7 XO7 hnx
      gi_wp2
      gi_loopw [12] (fun ix wr => ∃ (j : Nat) (l' : List Int), ix = .int .i64 j ∧ j ≤ xn ∧ l'.length = xn ∧ Hid (IsB l') ∧ Hid (Wd.Own .u8 5 wr V0.heap.size (.slice xA xn xc) l') ∧ Hid (Stay (fun q => (Value.slice xA xn xc).ownBlock = some q) w7 wr) ∧ Hid (KeepsFrom W0.heap.size w7 wr)) (fun ix _ => xn - (intOf ix).toNat)
      case atStart => exact ⟨0, xl, rfl, Nat.zero_le _, hx3, HX2, HX7, Lib.hid (Stay.refl _ _), Lib.hid (keeps_below (Below.refl _ _))⟩
      case round =>
        obtain ⟨j, l', rfl, hj, hl', hil, hio, hst, hkf⟩ := hrel
        by_cases hjm : j < xn
        · have j1 : (j : Int) < (xn : Int) := by omega
          obtain ⟨g0, rfl, hg0, hfz, hcell⟩ := Own.byte hio.out (show j < l'.length by omega)
          obtain ⟨y, hy0⟩ : ∃ y, l'[j]'(by omega) = y := ⟨_, rfl⟩
          have hyb : 0 ≤ y ∧ y ≤ 255 := by rw [← hy0]; exact hil.out _ (List.getElem_mem _)
          rw [hy0] at hcell
          have HYB := Lib.hid hyb
          clear hy0 hyb
          gi_wp2_with fail
          have hy := xor_byte HYB.out
          obtain ⟨l2, e1, e2, e3⟩ := Wd.Own.put hio.out g0 j hy hil.out
          refine ⟨⟨j + 1, l2, by go_num, by omega, by omega, Lib.hid e2, Lib.hid e3, Lib.hid (hst.out.trans (Stay.set _ (p := ⟨g0, j, none⟩) _ rfl)), Lib.hid (hkf.out.trans (keeps_set _ _ _))⟩, by simp [intOf]; omega⟩
        · obtain rfl : j = xn := by omega
          have j1 : ¬ (j : Int) < (j : Int) := by omega
          gi_wp2_with fail
          have stE : Stay (fun k => (k = w2.heap.size + 1 ∨ (Value.slice Ab pre.length cb).ownBlock = some k) ∨ (Value.slice xA j xc).ownBlock = some k) V wr := (HS7.out.mono (fun k _ h => .inl h)).trans (hst.out.mono (fun k _ h => .inr h))
          have hXL : ∀ k, (Value.slice xA j xc).ownBlock = some k → V0.heap.size ≤ k := fun k hk => (HX7.out.lt hk).1
          refine ⟨(by have := HK7.out.trans hkf.out; first | exact this | (rw [← hsz]; exact this)), KpO.of_stay stE (by omega) (by omega) (fun k hk => by rcases hk with (e | e) | e; omega; have := (HVB.out k e).1; omega; have := hXL k e; omega) (fun k hk => by rcases hk with (e | e) | e; omega; have := (HVB.out k e).1; omega; have := hXL k e; omega), ⟨⟨_, (hst.out.block _ HV7.out.lt (fun c => by have := hXL _ c; omega)).trans HV7.out, ?_⟩, ?_⟩, ?_⟩
          · have := OL.stay HO7.out hst.out (fun g hg c => HNX.out g hg c) (fun k _ _ h c => h c)
            rw [List.map_append, List.map_singleton]
            exact OL.mono this (fun _ _ => trivial)
          · exact HST.out.trans (stE.mono (fun k _ h => by rcases h with (e | e) | e; exact .inl e; exact .inr (by have := (HVB.out k e).1; omega); exact .inr (by have := hXL k e; omega)))
          · rw [List.length_append]; simp; omega
  case done =>
    rintro D ys V hD hS1 ⟨⟨⟨vb, hv, hO⟩, hS⟩, hpq⟩ hK
    obtain ⟨K, hK0⟩ : ∃ K, K = min q M := ⟨_, rfl⟩
    have hyl : ys.length = M := by have := congrArg List.length hS1; simp at this; rw [this]; exact HM.out
    rw [hS1] at hO
    have hKM : K = M := by omega
    have hG : (frs l0).1 = (frs l0).1.take K := by rw [List.take_of_length_le]; have := HM.out; omega
    obtain ⟨Ab, cb, rfl, lb, _⟩ := OL.ll hO
    rw [HM.out, ← hKM] at lb hv
    rw [hG] at lb
    have hlb : K ≤ cb := lb.le
    clear hO hS1 hG
    have CV := Lib.hid (show V.cell? ⟨w2.heap.size + 1, 0, none⟩ = some (.slice Ab K cb) from hv.cell)
    have CN := Lib.hid (show V.cell? ⟨w2.heap.size, 0, none⟩ = some (.int .i64 (q : Int)) from (show Boxed V w2.heap.size 3 (.int .i64 (q : Int)) from (hS.block _ X0.out.lt (by omega)).trans X0.out).cell)
    have hlv : w2.heap.size + 1 < V.heap.size := hv.lt
    have HBV := Lib.hid (hbW.out.trans (hS.below (by omega) (fun k e => by rcases e with e | e <;> omega)))
    have HB2 : Below w2.heap.size w2 V := hb02.out.trans (hS.below (B := w2.heap.size) (by omega) (fun k e => by rcases e with e | e <;> omega))
    have l4 := (L2.out.below HB2).upto (show K ≤ M by omega)
    have t4 := T2.out.below HB2
    have s4 := S0.out.below HBV.out
    have SAME : Hid (∀ V', Below V.heap.size V V' → Calls Tryz.prog 20 #[.slice Ab K cb, .slice A2 K c2] V' fun e w' => e = .returned (.bool true) ∧ Below V.heap.size V w') := fun V' hV => (same_any _ _ _ _ _ _ _ _ V' (lb.below hV) (l4.below hV)).mono (by
      rintro e w' ⟨rfl, p, rfl⟩; exact ⟨by simp, Wd.below_drewN hV p⟩)
    have EQ : Hid (∀ V', Below V.heap.size V V' → Calls Tryz.prog 22 #[.slice A1 n0 cc1, .slice A0 n0 c0] V' fun e w' => e = .returned (.bool true) ∧ Below V.heap.size V w') := fun V' hV => (eq_any _ _ _ _ _ _ l0 l0 V' ((t4.below hV).row) ((s4.below hV).row) (by unfold maxLen; omega)).mono (by
      rintro e w' ⟨rfl, p, rfl⟩; exact ⟨by simp, Wd.below_drewN hV p⟩)
    have AWAKE : Hid (∀ V', Below V.heap.size V V' → Calls Tryz.prog 10 #[] V' fun e w' => e = .returned (.bool true) ∧ Below V.heap.size V w') := fun V' hV => (awake7 V' (E.out.below (ext_trans HBV.out hV))).mono (by
      rintro e w' ⟨rfl, hb⟩; exact ⟨rfl, ext_trans hV hb⟩)
    have HK := Lib.hid hK
    have hmin : min (q : Int) (M : Int) = (K : Int) := by omega
    have i1 : (0 : Int) ≤ (K : Int) := by omega
    have i2 : (K : Int) ≤ (c2 : Int) := by omega
    have HS : Hid (∀ w', Below V.heap.size V w' → w'.cell? ⟨w2.heap.size + 1, 0, none⟩ = some (.slice Ab K cb) ∧ w'.cell? ⟨w2.heap.size, 0, none⟩ = some (.int .i64 (q : Int)) ∧ Below V.heap.size V w') := fun w' h => ⟨(h.cell (p := ⟨w2.heap.size + 1, 0, none⟩) hlv).trans CV.out, (h.cell (p := ⟨w2.heap.size, 0, none⟩) (by show w2.heap.size < V.heap.size; omega)).trans CN.out, h⟩
    clear hv lb hS hK l4 t4 s4 HB2 hK0 hKM hyl
    go_upto_region 15 with fail
    have hSd := HS.out V.drew (below_drew' (Below.refl _ V))
    refine region_calm (fun w' => w'.cell? ⟨w2.heap.size + 1, 0, none⟩ = some (.slice Ab K cb) ∧ w'.cell? ⟨w2.heap.size, 0, none⟩ = some (.int .i64 (q : Int)) ∧ Below V.heap.size V w') [0, 1, 2, 3, 4, 5, 6, 8, 9, 10, 12, 13, 15, 16] (by kernel_rfl) ?_
    refine any_takeD 0 55 (.slice Ab K cb) rfl rfl (by kernel_rfl) (by kernel_rfl) (by kernel_rfl) (by kernel_rfl) (fun _ _ _ h => h) (by rfl) ?_ hSd ?_
    · rintro w' ⟨q1, q2, q3⟩; go_simp
    simp only [Act.put, List.setIfInBounds_toArray, List.set_cons_zero, List.set_cons_succ]
    refine any_takeD 1 56 (.slice A2 M c2) rfl rfl (by kernel_rfl) (by kernel_rfl) (by kernel_rfl) (by kernel_rfl) (fun _ _ _ h => h) (by rfl) ?_ hSd ?_
    · rintro w' ⟨q1, q2, q3⟩; go_simp
    simp only [Act.put, List.setIfInBounds_toArray, List.set_cons_zero, List.set_cons_succ]
    refine any_takeD 2 57 (.int .i64 (q : Int)) rfl rfl (by kernel_rfl) (by kernel_rfl) (by kernel_rfl) (by kernel_rfl) (fun _ _ _ h => h) (by rfl) ?_ hSd ?_
    · rintro w' ⟨q1, q2, q3⟩; go_simp
    simp only [Act.put, List.setIfInBounds_toArray, List.set_cons_zero, List.set_cons_succ]
    refine any_takeD 3 58 (.slice A2 M c2) rfl rfl (by kernel_rfl) (by kernel_rfl) (by kernel_rfl) (by kernel_rfl) (fun _ _ _ h => h) (by rfl) ?_ hSd ?_
    · rintro w' ⟨q1, q2, q3⟩; go_simp
    simp only [Act.put, List.setIfInBounds_toArray, List.set_cons_zero, List.set_cons_succ]
    refine any_takeD 4 59 (.int .i64 (M : Int)) rfl rfl (by kernel_rfl) (by kernel_rfl) (by kernel_rfl) (by kernel_rfl) (fun _ _ _ h => h) (by rfl) ?_ hSd ?_
    · rintro w' ⟨q1, q2, q3⟩; go_simp
    simp only [Act.put, List.setIfInBounds_toArray, List.set_cons_zero, List.set_cons_succ]
    refine any_takeD 5 60 (.int .i64 (K : Int)) rfl rfl (by kernel_rfl) (by kernel_rfl) (by kernel_rfl) (by kernel_rfl) (fun _ _ _ h => h) (by rfl) ?_ hSd ?_
    · rintro w' ⟨q1, q2, q3⟩; go_simp
    simp only [Act.put, List.setIfInBounds_toArray, List.set_cons_zero, List.set_cons_succ]
    refine any_takeD 6 61 (.slice A2 K c2) rfl rfl (by kernel_rfl) (by kernel_rfl) (by kernel_rfl) (by kernel_rfl) (fun _ _ _ h => h) (by rfl) ?_ hSd ?_
    · rintro w' ⟨q1, q2, q3⟩; go_simp
    simp only [Act.put, List.setIfInBounds_toArray, List.set_cons_zero, List.set_cons_succ]
    refine any_callD 7 62 (by kernel_rfl) rfl rfl (by rfl) (fn := 20) (args := #[.slice Ab K cb, .slice A2 K c2]) ?_ (SAME.out V.drew (below_drew' (Below.refl _ V))) ?_
    · go_simp
    rintro e V7 ⟨rfl, hbV7⟩
    have hSV7 := HS.out V7 hbV7
    refine ⟨_, rfl, .inr hSV7, ?_⟩
    simp only [Act.put, List.setIfInBounds_toArray, List.set_cons_zero, List.set_cons_succ]
    refine any_takeD 8 63 (.bool true) rfl rfl (by kernel_rfl) (by kernel_rfl) (by kernel_rfl) (by kernel_rfl) (fun _ _ _ h => h) (by rfl) ?_ hSV7 ?_
    · rintro w' ⟨q1, q2, q3⟩; go_simp
    simp only [Act.put, List.setIfInBounds_toArray, List.set_cons_zero, List.set_cons_succ]
    refine any_takeD 9 64 (.slice A1 n0 cc1) rfl rfl (by kernel_rfl) (by kernel_rfl) (by kernel_rfl) (by kernel_rfl) (fun _ _ _ h => h) (by rfl) ?_ hSV7 ?_
    · rintro w' ⟨q1, q2, q3⟩; go_simp
    simp only [Act.put, List.setIfInBounds_toArray, List.set_cons_zero, List.set_cons_succ]
    refine any_takeD 10 65 (.slice A0 n0 c0) rfl rfl (by kernel_rfl) (by kernel_rfl) (by kernel_rfl) (by kernel_rfl) (fun _ _ _ h => h) (by rfl) ?_ hSV7 ?_
    · rintro w' ⟨q1, q2, q3⟩; go_simp
    simp only [Act.put, List.setIfInBounds_toArray, List.set_cons_zero, List.set_cons_succ]
    refine any_callD 11 66 (by kernel_rfl) rfl rfl (by rfl) (fn := 22) (args := #[.slice A1 n0 cc1, .slice A0 n0 c0]) ?_ (EQ.out V7 hbV7) ?_
    · go_simp
    rintro e V8 ⟨rfl, hbV8⟩
    have hSV8 := HS.out V8 hbV8
    refine ⟨_, rfl, .inr hSV8, ?_⟩
    simp only [Act.put, List.setIfInBounds_toArray, List.set_cons_zero, List.set_cons_succ]
    refine any_takeD 12 67 (.bool true) rfl rfl (by kernel_rfl) (by kernel_rfl) (by kernel_rfl) (by kernel_rfl) (fun _ _ _ h => h) (by rfl) ?_ hSV8 ?_
    · rintro w' ⟨q1, q2, q3⟩; go_simp
    simp only [Act.put, List.setIfInBounds_toArray, List.set_cons_zero, List.set_cons_succ]
    refine any_takeD 13 68 (.bool true) rfl rfl (by kernel_rfl) (by kernel_rfl) (by kernel_rfl) (by kernel_rfl) (fun _ _ _ h => h) (by rfl) ?_ hSV8 ?_
    · rintro w' ⟨q1, q2, q3⟩; go_simp
    simp only [Act.put, List.setIfInBounds_toArray, List.set_cons_zero, List.set_cons_succ]
    refine any_callD 14 69 (by kernel_rfl) rfl rfl (by rfl) (fn := 10) (args := #[]) ?_ (AWAKE.out V8 hbV8) ?_
    · go_simp
    rintro e V9 ⟨rfl, hbV9⟩
    have hSV9 := HS.out V9 hbV9
    refine ⟨_, rfl, .inr hSV9, ?_⟩
    simp only [Act.put, List.setIfInBounds_toArray, List.set_cons_zero, List.set_cons_succ]
    refine any_takeD 15 70 (.bool true) rfl rfl (by kernel_rfl) (by kernel_rfl) (by kernel_rfl) (by kernel_rfl) (fun _ _ _ h => h) (by rfl) ?_ hSV9 ?_
    · rintro w' ⟨q1, q2, q3⟩; go_simp
    simp only [Act.put, List.setIfInBounds_toArray, List.set_cons_zero, List.set_cons_succ]
    refine any_takeD 16 4 (.bool true) rfl rfl (by kernel_rfl) (by kernel_rfl) (by kernel_rfl) (by kernel_rfl) (fun _ _ _ h => h) (by rfl) ?_ hSV9 ?_
    · rintro w' ⟨q1, q2, q3⟩; go_simp
    simp only [Act.put, List.setIfInBounds_toArray, List.set_cons_zero, List.set_cons_succ]
    refine any_done (by kernel_rfl) ?_ _
    refine calm_normal ?_
    have HK9 := Lib.hid ((hbV9.block _ (Array.getElem?_eq_some_iff.1 HK.out).1).trans HK.out)
    have HB9 := Lib.hid (ext_trans HBV.out hbV9)
    clear hSd hSV7 hSV8 hSV9 hbV7 hbV8 hbV9 HS SAME EQ AWAKE CV CN
    go_wp2_with fail
    refine ⟨by simp, .inl ⟨_, _, rfl, run_takeDeferred HK9.out, ?_⟩⟩
    exact ⟨_, results_tmp rfl _ _ _, rfl, HB9.out.trans (below_put _ _ (by omega))⟩
  case stop =>
    rintro D cc pre V hD hpre ⟨rfl, pre0, ⟨x, rfl⟩, hpl, ⟨⟨vb, hv, hO⟩, hS⟩⟩ hK
    obtain ⟨K, hK0⟩ : ∃ K, K = min q M := ⟨_, rfl⟩
    have hpl2 := hpre.length_le
    rw [HM.out] at hpl2
    simp at hpl2
    have hKq : K = q := by omega
    have hG : pre0.map Cb.l = (frs l0).1.take K := by
      rw [List.map_append] at hpre
      have h1 := (List.prefix_append _ _).trans hpre
      have h2 := List.prefix_iff_eq_take.1 h1
      rw [h2, List.length_map, hpl, hKq]
    have hml : (pre0.map Cb.l).length = K := by rw [List.length_map]; omega
    obtain ⟨Ab, cb, rfl, lb, _⟩ := OL.ll hO
    rw [hml] at lb hv
    rw [hG] at lb
    have hlb : K ≤ cb := lb.le
    clear hO hG hpre
    have CV := Lib.hid (show V.cell? ⟨w2.heap.size + 1, 0, none⟩ = some (.slice Ab K cb) from hv.cell)
    have CN := Lib.hid (show V.cell? ⟨w2.heap.size, 0, none⟩ = some (.int .i64 (q : Int)) from (show Boxed V w2.heap.size 3 (.int .i64 (q : Int)) from (hS.block _ X0.out.lt (by omega)).trans X0.out).cell)
    have hlv : w2.heap.size + 1 < V.heap.size := hv.lt
    have HBV := Lib.hid (hbW.out.trans (hS.below (by omega) (fun k e => by rcases e with e | e <;> omega)))
    have HB2 : Below w2.heap.size w2 V := hb02.out.trans (hS.below (B := w2.heap.size) (by omega) (fun k e => by rcases e with e | e <;> omega))
    have l4 := (L2.out.below HB2).upto (show K ≤ M by omega)
    have t4 := T2.out.below HB2
    have s4 := S0.out.below HBV.out
    have SAME : Hid (∀ V', Below V.heap.size V V' → Calls Tryz.prog 20 #[.slice Ab K cb, .slice A2 K c2] V' fun e w' => e = .returned (.bool true) ∧ Below V.heap.size V w') := fun V' hV => (same_any _ _ _ _ _ _ _ _ V' (lb.below hV) (l4.below hV)).mono (by
      rintro e w' ⟨rfl, p, rfl⟩; exact ⟨by simp, Wd.below_drewN hV p⟩)
    have EQ : Hid (∀ V', Below V.heap.size V V' → Calls Tryz.prog 22 #[.slice A1 n0 cc1, .slice A0 n0 c0] V' fun e w' => e = .returned (.bool true) ∧ Below V.heap.size V w') := fun V' hV => (eq_any _ _ _ _ _ _ l0 l0 V' ((t4.below hV).row) ((s4.below hV).row) (by unfold maxLen; omega)).mono (by
      rintro e w' ⟨rfl, p, rfl⟩; exact ⟨by simp, Wd.below_drewN hV p⟩)
    have AWAKE : Hid (∀ V', Below V.heap.size V V' → Calls Tryz.prog 10 #[] V' fun e w' => e = .returned (.bool true) ∧ Below V.heap.size V w') := fun V' hV => (awake7 V' (E.out.below (ext_trans HBV.out hV))).mono (by
      rintro e w' ⟨rfl, hb⟩; exact ⟨rfl, ext_trans hV hb⟩)
    have HK := Lib.hid hK
    have hmin : min (q : Int) (M : Int) = (K : Int) := by omega
    have i1 : (0 : Int) ≤ (K : Int) := by omega
    have i2 : (K : Int) ≤ (c2 : Int) := by omega
    have HS : Hid (∀ w', Below V.heap.size V w' → w'.cell? ⟨w2.heap.size + 1, 0, none⟩ = some (.slice Ab K cb) ∧ w'.cell? ⟨w2.heap.size, 0, none⟩ = some (.int .i64 (q : Int)) ∧ Below V.heap.size V w') := fun w' h => ⟨(h.cell (p := ⟨w2.heap.size + 1, 0, none⟩) hlv).trans CV.out, (h.cell (p := ⟨w2.heap.size, 0, none⟩) (by show w2.heap.size < V.heap.size; omega)).trans CN.out, h⟩
    clear hv lb hS hK l4 t4 s4 HB2 hK0 hKq hml hpl hpl2
    refine wpIn_wide.2 ?_
    go_upto_region 15 with fail
    have hSd := HS.out V.drew (below_drew' (Below.refl _ V))
    refine region_calm (fun w' => w'.cell? ⟨w2.heap.size + 1, 0, none⟩ = some (.slice Ab K cb) ∧ w'.cell? ⟨w2.heap.size, 0, none⟩ = some (.int .i64 (q : Int)) ∧ Below V.heap.size V w') [0, 1, 2, 3, 4, 5, 6, 8, 9, 10, 12, 13, 15, 16] (by kernel_rfl) ?_
    refine any_takeD 0 55 (.slice Ab K cb) rfl rfl (by kernel_rfl) (by kernel_rfl) (by kernel_rfl) (by kernel_rfl) (fun _ _ _ h => h) (by rfl) ?_ hSd ?_
    · rintro w' ⟨q1, q2, q3⟩; go_simp
    simp only [Act.put, List.setIfInBounds_toArray, List.set_cons_zero, List.set_cons_succ]
    refine any_takeD 1 56 (.slice A2 M c2) rfl rfl (by kernel_rfl) (by kernel_rfl) (by kernel_rfl) (by kernel_rfl) (fun _ _ _ h => h) (by rfl) ?_ hSd ?_
    · rintro w' ⟨q1, q2, q3⟩; go_simp
    simp only [Act.put, List.setIfInBounds_toArray, List.set_cons_zero, List.set_cons_succ]
    refine any_takeD 2 57 (.int .i64 (q : Int)) rfl rfl (by kernel_rfl) (by kernel_rfl) (by kernel_rfl) (by kernel_rfl) (fun _ _ _ h => h) (by rfl) ?_ hSd ?_
    · rintro w' ⟨q1, q2, q3⟩; go_simp
    simp only [Act.put, List.setIfInBounds_toArray, List.set_cons_zero, List.set_cons_succ]
    refine any_takeD 3 58 (.slice A2 M c2) rfl rfl (by kernel_rfl) (by kernel_rfl) (by kernel_rfl) (by kernel_rfl) (fun _ _ _ h => h) (by rfl) ?_ hSd ?_
    · rintro w' ⟨q1, q2, q3⟩; go_simp
    simp only [Act.put, List.setIfInBounds_toArray, List.set_cons_zero, List.set_cons_succ]
    refine any_takeD 4 59 (.int .i64 (M : Int)) rfl rfl (by kernel_rfl) (by kernel_rfl) (by kernel_rfl) (by kernel_rfl) (fun _ _ _ h => h) (by rfl) ?_ hSd ?_
    · rintro w' ⟨q1, q2, q3⟩; go_simp
    simp only [Act.put, List.setIfInBounds_toArray, List.set_cons_zero, List.set_cons_succ]
    refine any_takeD 5 60 (.int .i64 (K : Int)) rfl rfl (by kernel_rfl) (by kernel_rfl) (by kernel_rfl) (by kernel_rfl) (fun _ _ _ h => h) (by rfl) ?_ hSd ?_
    · rintro w' ⟨q1, q2, q3⟩; go_simp
    simp only [Act.put, List.setIfInBounds_toArray, List.set_cons_zero, List.set_cons_succ]
    refine any_takeD 6 61 (.slice A2 K c2) rfl rfl (by kernel_rfl) (by kernel_rfl) (by kernel_rfl) (by kernel_rfl) (fun _ _ _ h => h) (by rfl) ?_ hSd ?_
    · rintro w' ⟨q1, q2, q3⟩; go_simp
    simp only [Act.put, List.setIfInBounds_toArray, List.set_cons_zero, List.set_cons_succ]
    refine any_callD 7 62 (by kernel_rfl) rfl rfl (by rfl) (fn := 20) (args := #[.slice Ab K cb, .slice A2 K c2]) ?_ (SAME.out V.drew (below_drew' (Below.refl _ V))) ?_
    · go_simp
    rintro e V7 ⟨rfl, hbV7⟩
    have hSV7 := HS.out V7 hbV7
    refine ⟨_, rfl, .inr hSV7, ?_⟩
    simp only [Act.put, List.setIfInBounds_toArray, List.set_cons_zero, List.set_cons_succ]
    refine any_takeD 8 63 (.bool true) rfl rfl (by kernel_rfl) (by kernel_rfl) (by kernel_rfl) (by kernel_rfl) (fun _ _ _ h => h) (by rfl) ?_ hSV7 ?_
    · rintro w' ⟨q1, q2, q3⟩; go_simp
    simp only [Act.put, List.setIfInBounds_toArray, List.set_cons_zero, List.set_cons_succ]
    refine any_takeD 9 64 (.slice A1 n0 cc1) rfl rfl (by kernel_rfl) (by kernel_rfl) (by kernel_rfl) (by kernel_rfl) (fun _ _ _ h => h) (by rfl) ?_ hSV7 ?_
    · rintro w' ⟨q1, q2, q3⟩; go_simp
    simp only [Act.put, List.setIfInBounds_toArray, List.set_cons_zero, List.set_cons_succ]
    refine any_takeD 10 65 (.slice A0 n0 c0) rfl rfl (by kernel_rfl) (by kernel_rfl) (by kernel_rfl) (by kernel_rfl) (fun _ _ _ h => h) (by rfl) ?_ hSV7 ?_
    · rintro w' ⟨q1, q2, q3⟩; go_simp
    simp only [Act.put, List.setIfInBounds_toArray, List.set_cons_zero, List.set_cons_succ]
    refine any_callD 11 66 (by kernel_rfl) rfl rfl (by rfl) (fn := 22) (args := #[.slice A1 n0 cc1, .slice A0 n0 c0]) ?_ (EQ.out V7 hbV7) ?_
    · go_simp
    rintro e V8 ⟨rfl, hbV8⟩
    have hSV8 := HS.out V8 hbV8
    refine ⟨_, rfl, .inr hSV8, ?_⟩
    simp only [Act.put, List.setIfInBounds_toArray, List.set_cons_zero, List.set_cons_succ]
    refine any_takeD 12 67 (.bool true) rfl rfl (by kernel_rfl) (by kernel_rfl) (by kernel_rfl) (by kernel_rfl) (fun _ _ _ h => h) (by rfl) ?_ hSV8 ?_
    · rintro w' ⟨q1, q2, q3⟩; go_simp
    simp only [Act.put, List.setIfInBounds_toArray, List.set_cons_zero, List.set_cons_succ]
    refine any_takeD 13 68 (.bool true) rfl rfl (by kernel_rfl) (by kernel_rfl) (by kernel_rfl) (by kernel_rfl) (fun _ _ _ h => h) (by rfl) ?_ hSV8 ?_
    · rintro w' ⟨q1, q2, q3⟩; go_simp
    simp only [Act.put, List.setIfInBounds_toArray, List.set_cons_zero, List.set_cons_succ]
    refine any_callD 14 69 (by kernel_rfl) rfl rfl (by rfl) (fn := 10) (args := #[]) ?_ (AWAKE.out V8 hbV8) ?_
    · go_simp
    rintro e V9 ⟨rfl, hbV9⟩
    have hSV9 := HS.out V9 hbV9
    refine ⟨_, rfl, .inr hSV9, ?_⟩
    simp only [Act.put, List.setIfInBounds_toArray, List.set_cons_zero, List.set_cons_succ]
    refine any_takeD 15 70 (.bool true) rfl rfl (by kernel_rfl) (by kernel_rfl) (by kernel_rfl) (by kernel_rfl) (fun _ _ _ h => h) (by rfl) ?_ hSV9 ?_
    · rintro w' ⟨q1, q2, q3⟩; go_simp
    simp only [Act.put, List.setIfInBounds_toArray, List.set_cons_zero, List.set_cons_succ]
    refine any_takeD 16 4 (.bool true) rfl rfl (by kernel_rfl) (by kernel_rfl) (by kernel_rfl) (by kernel_rfl) (fun _ _ _ h => h) (by rfl) ?_ hSV9 ?_
    · rintro w' ⟨q1, q2, q3⟩; go_simp
    simp only [Act.put, List.setIfInBounds_toArray, List.set_cons_zero, List.set_cons_succ]
    refine any_done (by kernel_rfl) ?_ _
    refine calm_normal ?_
    have HK9 := Lib.hid ((hbV9.block _ (Array.getElem?_eq_some_iff.1 HK.out).1).trans HK.out)
    have HB9 := Lib.hid (ext_trans HBV.out hbV9)
    clear hSd hSV7 hSV8 hSV9 hbV7 hbV8 hbV9 HS SAME EQ AWAKE CV CN
    go_wp2_with fail
    refine ⟨by simp, .inl ⟨_, _, rfl, run_takeDeferred HK9.out, ?_⟩⟩
    exact ⟨_, results_tmp rfl _ _ _, rfl, HB9.out.trans (below_put _ _ (by omega))⟩

theorem walk_FrameAll (A0 : Option Addr) (n0 c0 : Nat) (l0 : List Int) (a1 : Int) (w : World) (s0 : Sl .u8 w A0 n0 c0 l0) (b0 : ∀ x ∈ l0, (Lit.int .u8 x).wf = true) (z0 : c0 * 1 ≤ 140737488351232) (w1 : (Lit.int .i64 a1).wf = true) (tab : It.Tab w) (env : Hb.Env w) :
    Calls Tryz.prog 9 #[.slice A0 n0 c0, .int .i64 a1] w fun e w' => e = .returned (.bool true) ∧ Below w.heap.size w w' := by
  exact core_FrameAll A0 n0 c0 l0 a1 w s0 (isB_of b0) (by have := s0.le; omega) (i64_of w1).1 (i64_of w1).2 env
end Go.Proofs.YtigiiofiajhnlaaGreatDoor
