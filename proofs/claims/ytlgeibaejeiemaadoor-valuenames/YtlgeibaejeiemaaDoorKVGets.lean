/-
  The walk of ValueGets.
-/
import Derived.Test.YtlgeibaejeiemaaDoorVw
namespace Go.Proofs.YtlgeibaejeiemaaDoor
set_option linter.unusedVariables false
set_option linter.unusedSimpArgs false
open Go.RowKit
open Wd We Vt

set_option maxRecDepth 100000 in
set_option maxHeartbeats 16000000 in
theorem walk_ValueGets (v0 : Value) (T0 : Vt.Tr) (a1 : ByteArray) (w : World) (s0 : Vt.Vl w v0 T0) (m0 : Vt.Sm T0) (w1 : a1.size ≤ maxLen) (z1 : a1.size ≤ 140737488351232) (tab : It.Tab w) :
    Calls Tryd.prog 5 #[v0, .string a1] w fun e w' => e = .returned (.bool true) ∧ Below w.heap.size w w' := by
  obtain ⟨X0, n0, c0, Y0, q0, d0, rfl, _⟩ := s0.open_
  have HV0 := Lib.hid s0
  have HM0 := Lib.hid m0
  have TB := Lib.hid (fun (w' : World) (h : Below w.heap.size w w') => tab.below h)
  obtain ⟨Q0, hQ0⟩ : ∃ Q, w.heap.size = Q := ⟨_, rfl⟩
  obtain ⟨W1, hW1⟩ : ∃ W, w.alloc (.cells #[.int .i64 T0.kind, .bool T0.isB, .string T0.text, .slice X0 n0 c0, .slice Y0 q0 d0] 25) = W := ⟨_, rfl⟩
  have z1 : W1.heap.size = Q0 + 1 := by rw [← hW1, World.size_alloc]; omega
  have b1 : Below w.heap.size w W1 := by rw [← hW1]; exact below_allocV w _
  have x0 : Bx W1 Q0 (.int .i64 T0.kind) (.bool T0.isB) (.string T0.text) (.slice X0 n0 c0) (.slice Y0 q0 d0) := by rw [← hW1, show Q0 = w.heap.size by omega]; exact heap_alloc_new w _
  have bb1 : Below w.heap.size w W1 := b1
  obtain ⟨W2, hW2⟩ : ∃ W, W1.alloc (.cells #[.int .i64 T0.kind, .bool T0.isB, .string T0.text, .slice X0 n0 c0, .slice Y0 q0 d0] 25) = W := ⟨_, rfl⟩
  have bl : Below W1.heap.size W1 W2 := by rw [← hW2]; exact below_allocV W1 _
  have bbl : Below w.heap.size w W2 := extV bb1 bl
  have y0 := x0.below bl (by omega)
  have HX0 := Lib.hid y0
  have vv0 := Vl.up bbl _ s0
  have UV0 := Lib.hid vv0
  have VLL : VL W2 (some ⟨W1.heap.size, 0, none⟩) 1 1 [T0] := VL.one_at (by rw [← hW2]; exact heap_alloc_new W1 _) vv0
  have CT := Lib.hid (deepList_any _ _ _ _ W2 VLL)
  have a00 := x0.c0; have a01 := x0.c1; have a02 := x0.c2; have a03 := x0.c3; have a04 := x0.c4
  have BL := Lib.hid bbl
  have HW1 := Lib.hid hW1
  have HW2 := Lib.hid hW2
  have HQ0 := Lib.hid hQ0
  have HZ1 := Lib.hid z1
  clear tab s0 m0 hQ0 hW1 z1 b1 bb1 x0 y0 vv0 hW2 bl bbl VLL
  go_enter Tryd.func5, Tryd.ntmps5
  go_upto_region 1 with fail
  rw [HW1.out, HQ0.out]
  rw [HZ1.out] at CT
  obtain ⟨QL, hQL⟩ : ∃ Q, Q0 + 1 = Q := ⟨_, rfl⟩
  rw [hQL] at CT
  have HQL := Lib.hid hQL
  clear hQL
  go_wp2_with fail
  rw [HW2.out]
  rw [HZ1.out, HQL.out]
  refine CT.out.mono ?_
  rintro e wd ⟨rfl, hb⟩
  have BW := Lib.hid (extV BL.out hb)
  have u0 := HX0.out.below hb HX0.out.lt
  have HU0 := Lib.hid u0
  clear hb a00 a01 a02 a03 a04
  have a00 := u0.c0; have a01 := u0.c1; have a02 := u0.c2; have a03 := u0.c3; have a04 := u0.c4
  clear u0
  cases hdp : dpL [T0] 991 with
  | true =>
    clear hdp
    go_wp2_with fail
    refine (awake_any _ (TB.out _ BW.out)).mono ?_
    rintro e wz ⟨rfl, hbz⟩
    have BZ := Lib.hid (extV BW.out hbz)
    clear hbz
    go_wp2_with fail
    go_ret
    exact ⟨rfl, BZ.out⟩
  | false =>
    have HD0 := Lib.hid (dp_no hdp (show T0 ∈ [T0] by simp))
    clear hdp
    have VV0 := Lib.hid (Vl.up BW.out _ HV0.out)
    go_wp2_with fail
    obtain ⟨i1, si, sz0, sz1, sz2⟩ := info_parts s_info
    refine (rcopy_own _ _ wd VV0.out).mono ?_
    rintro e w4 ⟨A4, m4, c4, B4, q4, d4, rfl, hb4, ho4, hown4, h0, hoh, hh0, hcl⟩
    have hq4 : q4 * 16 ≤ 140737488351232 := by
      obtain ⟨_, _, _, _, hn, _⟩ := (ho4.vl _).list
      exact hn.small
    have hnl : T0.names.length = q4 := by have := hown4.1; simpa using this
    have BW4 := Lib.hid (extV BW.out hb4)
    have HB4 := Lib.hid hb4
    have HU4 := Lib.hid (HU0.out.below hb4 HU0.out.lt)
    have HOWN := Lib.hid hown4
    have HCL := Lib.hid hcl
    have HOH := Lib.hid hoh
    have HQ4 := Lib.hid hq4
    have HNL := Lib.hid hnl
    clear hb4 ho4 hown4 hoh hh0 hcl hnl a00 a01 a02 a03 a04
    obtain ⟨R1, hR1⟩ : ∃ R, w4.heap.size = R := ⟨_, rfl⟩
    obtain ⟨U1, hU1⟩ : ∃ U, w4.alloc (.cells #[.int .i64 0, .bool false, .string ⟨#[]⟩, .slice none 0 0, .slice none 0 0] 25) = U := ⟨_, rfl⟩
    obtain ⟨nb, nb2⟩ := newbox hR1 hU1
    obtain ⟨nb3, nb4, nb5⟩ := nb2 (.int .i64 T0.kind) (.bool T0.isB) (.string T0.text) (.slice A4 m4 c4) (.slice B4 q4 d4)
    have e0 := nb.c0; have e1 := nb.c1; have e2 := nb.c2; have e3 := nb.c3; have e4 := nb.c4
    have f0 := nb.fz 0; have f1 := nb.fz 1; have f2 := nb.fz 2; have f3 := nb.fz 3; have f4 := nb.fz 4
    obtain ⟨V1, hV1⟩ : ∃ V, put5 U1 R1 (.int .i64 T0.kind) (.bool T0.isB) (.string T0.text) (.slice A4 m4 c4) (.slice B4 q4 d4) = V := ⟨_, rfl⟩
    rw [hV1] at nb3 nb4 nb5
    have HV1 := Lib.hid hV1
    have HR1 := Lib.hid hR1
    have N1 := Lib.hid nb3
    have NB1 := Lib.hid nb4
    have NS1 := Lib.hid nb5
    clear hV1 nb nb2 nb3 nb4 nb5
    go_upto_region 4 with fail
    rw [show ((((U1.setCell ⟨R1, 0, none⟩ (.int .i64 T0.kind)).setCell ⟨R1, 1, none⟩ (.bool T0.isB)).setCell ⟨R1, 2, none⟩ (.string T0.text)).setCell ⟨R1, 3, none⟩ (.slice A4 m4 c4)).setCell ⟨R1, 4, none⟩ (.slice B4 q4 d4) = V1 from HV1.out]
    clear e0 e1 e2 e3 e4 f0 f1 f2 f3 f4 hU1
    have BV1 := Lib.hid (extV BW4.out NB1.out)
    have BD1 := Lib.hid (extV HB4.out NB1.out)
    obtain ⟨QS, hQS⟩ : ∃ Q, V1.heap.size = Q := ⟨_, rfl⟩
    obtain ⟨W6, hW6⟩ : ∃ W, V1.alloc (.cells #[.string a1] 9) = W := ⟨_, rfl⟩
    have b6 : Below V1.heap.size V1 W6 := by rw [← hW6]; exact below_allocV V1 _
    have hc6 : W6.cell? ⟨QS, 0, none⟩ = some (.string a1) := by
      have hh : W6.heap[QS]? = some (.cells #[.string a1] 9 (0, 0)) := by rw [← hW6, ← hQS]; exact heap_alloc_new V1 _
      simp [World.cell?, hh]
    have OW6 := Lib.hid (own_up (own_up HOWN.out NB1.out) b6)
    have hgo : (Value.slice B4 q4 d4).ownBlock ≠ some QS := fun e => by have := (World.ownsRow.lt HOWN.out _ e).2; have := NB1.out.size; omega
    have hb6 : wd.heap.size ≤ W6.heap.size := by have := HB4.out.size; have := NB1.out.size; have := b6.size; omega
    have B6 := Lib.hid b6
    have r4 := N1.out.c4
    have HW6 := Lib.hid hW6
    have HQS := Lib.hid hQS
    clear b6
    go_upto_region 5 with (at_builtin; refine wp_appS rfl _ _ _ rfl Tryd.underlying23 si sz0 sz1 sz2 rfl rfl OW6.out rfl hc6 hgo HQ4.out hb6 ?_; intro G cap w7 has; have HAS := Lib.hid has; clear has)
    have hw6 := extV BD1.out B6.out
    have hlt4 : ∀ x, (Value.slice B4 q4 d4).ownBlock = some x → wd.heap.size ≤ x ∧ x < w4.heap.size := fun x h => World.ownsRow.lt HOWN.out x h
    have hb7 : Below wd.heap.size W6 w7 := by
      obtain ⟨u1, u2, u3, u4, _⟩ := HAS.out.up
      exact ⟨u1, u2, u3, u4, fun k hk => HAS.out.same k (by have := hw6.size; omega) (fun e => by have := (hlt4 k e).1; omega)⟩
    have B7 := Lib.hid (hw6.trans hb7)
    have BW7 := Lib.hid (BW.out.trans (B7.out.mono BW.out.size))
    have HU7 := Lib.hid (HU0.out.below B7.out HU0.out.lt)
    have hrw : R1 < W6.heap.size := (N1.out.below B6.out N1.out.lt).lt
    have N17 := Lib.hid ((N1.out.below B6.out N1.out.lt).same (HAS.out.same R1 hrw (fun e => by have := (hlt4 R1 e).2; have := HR1.out; omega)))
    have VW7 := Lib.hid (HCL.out w7 (fun x hx hne => by
      rw [HAS.out.same x (by have := NB1.out.size; have := B6.out.size; omega) (fun e => by
        rcases HOH.out with h | h
        · rw [h] at e; cases e
        · rw [h] at e; injection e with e; exact hne e.symm), B6.out.block x (by have := NB1.out.size; omega), NB1.out.block x hx]) HAS.out.old)
    have VV7 := Lib.hid (Vl.up B7.out _ VV0.out)
    have ROW := Lib.hid HAS.out.row
    have hqx : q4 ≤ 8796093022208 := by have := HQ4.out; omega
    clear hw6 hlt4 hb7 hrw r4 hc6 hgo hb6 hQS hW6 hR1
    go_wp2_with fail
    go_loopw [7] (fun iv wr => ∃ i : Nat, iv = .int .i64 i ∧ i ≤ q4 + 1 ∧ Hid (Below w7.heap.size w7 wr)) (fun iv _ => q4 + 1 - (intOf iv).toNat)
    case atStart => exact ⟨0, rfl, by omega, Lib.hid (Below.refl _ _)⟩
    case round =>
      obtain ⟨i, rfl, hi, hB⟩ := hrel
      by_cases him : i < q4 + 1
      · have i1 : (i : Int) < (q4 : Int) + 1 := by omega
        have hil : i < (T0.names ++ [a1]).length := by rw [List.length_append, HNL.out]; exact him
        obtain ⟨s, hs⟩ : ∃ s, (T0.names ++ [a1])[i]? = some s := ⟨_, List.getElem?_eq_getElem hil⟩
        have mv0 := ROW.out i s hs
        have mv : wr.cell? ⟨G, i, none⟩ = some (.string s) := (hB.out.cell (p := ⟨G, i, none⟩) (lt_of_cell mv0)).trans mv0
        have hu := HU7.out.below hB.out HU7.out.lt
        have hvw := Vl.up hB.out _ VV7.out
        obtain ⟨tt, htt⟩ : ∃ t, (getT T0 s).getD zeroT = t := ⟨_, rfl⟩
        obtain ⟨oo, hoo⟩ : ∃ o, (getT T0 s).isSome = o := ⟨_, rfl⟩
        have CG : Hid (∀ w', Below wr.heap.size wr w' → Calls Tryd.prog 24 #[.agg #[.int .i64 T0.kind, .bool T0.isB, .string T0.text, .slice X0 n0 c0, .slice Y0 q0 d0], .string s] w' (GtR tt oo w')) := Lib.hid (fun w' h => (vget_any T0 _ s w' (Vl.up h _ hvw)).mono (fun e w'' hh => by rw [← htt, ← hoo]; exact gtQ hh))
        have CR : Hid (∀ w', Below wr.heap.size wr w' → Calls Tryd.prog 25 #[.agg #[.int .i64 T0.kind, .bool T0.isB, .string T0.text, .slice X0 n0 c0, .slice Y0 q0 d0], .string s] w' (GtR tt oo w')) := Lib.hid (fun w' h => (rget_any T0 _ s w' (Vl.up h _ hvw)).mono (fun e w'' hh => by rw [← htt, ← hoo]; exact gtQ hh))
        have HST : Hid (Sm tt) := Lib.hid (by rw [← htt]; exact sm_get HM0.out s)
        clear htt hoo hs hil mv0 hvw
        go_upto_region 8 with fail
        have HSS : Bx wr.drew Q0 (.int .i64 T0.kind) (.bool T0.isB) (.string T0.text) (.slice X0 n0 c0) (.slice Y0 q0 d0) ∧ wr.drew.cell? ⟨G, i, none⟩ = some (.string s) := ⟨Bx.same hu rfl, mv⟩
        refine region_calm (fun w' => Bx w' Q0 (.int .i64 T0.kind) (.bool T0.isB) (.string T0.text) (.slice X0 n0 c0) (.slice Y0 q0 d0) ∧ w'.cell? ⟨G, i, none⟩ = some (.string s)) [0, 1, 2, 3, 4, 6, 7, 8] (by kernel_rfl) ?_
        have hd0 : Below wr.heap.size wr wr.drew := ⟨rfl, rfl, rfl, Nat.le_refl _, fun _ _ => rfl⟩
        refine any_takeD 0 30 (.agg #[.int .i64 T0.kind, .bool T0.isB, .string T0.text, .slice X0 n0 c0, .slice Y0 q0 d0]) rfl rfl (by kernel_rfl) (by kernel_rfl) (by kernel_rfl) (by kernel_rfl) (fun _ _ _ h => h) (by rfl) ?_ HSS ?_
        · rintro w' ⟨hS, hc⟩
          have z0 := hS.c0; have z1 := hS.c1; have z2 := hS.c2; have z3 := hS.c3; have z4 := hS.c4
          go_simp
        simp only [Act.put, List.setIfInBounds_toArray, List.set_cons_zero, List.set_cons_succ]
        refine any_takeD 1 31 (.slice (some ⟨G, 0, none⟩) (q4 + 1) cap) rfl rfl (by kernel_rfl) (by kernel_rfl) (by kernel_rfl) (by kernel_rfl) (fun _ _ _ h => h) (by rfl) ?_ HSS ?_
        · rintro w' ⟨hS, hc⟩
          have z0 := hS.c0; have z1 := hS.c1; have z2 := hS.c2; have z3 := hS.c3; have z4 := hS.c4
          go_simp
        simp only [Act.put, List.setIfInBounds_toArray, List.set_cons_zero, List.set_cons_succ]
        refine any_takeD 2 32 (.int .i64 (i : Int)) rfl rfl (by kernel_rfl) (by kernel_rfl) (by kernel_rfl) (by kernel_rfl) (fun _ _ _ h => h) (by rfl) ?_ HSS ?_
        · rintro w' ⟨hS, hc⟩
          have z0 := hS.c0; have z1 := hS.c1; have z2 := hS.c2; have z3 := hS.c3; have z4 := hS.c4
          go_simp
        simp only [Act.put, List.setIfInBounds_toArray, List.set_cons_zero, List.set_cons_succ]
        refine any_takeD 3 33 (.pointer (some ⟨G, i, none⟩)) rfl rfl (by kernel_rfl) (by kernel_rfl) (by kernel_rfl) (by kernel_rfl) (fun _ _ _ h => h) (by rfl) ?_ HSS ?_
        · rintro w' ⟨hS, hc⟩
          have z0 := hS.c0; have z1 := hS.c1; have z2 := hS.c2; have z3 := hS.c3; have z4 := hS.c4
          go_simp
        simp only [Act.put, List.setIfInBounds_toArray, List.set_cons_zero, List.set_cons_succ]
        refine any_takeD 4 34 (.string s) rfl rfl (by kernel_rfl) (by kernel_rfl) (by kernel_rfl) (by kernel_rfl) (fun _ _ _ h => h) (by rfl) ?_ HSS ?_
        · rintro w' ⟨hS, hc⟩
          have z0 := hS.c0; have z1 := hS.c1; have z2 := hS.c2; have z3 := hS.c3; have z4 := hS.c4
          go_simp
        simp only [Act.put, List.setIfInBounds_toArray, List.set_cons_zero, List.set_cons_succ]
        refine any_two 5 9 (by kernel_rfl) rfl rfl (by rfl) (by rfl) ?_ ?_
        · refine st_call 5 35 rfl (fn := 24) (args := #[.agg #[.int .i64 T0.kind, .bool T0.isB, .string T0.text, .slice X0 n0 c0, .slice Y0 q0 d0], .string s]) ?_ (CG.out wr.drew hd0) ?_
          · go_simp
          rintro e w1 ⟨Aa, ma, ca, Ba, qa, da, rfl, hb1, ho1⟩
          have HS1 : Bx w1 Q0 (.int .i64 T0.kind) (.bool T0.isB) (.string T0.text) (.slice X0 n0 c0) (.slice Y0 q0 d0) ∧ w1.cell? ⟨G, i, none⟩ = some (.string s) := ⟨HSS.1.below hb1 HSS.1.lt, (hb1.cell (p := ⟨G, i, none⟩) (lt_of_cell HSS.2)).trans HSS.2⟩
          refine ⟨_, rfl, .inr HS1, ?_⟩
          simp only [Act.put, List.setIfInBounds_toArray, List.set_cons_zero, List.set_cons_succ]
          refine any_takeD 6 29 (.tuple #[.agg #[.int .i64 (tt).kind, .bool (tt).isB, .string (tt).text, .slice Aa ma ca, .slice Ba qa da], .bool oo]) rfl rfl (by kernel_rfl) (by kernel_rfl) (by kernel_rfl) (by kernel_rfl) (fun _ _ _ h => h) (by rfl) ?_ HS1 ?_
          · rintro w' ⟨hS, hc⟩
            have z0 := hS.c0; have z1 := hS.c1; have z2 := hS.c2; have z3 := hS.c3; have z4 := hS.c4
            go_simp
          simp only [Act.put, List.setIfInBounds_toArray, List.set_cons_zero, List.set_cons_succ]
          refine any_takeD 7 36 (.agg #[.int .i64 (tt).kind, .bool (tt).isB, .string (tt).text, .slice Aa ma ca, .slice Ba qa da]) rfl rfl (by kernel_rfl) (by kernel_rfl) (by kernel_rfl) (by kernel_rfl) (fun _ _ _ h => h) (by rfl) ?_ HS1 ?_
          · rintro w' ⟨hS, hc⟩
            have z0 := hS.c0; have z1 := hS.c1; have z2 := hS.c2; have z3 := hS.c3; have z4 := hS.c4
            go_simp
          simp only [Act.put, List.setIfInBounds_toArray, List.set_cons_zero, List.set_cons_succ]
          refine any_takeD 8 37 (.bool oo) rfl rfl (by kernel_rfl) (by kernel_rfl) (by kernel_rfl) (by kernel_rfl) (fun _ _ _ h => h) (by rfl) ?_ HS1 ?_
          · rintro w' ⟨hS, hc⟩
            have z0 := hS.c0; have z1 := hS.c1; have z2 := hS.c2; have z3 := hS.c3; have z4 := hS.c4
            go_simp
          simp only [Act.put, List.setIfInBounds_toArray, List.set_cons_zero, List.set_cons_succ]
          obtain ⟨Ra, hRa⟩ : ∃ R, w1.heap.size = R := ⟨_, rfl⟩
          obtain ⟨Ua, hUa⟩ : ∃ U, w1.alloc (.cells #[.int .i64 0, .bool false, .string ⟨#[]⟩, .slice none 0 0, .slice none 0 0] 25) = U := ⟨_, rfl⟩
          obtain ⟨nb, nb2⟩ := newbox hRa hUa
          have hbU : Below w1.heap.size w1 Ua := by rw [← hUa]; exact below_allocV w1 _
          obtain ⟨nb3, nb4, nb5⟩ := nb2 (.int .i64 (tt).kind) (.bool (tt).isB) (.string (tt).text) (.slice Aa ma ca) (.slice Ba qa da)
          have HS2 : Bx Ua Q0 (.int .i64 T0.kind) (.bool T0.isB) (.string T0.text) (.slice X0 n0 c0) (.slice Y0 q0 d0) ∧ Ua.cell? ⟨G, i, none⟩ = some (.string s) := ⟨HS1.1.below hbU HS1.1.lt, (hbU.cell (p := ⟨G, i, none⟩) (lt_of_cell HS1.2)).trans HS1.2⟩
          refine any_runD 9 8 (.pointer (some ⟨Ra, 0, none⟩)) Ua (by kernel_rfl) rfl rfl (by rfl) ?_ (.inr HS2) ?_
          · rw [← hUa, ← hRa]; go_simp
          simp only [Act.put, List.setIfInBounds_toArray, List.set_cons_zero, List.set_cons_succ]
          have e0 := nb.c0; have f0 := nb.fz 0; have e1 := nb.c1; have f1 := nb.fz 1; have e2 := nb.c2; have f2 := nb.fz 2; have e3 := nb.c3; have f3 := nb.fz 3; have e4 := nb.c4; have f4 := nb.fz 4
          have hq9 : put5 Ua Ra (.int .i64 (tt).kind) (.bool (tt).isB) (.string (tt).text) (.slice Aa ma ca) (.slice Ba qa da) = ((((Ua.setCell ⟨Ra, 0, none⟩ (.int .i64 (tt).kind)).setCell ⟨Ra, 1, none⟩ (.bool (tt).isB)).setCell ⟨Ra, 2, none⟩ (.string (tt).text)).setCell ⟨Ra, 3, none⟩ (.slice Aa ma ca)).setCell ⟨Ra, 4, none⟩ (.slice Ba qa da) := rfl
          have HS9 : Bx (put5 Ua Ra (.int .i64 (tt).kind) (.bool (tt).isB) (.string (tt).text) (.slice Aa ma ca) (.slice Ba qa da)) Q0 (.int .i64 T0.kind) (.bool T0.isB) (.string T0.text) (.slice X0 n0 c0) (.slice Y0 q0 d0) ∧ (put5 Ua Ra (.int .i64 (tt).kind) (.bool (tt).isB) (.string (tt).text) (.slice Aa ma ca) (.slice Ba qa da)).cell? ⟨G, i, none⟩ = some (.string s) := ⟨HS1.1.below nb4 HS1.1.lt, (nb4.cell (p := ⟨G, i, none⟩) (lt_of_cell HS1.2)).trans HS1.2⟩
          rw [hq9] at HS9
          refine any_run0 10 (((((Ua.setCell ⟨Ra, 0, none⟩ (.int .i64 (tt).kind)).setCell ⟨Ra, 1, none⟩ (.bool (tt).isB)).setCell ⟨Ra, 2, none⟩ (.string (tt).text)).setCell ⟨Ra, 3, none⟩ (.slice Aa ma ca)).setCell ⟨Ra, 4, none⟩ (.slice Ba qa da)) (by kernel_rfl) rfl rfl (by rfl) ?_ (.inr HS9) ?_
          · go_simp
          rw [← hq9] at HS9 ⊢
          clear hq9
          obtain ⟨aw, hw9⟩ : ∃ W, put5 Ua Ra (.int .i64 (tt).kind) (.bool (tt).isB) (.string (tt).text) (.slice Aa ma ca) (.slice Ba qa da) = W := ⟨_, rfl⟩
          rw [hw9] at nb3 nb4 nb5 HS9 ⊢
          have hXa := nb3
          have hLa : Below wr.heap.size wr aw := extV hd0 (extV hb1 nb4)
          have hs1 := hb1.size
          have hs0 : wr.drew.heap.size = wr.heap.size := rfl
          have hAa := (ho1.kept _ (fun x hx => nb4.block x hx.2)).mono (T := fun x => wr.heap.size ≤ x ∧ x < aw.heap.size ∧ x ≠ Ra) (fun x hx => ⟨hx.1, by have := hx.2; omega, by have := hx.2; omega⟩)
          have hlta : Ra < aw.heap.size ∧ wr.heap.size ≤ Ra := ⟨by omega, by omega⟩
          clear nb nb2 nb3 nb4 nb5 hw9 hbU HS1 HS2 hb1 ho1 hs1 hs0 hUa hRa
          clear e0 f0 e1 f1 e2 f2 e3 f3 e4 f4
          refine any_runD 11 9 (.bool oo) aw (by kernel_rfl) rfl rfl (by rfl) ?_ (.inr HS9) ?_
          · go_simp
          simp only [Act.put, List.setIfInBounds_toArray, List.set_cons_zero, List.set_cons_succ]
          refine any_done (by kernel_rfl) ?_ _
          refine calm_normal ?_
          clear HS9 HSS hd0
          have hu2 := hu.below hLa hu.lt
          have mv2 := (hLa.cell (p := ⟨G, i, none⟩) (lt_of_cell mv)).trans mv
          go_upto_region 9 with fail
          have HSS : Bx aw.drew Q0 (.int .i64 T0.kind) (.bool T0.isB) (.string T0.text) (.slice X0 n0 c0) (.slice Y0 q0 d0) ∧ aw.drew.cell? ⟨G, i, none⟩ = some (.string s) := ⟨Bx.same hu2 rfl, mv2⟩
          refine region_calm (fun w' => Bx w' Q0 (.int .i64 T0.kind) (.bool T0.isB) (.string T0.text) (.slice X0 n0 c0) (.slice Y0 q0 d0) ∧ w'.cell? ⟨G, i, none⟩ = some (.string s)) [0, 1, 2, 3, 4, 6, 7, 8] (by kernel_rfl) ?_
          have hd0 : Below aw.heap.size aw aw.drew := ⟨rfl, rfl, rfl, Nat.le_refl _, fun _ _ => rfl⟩
          refine any_takeD 0 39 (.agg #[.int .i64 T0.kind, .bool T0.isB, .string T0.text, .slice X0 n0 c0, .slice Y0 q0 d0]) rfl rfl (by kernel_rfl) (by kernel_rfl) (by kernel_rfl) (by kernel_rfl) (fun _ _ _ h => h) (by rfl) ?_ HSS ?_
          · rintro w' ⟨hS, hc⟩
            have z0 := hS.c0; have z1 := hS.c1; have z2 := hS.c2; have z3 := hS.c3; have z4 := hS.c4
            go_simp
          simp only [Act.put, List.setIfInBounds_toArray, List.set_cons_zero, List.set_cons_succ]
          refine any_takeD 1 40 (.slice (some ⟨G, 0, none⟩) (q4 + 1) cap) rfl rfl (by kernel_rfl) (by kernel_rfl) (by kernel_rfl) (by kernel_rfl) (fun _ _ _ h => h) (by rfl) ?_ HSS ?_
          · rintro w' ⟨hS, hc⟩
            have z0 := hS.c0; have z1 := hS.c1; have z2 := hS.c2; have z3 := hS.c3; have z4 := hS.c4
            go_simp
          simp only [Act.put, List.setIfInBounds_toArray, List.set_cons_zero, List.set_cons_succ]
          refine any_takeD 2 41 (.int .i64 (i : Int)) rfl rfl (by kernel_rfl) (by kernel_rfl) (by kernel_rfl) (by kernel_rfl) (fun _ _ _ h => h) (by rfl) ?_ HSS ?_
          · rintro w' ⟨hS, hc⟩
            have z0 := hS.c0; have z1 := hS.c1; have z2 := hS.c2; have z3 := hS.c3; have z4 := hS.c4
            go_simp
          simp only [Act.put, List.setIfInBounds_toArray, List.set_cons_zero, List.set_cons_succ]
          refine any_takeD 3 42 (.pointer (some ⟨G, i, none⟩)) rfl rfl (by kernel_rfl) (by kernel_rfl) (by kernel_rfl) (by kernel_rfl) (fun _ _ _ h => h) (by rfl) ?_ HSS ?_
          · rintro w' ⟨hS, hc⟩
            have z0 := hS.c0; have z1 := hS.c1; have z2 := hS.c2; have z3 := hS.c3; have z4 := hS.c4
            go_simp
          simp only [Act.put, List.setIfInBounds_toArray, List.set_cons_zero, List.set_cons_succ]
          refine any_takeD 4 43 (.string s) rfl rfl (by kernel_rfl) (by kernel_rfl) (by kernel_rfl) (by kernel_rfl) (fun _ _ _ h => h) (by rfl) ?_ HSS ?_
          · rintro w' ⟨hS, hc⟩
            have z0 := hS.c0; have z1 := hS.c1; have z2 := hS.c2; have z3 := hS.c3; have z4 := hS.c4
            go_simp
          simp only [Act.put, List.setIfInBounds_toArray, List.set_cons_zero, List.set_cons_succ]
          refine any_two 5 9 (by kernel_rfl) rfl rfl (by rfl) (by rfl) ?_ ?_
          · refine st_call 5 44 rfl (fn := 25) (args := #[.agg #[.int .i64 T0.kind, .bool T0.isB, .string T0.text, .slice X0 n0 c0, .slice Y0 q0 d0], .string s]) ?_ (CR.out aw.drew (extV hLa hd0)) ?_
            · go_simp
            rintro e w1 ⟨Ab, mb, cb, Bb, qb, db, rfl, hb1, ho1⟩
            have HS1 : Bx w1 Q0 (.int .i64 T0.kind) (.bool T0.isB) (.string T0.text) (.slice X0 n0 c0) (.slice Y0 q0 d0) ∧ w1.cell? ⟨G, i, none⟩ = some (.string s) := ⟨HSS.1.below hb1 HSS.1.lt, (hb1.cell (p := ⟨G, i, none⟩) (lt_of_cell HSS.2)).trans HSS.2⟩
            refine ⟨_, rfl, .inr HS1, ?_⟩
            simp only [Act.put, List.setIfInBounds_toArray, List.set_cons_zero, List.set_cons_succ]
            refine any_takeD 6 38 (.tuple #[.agg #[.int .i64 (tt).kind, .bool (tt).isB, .string (tt).text, .slice Ab mb cb, .slice Bb qb db], .bool oo]) rfl rfl (by kernel_rfl) (by kernel_rfl) (by kernel_rfl) (by kernel_rfl) (fun _ _ _ h => h) (by rfl) ?_ HS1 ?_
            · rintro w' ⟨hS, hc⟩
              have z0 := hS.c0; have z1 := hS.c1; have z2 := hS.c2; have z3 := hS.c3; have z4 := hS.c4
              go_simp
            simp only [Act.put, List.setIfInBounds_toArray, List.set_cons_zero, List.set_cons_succ]
            refine any_takeD 7 45 (.agg #[.int .i64 (tt).kind, .bool (tt).isB, .string (tt).text, .slice Ab mb cb, .slice Bb qb db]) rfl rfl (by kernel_rfl) (by kernel_rfl) (by kernel_rfl) (by kernel_rfl) (fun _ _ _ h => h) (by rfl) ?_ HS1 ?_
            · rintro w' ⟨hS, hc⟩
              have z0 := hS.c0; have z1 := hS.c1; have z2 := hS.c2; have z3 := hS.c3; have z4 := hS.c4
              go_simp
            simp only [Act.put, List.setIfInBounds_toArray, List.set_cons_zero, List.set_cons_succ]
            refine any_takeD 8 46 (.bool oo) rfl rfl (by kernel_rfl) (by kernel_rfl) (by kernel_rfl) (by kernel_rfl) (fun _ _ _ h => h) (by rfl) ?_ HS1 ?_
            · rintro w' ⟨hS, hc⟩
              have z0 := hS.c0; have z1 := hS.c1; have z2 := hS.c2; have z3 := hS.c3; have z4 := hS.c4
              go_simp
            simp only [Act.put, List.setIfInBounds_toArray, List.set_cons_zero, List.set_cons_succ]
            obtain ⟨Rb, hRb⟩ : ∃ R, w1.heap.size = R := ⟨_, rfl⟩
            obtain ⟨Ub, hUb⟩ : ∃ U, w1.alloc (.cells #[.int .i64 0, .bool false, .string ⟨#[]⟩, .slice none 0 0, .slice none 0 0] 25) = U := ⟨_, rfl⟩
            obtain ⟨nb, nb2⟩ := newbox hRb hUb
            have hbU : Below w1.heap.size w1 Ub := by rw [← hUb]; exact below_allocV w1 _
            obtain ⟨nb3, nb4, nb5⟩ := nb2 (.int .i64 (tt).kind) (.bool (tt).isB) (.string (tt).text) (.slice Ab mb cb) (.slice Bb qb db)
            have HS2 : Bx Ub Q0 (.int .i64 T0.kind) (.bool T0.isB) (.string T0.text) (.slice X0 n0 c0) (.slice Y0 q0 d0) ∧ Ub.cell? ⟨G, i, none⟩ = some (.string s) := ⟨HS1.1.below hbU HS1.1.lt, (hbU.cell (p := ⟨G, i, none⟩) (lt_of_cell HS1.2)).trans HS1.2⟩
            refine any_runD 9 10 (.pointer (some ⟨Rb, 0, none⟩)) Ub (by kernel_rfl) rfl rfl (by rfl) ?_ (.inr HS2) ?_
            · rw [← hUb, ← hRb]; go_simp
            simp only [Act.put, List.setIfInBounds_toArray, List.set_cons_zero, List.set_cons_succ]
            have e0 := nb.c0; have f0 := nb.fz 0; have e1 := nb.c1; have f1 := nb.fz 1; have e2 := nb.c2; have f2 := nb.fz 2; have e3 := nb.c3; have f3 := nb.fz 3; have e4 := nb.c4; have f4 := nb.fz 4
            have hq9 : put5 Ub Rb (.int .i64 (tt).kind) (.bool (tt).isB) (.string (tt).text) (.slice Ab mb cb) (.slice Bb qb db) = ((((Ub.setCell ⟨Rb, 0, none⟩ (.int .i64 (tt).kind)).setCell ⟨Rb, 1, none⟩ (.bool (tt).isB)).setCell ⟨Rb, 2, none⟩ (.string (tt).text)).setCell ⟨Rb, 3, none⟩ (.slice Ab mb cb)).setCell ⟨Rb, 4, none⟩ (.slice Bb qb db) := rfl
            have HS9 : Bx (put5 Ub Rb (.int .i64 (tt).kind) (.bool (tt).isB) (.string (tt).text) (.slice Ab mb cb) (.slice Bb qb db)) Q0 (.int .i64 T0.kind) (.bool T0.isB) (.string T0.text) (.slice X0 n0 c0) (.slice Y0 q0 d0) ∧ (put5 Ub Rb (.int .i64 (tt).kind) (.bool (tt).isB) (.string (tt).text) (.slice Ab mb cb) (.slice Bb qb db)).cell? ⟨G, i, none⟩ = some (.string s) := ⟨HS1.1.below nb4 HS1.1.lt, (nb4.cell (p := ⟨G, i, none⟩) (lt_of_cell HS1.2)).trans HS1.2⟩
            rw [hq9] at HS9
            refine any_run0 10 (((((Ub.setCell ⟨Rb, 0, none⟩ (.int .i64 (tt).kind)).setCell ⟨Rb, 1, none⟩ (.bool (tt).isB)).setCell ⟨Rb, 2, none⟩ (.string (tt).text)).setCell ⟨Rb, 3, none⟩ (.slice Ab mb cb)).setCell ⟨Rb, 4, none⟩ (.slice Bb qb db)) (by kernel_rfl) rfl rfl (by rfl) ?_ (.inr HS9) ?_
            · go_simp
            rw [← hq9] at HS9 ⊢
            clear hq9
            obtain ⟨bw, hw9⟩ : ∃ W, put5 Ub Rb (.int .i64 (tt).kind) (.bool (tt).isB) (.string (tt).text) (.slice Ab mb cb) (.slice Bb qb db) = W := ⟨_, rfl⟩
            rw [hw9] at nb3 nb4 nb5 HS9 ⊢
            have hXb := nb3
            have hLb : Below aw.heap.size aw bw := extV hd0 (extV hb1 nb4)
            have hs1 := hb1.size
            have hs0 : aw.drew.heap.size = aw.heap.size := rfl
            have hAb := (ho1.kept _ (fun x hx => nb4.block x hx.2)).mono (T := fun x => aw.heap.size ≤ x ∧ x < bw.heap.size ∧ x ≠ Rb) (fun x hx => ⟨hx.1, by have := hx.2; omega, by have := hx.2; omega⟩)
            have hltb : Rb < bw.heap.size ∧ aw.heap.size ≤ Rb := ⟨by omega, by omega⟩
            clear nb nb2 nb3 nb4 nb5 hw9 hbU HS1 HS2 hb1 ho1 hs1 hs0 hUb hRb
            clear e0 f0 e1 f1 e2 f2 e3 f3 e4 f4
            refine any_runD 11 11 (.bool oo) bw (by kernel_rfl) rfl rfl (by rfl) ?_ (.inr HS9) ?_
            · go_simp
            simp only [Act.put, List.setIfInBounds_toArray, List.set_cons_zero, List.set_cons_succ]
            refine any_done (by kernel_rfl) ?_ _
            refine calm_normal ?_
            clear HS9 HSS hd0
            have hXa2 := hXa.below hLb hlta.1
            have ova := hAa.kept _ (fun x hx => hLb.block x hx.2.1)
            have OVA := Lib.hid ova
            have OVB := Lib.hid hAb
            have XA := Lib.hid hXa2
            have LB := Lib.hid (extV hB.out (extV hLa hLb))
            have SZ : Hid (wr.heap.size ≤ aw.heap.size ∧ aw.heap.size ≤ bw.heap.size ∧ w7.heap.size ≤ wr.heap.size) := Lib.hid ⟨hLa.size, hLb.size, hB.out.size⟩
            have e10 := hXa2.c0; have e20 := hXb.c0; have e11 := hXa2.c1; have e21 := hXb.c1; have e12 := hXa2.c2; have e22 := hXb.c2; have e13 := hXa2.c3; have e23 := hXb.c3; have e14 := hXa2.c4; have e24 := hXb.c4
            clear hXa hXb hXa2 hAa hAb hLa hLb hlta hltb hu hu2 mv mv2 ova
            go_wp2_with fail
            refine (requal_any tt tt _ _ bw (OVA.out.vl _) (OVB.out.vl _)).mono ?_
            rintro e w5 ⟨rfl, hb5⟩
            rw [alk_self]
            have xa := XA.out.below hb5 XA.out.lt
            have ova := OVA.out.kept _ (fun x hx => hb5.block x (by have := SZ.out; omega))
            have OV5 := Lib.hid ova
            have L5 := Lib.hid (extV LB.out hb5)
            have S5 := Lib.hid hb5.size
            clear hb5 ova e10 e20 e11 e21 e12 e22 e13 e23 e14 e24
            have e10 := xa.c0; have e11 := xa.c1; have e12 := xa.c2; have e13 := xa.c3; have e14 := xa.c4
            clear xa
            go_wp2_with fail
            refine (spoil_any tt _ _ w5 OV5.out (fun x hx => by have := S5.out; have := SZ.out; omega) HST.out).mono ?_
            rintro e w6 ⟨⟨rr, rfl⟩, hk6, -⟩
            have hbk : Below w7.heap.size w5 w6 := hk6.below L5.out.size (fun x hx q => by have := SZ.out; omega)
            have L6 := Lib.hid (L5.out.trans hbk)
            clear hk6 hbk e10 e11 e12 e13 e14
            go_wp2_with fail
            exact ⟨⟨i + 1, by go_num, by omega, L6⟩, by simp [intOf]; omega⟩
          · obtain ⟨Rb, hRb⟩ : ∃ R, aw.heap.size = R := ⟨_, rfl⟩
            obtain ⟨Ub, hUb⟩ : ∃ U, aw.drew.alloc (.cells #[.int .i64 0, .bool false, .string ⟨#[]⟩, .slice none 0 0, .slice none 0 0] 25) = U := ⟨_, rfl⟩
            obtain ⟨nb0, nb2⟩ := newbox (w := aw.drew) hRb hUb
            clear nb2
            have hbU : Below aw.drew.heap.size aw.drew Ub := by rw [← hUb]; exact below_allocV aw.drew _
            have hsU : Ub.heap.size = Rb + 1 := by rw [← hUb, World.size_alloc]; show aw.heap.size + 1 = _; rw [hRb]
            have HS2 : Bx Ub Q0 (.int .i64 T0.kind) (.bool T0.isB) (.string T0.text) (.slice X0 n0 c0) (.slice Y0 q0 d0) ∧ Ub.cell? ⟨G, i, none⟩ = some (.string s) := ⟨HSS.1.below hbU HSS.1.lt, (hbU.cell (p := ⟨G, i, none⟩) (lt_of_cell HSS.2)).trans HSS.2⟩
            refine st_run 9 10 (.pointer (some ⟨Rb, 0, none⟩)) Ub rfl ?_ (.inr HS2) ?_
            · rw [← hUb, ← hRb]; go_simp
            simp only [Act.put, List.setIfInBounds_toArray, List.set_cons_zero, List.set_cons_succ]
            refine any_callV 5 44 (by kernel_rfl) rfl rfl (by rfl) (fn := 25) (args := #[.agg #[.int .i64 T0.kind, .bool T0.isB, .string T0.text, .slice X0 n0 c0, .slice Y0 q0 d0], .string s]) ?_ (CR.out Ub (extV hLa (extV hd0 hbU))) ?_
            · go_simp
            rintro e w1 ⟨Ab, mb, cb, Bb, qb, db, rfl, hb1, ho1⟩
            have HS1 : Bx w1 Q0 (.int .i64 T0.kind) (.bool T0.isB) (.string T0.text) (.slice X0 n0 c0) (.slice Y0 q0 d0) ∧ w1.cell? ⟨G, i, none⟩ = some (.string s) := ⟨HS2.1.below hb1 HS2.1.lt, (hb1.cell (p := ⟨G, i, none⟩) (lt_of_cell HS2.2)).trans HS2.2⟩
            refine ⟨_, rfl, .inr HS1, ?_⟩
            simp only [Act.put, List.setIfInBounds_toArray, List.set_cons_zero, List.set_cons_succ]
            refine any_takeD 6 38 (.tuple #[.agg #[.int .i64 (tt).kind, .bool (tt).isB, .string (tt).text, .slice Ab mb cb, .slice Bb qb db], .bool oo]) rfl rfl (by kernel_rfl) (by kernel_rfl) (by kernel_rfl) (by kernel_rfl) (fun _ _ _ h => h) (by rfl) ?_ HS1 ?_
            · rintro w' ⟨hS, hc⟩
              have z0 := hS.c0; have z1 := hS.c1; have z2 := hS.c2; have z3 := hS.c3; have z4 := hS.c4
              go_simp
            simp only [Act.put, List.setIfInBounds_toArray, List.set_cons_zero, List.set_cons_succ]
            refine any_takeD 7 45 (.agg #[.int .i64 (tt).kind, .bool (tt).isB, .string (tt).text, .slice Ab mb cb, .slice Bb qb db]) rfl rfl (by kernel_rfl) (by kernel_rfl) (by kernel_rfl) (by kernel_rfl) (fun _ _ _ h => h) (by rfl) ?_ HS1 ?_
            · rintro w' ⟨hS, hc⟩
              have z0 := hS.c0; have z1 := hS.c1; have z2 := hS.c2; have z3 := hS.c3; have z4 := hS.c4
              go_simp
            simp only [Act.put, List.setIfInBounds_toArray, List.set_cons_zero, List.set_cons_succ]
            refine any_takeD 8 46 (.bool oo) rfl rfl (by kernel_rfl) (by kernel_rfl) (by kernel_rfl) (by kernel_rfl) (fun _ _ _ h => h) (by rfl) ?_ HS1 ?_
            · rintro w' ⟨hS, hc⟩
              have z0 := hS.c0; have z1 := hS.c1; have z2 := hS.c2; have z3 := hS.c3; have z4 := hS.c4
              go_simp
            simp only [Act.put, List.setIfInBounds_toArray, List.set_cons_zero, List.set_cons_succ]
            have nb := nb0.below hb1 nb0.lt
            have e0 := nb.c0; have f0 := nb.fz 0; have e1 := nb.c1; have f1 := nb.fz 1; have e2 := nb.c2; have f2 := nb.fz 2; have e3 := nb.c3; have f3 := nb.fz 3; have e4 := nb.c4; have f4 := nb.fz 4
            have hq9 : put5 w1 Rb (.int .i64 (tt).kind) (.bool (tt).isB) (.string (tt).text) (.slice Ab mb cb) (.slice Bb qb db) = ((((w1.setCell ⟨Rb, 0, none⟩ (.int .i64 (tt).kind)).setCell ⟨Rb, 1, none⟩ (.bool (tt).isB)).setCell ⟨Rb, 2, none⟩ (.string (tt).text)).setCell ⟨Rb, 3, none⟩ (.slice Ab mb cb)).setCell ⟨Rb, 4, none⟩ (.slice Bb qb db) := rfl
            have hk9 : ∀ z, z ≠ Rb → (put5 w1 Rb (.int .i64 (tt).kind) (.bool (tt).isB) (.string (tt).text) (.slice Ab mb cb) (.slice Bb qb db)).heap[z]? = w1.heap[z]? := fun z hz => put5_heap z hz
            have hz9 : (put5 w1 Rb (.int .i64 (tt).kind) (.bool (tt).isB) (.string (tt).text) (.slice Ab mb cb) (.slice Bb qb db)).heap.size = w1.heap.size := put5_size
            have hx9 : Bx (put5 w1 Rb (.int .i64 (tt).kind) (.bool (tt).isB) (.string (tt).text) (.slice Ab mb cb) (.slice Bb qb db)) Rb (.int .i64 (tt).kind) (.bool (tt).isB) (.string (tt).text) (.slice Ab mb cb) (.slice Bb qb db) := put5_bx nb
            have hRw : aw.heap.size ≤ Rb := by omega
            have hL0 : Below aw.heap.size aw (put5 w1 Rb (.int .i64 (tt).kind) (.bool (tt).isB) (.string (tt).text) (.slice Ab mb cb) (.slice Bb qb db)) := put5_below (extV hd0 (extV hbU hb1)) hRw
            have HS9 : Bx (put5 w1 Rb (.int .i64 (tt).kind) (.bool (tt).isB) (.string (tt).text) (.slice Ab mb cb) (.slice Bb qb db)) Q0 (.int .i64 T0.kind) (.bool T0.isB) (.string T0.text) (.slice X0 n0 c0) (.slice Y0 q0 d0) ∧ (put5 w1 Rb (.int .i64 (tt).kind) (.bool (tt).isB) (.string (tt).text) (.slice Ab mb cb) (.slice Bb qb db)).cell? ⟨G, i, none⟩ = some (.string s) := ⟨(Bx.below hu2 hL0 (Bx.lt hu2)), (hL0.cell (p := ⟨G, i, none⟩) (lt_of_cell mv2)).trans mv2⟩
            rw [hq9] at HS9
            refine any_run0 10 (((((w1.setCell ⟨Rb, 0, none⟩ (.int .i64 (tt).kind)).setCell ⟨Rb, 1, none⟩ (.bool (tt).isB)).setCell ⟨Rb, 2, none⟩ (.string (tt).text)).setCell ⟨Rb, 3, none⟩ (.slice Ab mb cb)).setCell ⟨Rb, 4, none⟩ (.slice Bb qb db)) (by kernel_rfl) rfl rfl (by rfl) ?_ (.inr HS9) ?_
            · go_simp
            rw [← hq9] at HS9 ⊢
            clear hq9
            obtain ⟨bw, hw9⟩ : ∃ W, put5 w1 Rb (.int .i64 (tt).kind) (.bool (tt).isB) (.string (tt).text) (.slice Ab mb cb) (.slice Bb qb db) = W := ⟨_, rfl⟩
            rw [hw9] at hk9 hz9 hx9 hL0 HS9 ⊢
            have hXb := hx9
            have hLb : Below aw.heap.size aw bw := hL0
            have hs1 := hb1.size
            have hAb := (ho1.kept _ (fun x hx => hk9 x (by have := hx.1; omega))).mono (T := fun x => aw.heap.size ≤ x ∧ x < bw.heap.size ∧ x ≠ Rb) (fun x hx => ⟨by have := hx.1; omega, by have := hx.2; omega, by have := hx.1; omega⟩)
            have hltb : Rb < bw.heap.size ∧ aw.heap.size ≤ Rb := ⟨by omega, by omega⟩
            clear nb nb0 hk9 hz9 hx9 hL0 hw9 hbU hsU HS1 HS2 hb1 ho1 hs1 hRw hUb hRb
            clear e0 f0 e1 f1 e2 f2 e3 f3 e4 f4
            refine any_runD 11 11 (.bool oo) bw (by kernel_rfl) rfl rfl (by rfl) ?_ (.inr HS9) ?_
            · go_simp
            simp only [Act.put, List.setIfInBounds_toArray, List.set_cons_zero, List.set_cons_succ]
            refine any_done (by kernel_rfl) ?_ _
            refine calm_normal ?_
            clear HS9 HSS hd0
            have hXa2 := hXa.below hLb hlta.1
            have ova := hAa.kept _ (fun x hx => hLb.block x hx.2.1)
            have OVA := Lib.hid ova
            have OVB := Lib.hid hAb
            have XA := Lib.hid hXa2
            have LB := Lib.hid (extV hB.out (extV hLa hLb))
            have SZ : Hid (wr.heap.size ≤ aw.heap.size ∧ aw.heap.size ≤ bw.heap.size ∧ w7.heap.size ≤ wr.heap.size) := Lib.hid ⟨hLa.size, hLb.size, hB.out.size⟩
            have e10 := hXa2.c0; have e20 := hXb.c0; have e11 := hXa2.c1; have e21 := hXb.c1; have e12 := hXa2.c2; have e22 := hXb.c2; have e13 := hXa2.c3; have e23 := hXb.c3; have e14 := hXa2.c4; have e24 := hXb.c4
            clear hXa hXb hXa2 hAa hAb hLa hLb hlta hltb hu hu2 mv mv2 ova
            go_wp2_with fail
            refine (requal_any tt tt _ _ bw (OVA.out.vl _) (OVB.out.vl _)).mono ?_
            rintro e w5 ⟨rfl, hb5⟩
            rw [alk_self]
            have xa := XA.out.below hb5 XA.out.lt
            have ova := OVA.out.kept _ (fun x hx => hb5.block x (by have := SZ.out; omega))
            have OV5 := Lib.hid ova
            have L5 := Lib.hid (extV LB.out hb5)
            have S5 := Lib.hid hb5.size
            clear hb5 ova e10 e20 e11 e21 e12 e22 e13 e23 e14 e24
            have e10 := xa.c0; have e11 := xa.c1; have e12 := xa.c2; have e13 := xa.c3; have e14 := xa.c4
            clear xa
            go_wp2_with fail
            refine (spoil_any tt _ _ w5 OV5.out (fun x hx => by have := S5.out; have := SZ.out; omega) HST.out).mono ?_
            rintro e w6 ⟨⟨rr, rfl⟩, hk6, -⟩
            have hbk : Below w7.heap.size w5 w6 := hk6.below L5.out.size (fun x hx q => by have := SZ.out; omega)
            have L6 := Lib.hid (L5.out.trans hbk)
            clear hk6 hbk e10 e11 e12 e13 e14
            go_wp2_with fail
            exact ⟨⟨i + 1, by go_num, by omega, L6⟩, by simp [intOf]; omega⟩
        · obtain ⟨Ra, hRa⟩ : ∃ R, wr.heap.size = R := ⟨_, rfl⟩
          obtain ⟨Ua, hUa⟩ : ∃ U, wr.drew.alloc (.cells #[.int .i64 0, .bool false, .string ⟨#[]⟩, .slice none 0 0, .slice none 0 0] 25) = U := ⟨_, rfl⟩
          obtain ⟨nb0, nb2⟩ := newbox (w := wr.drew) hRa hUa
          clear nb2
          have hbU : Below wr.drew.heap.size wr.drew Ua := by rw [← hUa]; exact below_allocV wr.drew _
          have hsU : Ua.heap.size = Ra + 1 := by rw [← hUa, World.size_alloc]; show wr.heap.size + 1 = _; rw [hRa]
          have HS2 : Bx Ua Q0 (.int .i64 T0.kind) (.bool T0.isB) (.string T0.text) (.slice X0 n0 c0) (.slice Y0 q0 d0) ∧ Ua.cell? ⟨G, i, none⟩ = some (.string s) := ⟨HSS.1.below hbU HSS.1.lt, (hbU.cell (p := ⟨G, i, none⟩) (lt_of_cell HSS.2)).trans HSS.2⟩
          refine st_run 9 8 (.pointer (some ⟨Ra, 0, none⟩)) Ua rfl ?_ (.inr HS2) ?_
          · rw [← hUa, ← hRa]; go_simp
          simp only [Act.put, List.setIfInBounds_toArray, List.set_cons_zero, List.set_cons_succ]
          refine any_callV 5 35 (by kernel_rfl) rfl rfl (by rfl) (fn := 24) (args := #[.agg #[.int .i64 T0.kind, .bool T0.isB, .string T0.text, .slice X0 n0 c0, .slice Y0 q0 d0], .string s]) ?_ (CG.out Ua (extV hd0 hbU)) ?_
          · go_simp
          rintro e w1 ⟨Aa, ma, ca, Ba, qa, da, rfl, hb1, ho1⟩
          have HS1 : Bx w1 Q0 (.int .i64 T0.kind) (.bool T0.isB) (.string T0.text) (.slice X0 n0 c0) (.slice Y0 q0 d0) ∧ w1.cell? ⟨G, i, none⟩ = some (.string s) := ⟨HS2.1.below hb1 HS2.1.lt, (hb1.cell (p := ⟨G, i, none⟩) (lt_of_cell HS2.2)).trans HS2.2⟩
          refine ⟨_, rfl, .inr HS1, ?_⟩
          simp only [Act.put, List.setIfInBounds_toArray, List.set_cons_zero, List.set_cons_succ]
          refine any_takeD 6 29 (.tuple #[.agg #[.int .i64 (tt).kind, .bool (tt).isB, .string (tt).text, .slice Aa ma ca, .slice Ba qa da], .bool oo]) rfl rfl (by kernel_rfl) (by kernel_rfl) (by kernel_rfl) (by kernel_rfl) (fun _ _ _ h => h) (by rfl) ?_ HS1 ?_
          · rintro w' ⟨hS, hc⟩
            have z0 := hS.c0; have z1 := hS.c1; have z2 := hS.c2; have z3 := hS.c3; have z4 := hS.c4
            go_simp
          simp only [Act.put, List.setIfInBounds_toArray, List.set_cons_zero, List.set_cons_succ]
          refine any_takeD 7 36 (.agg #[.int .i64 (tt).kind, .bool (tt).isB, .string (tt).text, .slice Aa ma ca, .slice Ba qa da]) rfl rfl (by kernel_rfl) (by kernel_rfl) (by kernel_rfl) (by kernel_rfl) (fun _ _ _ h => h) (by rfl) ?_ HS1 ?_
          · rintro w' ⟨hS, hc⟩
            have z0 := hS.c0; have z1 := hS.c1; have z2 := hS.c2; have z3 := hS.c3; have z4 := hS.c4
            go_simp
          simp only [Act.put, List.setIfInBounds_toArray, List.set_cons_zero, List.set_cons_succ]
          refine any_takeD 8 37 (.bool oo) rfl rfl (by kernel_rfl) (by kernel_rfl) (by kernel_rfl) (by kernel_rfl) (fun _ _ _ h => h) (by rfl) ?_ HS1 ?_
          · rintro w' ⟨hS, hc⟩
            have z0 := hS.c0; have z1 := hS.c1; have z2 := hS.c2; have z3 := hS.c3; have z4 := hS.c4
            go_simp
          simp only [Act.put, List.setIfInBounds_toArray, List.set_cons_zero, List.set_cons_succ]
          have nb := nb0.below hb1 nb0.lt
          have e0 := nb.c0; have f0 := nb.fz 0; have e1 := nb.c1; have f1 := nb.fz 1; have e2 := nb.c2; have f2 := nb.fz 2; have e3 := nb.c3; have f3 := nb.fz 3; have e4 := nb.c4; have f4 := nb.fz 4
          have hq9 : put5 w1 Ra (.int .i64 (tt).kind) (.bool (tt).isB) (.string (tt).text) (.slice Aa ma ca) (.slice Ba qa da) = ((((w1.setCell ⟨Ra, 0, none⟩ (.int .i64 (tt).kind)).setCell ⟨Ra, 1, none⟩ (.bool (tt).isB)).setCell ⟨Ra, 2, none⟩ (.string (tt).text)).setCell ⟨Ra, 3, none⟩ (.slice Aa ma ca)).setCell ⟨Ra, 4, none⟩ (.slice Ba qa da) := rfl
          have hk9 : ∀ z, z ≠ Ra → (put5 w1 Ra (.int .i64 (tt).kind) (.bool (tt).isB) (.string (tt).text) (.slice Aa ma ca) (.slice Ba qa da)).heap[z]? = w1.heap[z]? := fun z hz => put5_heap z hz
          have hz9 : (put5 w1 Ra (.int .i64 (tt).kind) (.bool (tt).isB) (.string (tt).text) (.slice Aa ma ca) (.slice Ba qa da)).heap.size = w1.heap.size := put5_size
          have hx9 : Bx (put5 w1 Ra (.int .i64 (tt).kind) (.bool (tt).isB) (.string (tt).text) (.slice Aa ma ca) (.slice Ba qa da)) Ra (.int .i64 (tt).kind) (.bool (tt).isB) (.string (tt).text) (.slice Aa ma ca) (.slice Ba qa da) := put5_bx nb
          have hRw : wr.heap.size ≤ Ra := by omega
          have hL0 : Below wr.heap.size wr (put5 w1 Ra (.int .i64 (tt).kind) (.bool (tt).isB) (.string (tt).text) (.slice Aa ma ca) (.slice Ba qa da)) := put5_below (extV hd0 (extV hbU hb1)) hRw
          have HS9 : Bx (put5 w1 Ra (.int .i64 (tt).kind) (.bool (tt).isB) (.string (tt).text) (.slice Aa ma ca) (.slice Ba qa da)) Q0 (.int .i64 T0.kind) (.bool T0.isB) (.string T0.text) (.slice X0 n0 c0) (.slice Y0 q0 d0) ∧ (put5 w1 Ra (.int .i64 (tt).kind) (.bool (tt).isB) (.string (tt).text) (.slice Aa ma ca) (.slice Ba qa da)).cell? ⟨G, i, none⟩ = some (.string s) := ⟨(Bx.below hu hL0 (Bx.lt hu)), (hL0.cell (p := ⟨G, i, none⟩) (lt_of_cell mv)).trans mv⟩
          rw [hq9] at HS9
          refine any_run0 10 (((((w1.setCell ⟨Ra, 0, none⟩ (.int .i64 (tt).kind)).setCell ⟨Ra, 1, none⟩ (.bool (tt).isB)).setCell ⟨Ra, 2, none⟩ (.string (tt).text)).setCell ⟨Ra, 3, none⟩ (.slice Aa ma ca)).setCell ⟨Ra, 4, none⟩ (.slice Ba qa da)) (by kernel_rfl) rfl rfl (by rfl) ?_ (.inr HS9) ?_
          · go_simp
          rw [← hq9] at HS9 ⊢
          clear hq9
          obtain ⟨aw, hw9⟩ : ∃ W, put5 w1 Ra (.int .i64 (tt).kind) (.bool (tt).isB) (.string (tt).text) (.slice Aa ma ca) (.slice Ba qa da) = W := ⟨_, rfl⟩
          rw [hw9] at hk9 hz9 hx9 hL0 HS9 ⊢
          have hXa := hx9
          have hLa : Below wr.heap.size wr aw := hL0
          have hs1 := hb1.size
          have hAa := (ho1.kept _ (fun x hx => hk9 x (by have := hx.1; omega))).mono (T := fun x => wr.heap.size ≤ x ∧ x < aw.heap.size ∧ x ≠ Ra) (fun x hx => ⟨by have := hx.1; omega, by have := hx.2; omega, by have := hx.1; omega⟩)
          have hlta : Ra < aw.heap.size ∧ wr.heap.size ≤ Ra := ⟨by omega, by omega⟩
          clear nb nb0 hk9 hz9 hx9 hL0 hw9 hbU hsU HS1 HS2 hb1 ho1 hs1 hRw hUa hRa
          clear e0 f0 e1 f1 e2 f2 e3 f3 e4 f4
          refine any_runD 11 9 (.bool oo) aw (by kernel_rfl) rfl rfl (by rfl) ?_ (.inr HS9) ?_
          · go_simp
          simp only [Act.put, List.setIfInBounds_toArray, List.set_cons_zero, List.set_cons_succ]
          refine any_done (by kernel_rfl) ?_ _
          refine calm_normal ?_
          clear HS9 HSS hd0
          have hu2 := hu.below hLa hu.lt
          have mv2 := (hLa.cell (p := ⟨G, i, none⟩) (lt_of_cell mv)).trans mv
          go_upto_region 9 with fail
          have HSS : Bx aw.drew Q0 (.int .i64 T0.kind) (.bool T0.isB) (.string T0.text) (.slice X0 n0 c0) (.slice Y0 q0 d0) ∧ aw.drew.cell? ⟨G, i, none⟩ = some (.string s) := ⟨Bx.same hu2 rfl, mv2⟩
          refine region_calm (fun w' => Bx w' Q0 (.int .i64 T0.kind) (.bool T0.isB) (.string T0.text) (.slice X0 n0 c0) (.slice Y0 q0 d0) ∧ w'.cell? ⟨G, i, none⟩ = some (.string s)) [0, 1, 2, 3, 4, 6, 7, 8] (by kernel_rfl) ?_
          have hd0 : Below aw.heap.size aw aw.drew := ⟨rfl, rfl, rfl, Nat.le_refl _, fun _ _ => rfl⟩
          refine any_takeD 0 39 (.agg #[.int .i64 T0.kind, .bool T0.isB, .string T0.text, .slice X0 n0 c0, .slice Y0 q0 d0]) rfl rfl (by kernel_rfl) (by kernel_rfl) (by kernel_rfl) (by kernel_rfl) (fun _ _ _ h => h) (by rfl) ?_ HSS ?_
          · rintro w' ⟨hS, hc⟩
            have z0 := hS.c0; have z1 := hS.c1; have z2 := hS.c2; have z3 := hS.c3; have z4 := hS.c4
            go_simp
          simp only [Act.put, List.setIfInBounds_toArray, List.set_cons_zero, List.set_cons_succ]
          refine any_takeD 1 40 (.slice (some ⟨G, 0, none⟩) (q4 + 1) cap) rfl rfl (by kernel_rfl) (by kernel_rfl) (by kernel_rfl) (by kernel_rfl) (fun _ _ _ h => h) (by rfl) ?_ HSS ?_
          · rintro w' ⟨hS, hc⟩
            have z0 := hS.c0; have z1 := hS.c1; have z2 := hS.c2; have z3 := hS.c3; have z4 := hS.c4
            go_simp
          simp only [Act.put, List.setIfInBounds_toArray, List.set_cons_zero, List.set_cons_succ]
          refine any_takeD 2 41 (.int .i64 (i : Int)) rfl rfl (by kernel_rfl) (by kernel_rfl) (by kernel_rfl) (by kernel_rfl) (fun _ _ _ h => h) (by rfl) ?_ HSS ?_
          · rintro w' ⟨hS, hc⟩
            have z0 := hS.c0; have z1 := hS.c1; have z2 := hS.c2; have z3 := hS.c3; have z4 := hS.c4
            go_simp
          simp only [Act.put, List.setIfInBounds_toArray, List.set_cons_zero, List.set_cons_succ]
          refine any_takeD 3 42 (.pointer (some ⟨G, i, none⟩)) rfl rfl (by kernel_rfl) (by kernel_rfl) (by kernel_rfl) (by kernel_rfl) (fun _ _ _ h => h) (by rfl) ?_ HSS ?_
          · rintro w' ⟨hS, hc⟩
            have z0 := hS.c0; have z1 := hS.c1; have z2 := hS.c2; have z3 := hS.c3; have z4 := hS.c4
            go_simp
          simp only [Act.put, List.setIfInBounds_toArray, List.set_cons_zero, List.set_cons_succ]
          refine any_takeD 4 43 (.string s) rfl rfl (by kernel_rfl) (by kernel_rfl) (by kernel_rfl) (by kernel_rfl) (fun _ _ _ h => h) (by rfl) ?_ HSS ?_
          · rintro w' ⟨hS, hc⟩
            have z0 := hS.c0; have z1 := hS.c1; have z2 := hS.c2; have z3 := hS.c3; have z4 := hS.c4
            go_simp
          simp only [Act.put, List.setIfInBounds_toArray, List.set_cons_zero, List.set_cons_succ]
          refine any_two 5 9 (by kernel_rfl) rfl rfl (by rfl) (by rfl) ?_ ?_
          · refine st_call 5 44 rfl (fn := 25) (args := #[.agg #[.int .i64 T0.kind, .bool T0.isB, .string T0.text, .slice X0 n0 c0, .slice Y0 q0 d0], .string s]) ?_ (CR.out aw.drew (extV hLa hd0)) ?_
            · go_simp
            rintro e w1 ⟨Ab, mb, cb, Bb, qb, db, rfl, hb1, ho1⟩
            have HS1 : Bx w1 Q0 (.int .i64 T0.kind) (.bool T0.isB) (.string T0.text) (.slice X0 n0 c0) (.slice Y0 q0 d0) ∧ w1.cell? ⟨G, i, none⟩ = some (.string s) := ⟨HSS.1.below hb1 HSS.1.lt, (hb1.cell (p := ⟨G, i, none⟩) (lt_of_cell HSS.2)).trans HSS.2⟩
            refine ⟨_, rfl, .inr HS1, ?_⟩
            simp only [Act.put, List.setIfInBounds_toArray, List.set_cons_zero, List.set_cons_succ]
            refine any_takeD 6 38 (.tuple #[.agg #[.int .i64 (tt).kind, .bool (tt).isB, .string (tt).text, .slice Ab mb cb, .slice Bb qb db], .bool oo]) rfl rfl (by kernel_rfl) (by kernel_rfl) (by kernel_rfl) (by kernel_rfl) (fun _ _ _ h => h) (by rfl) ?_ HS1 ?_
            · rintro w' ⟨hS, hc⟩
              have z0 := hS.c0; have z1 := hS.c1; have z2 := hS.c2; have z3 := hS.c3; have z4 := hS.c4
              go_simp
            simp only [Act.put, List.setIfInBounds_toArray, List.set_cons_zero, List.set_cons_succ]
            refine any_takeD 7 45 (.agg #[.int .i64 (tt).kind, .bool (tt).isB, .string (tt).text, .slice Ab mb cb, .slice Bb qb db]) rfl rfl (by kernel_rfl) (by kernel_rfl) (by kernel_rfl) (by kernel_rfl) (fun _ _ _ h => h) (by rfl) ?_ HS1 ?_
            · rintro w' ⟨hS, hc⟩
              have z0 := hS.c0; have z1 := hS.c1; have z2 := hS.c2; have z3 := hS.c3; have z4 := hS.c4
              go_simp
            simp only [Act.put, List.setIfInBounds_toArray, List.set_cons_zero, List.set_cons_succ]
            refine any_takeD 8 46 (.bool oo) rfl rfl (by kernel_rfl) (by kernel_rfl) (by kernel_rfl) (by kernel_rfl) (fun _ _ _ h => h) (by rfl) ?_ HS1 ?_
            · rintro w' ⟨hS, hc⟩
              have z0 := hS.c0; have z1 := hS.c1; have z2 := hS.c2; have z3 := hS.c3; have z4 := hS.c4
              go_simp
            simp only [Act.put, List.setIfInBounds_toArray, List.set_cons_zero, List.set_cons_succ]
            obtain ⟨Rb, hRb⟩ : ∃ R, w1.heap.size = R := ⟨_, rfl⟩
            obtain ⟨Ub, hUb⟩ : ∃ U, w1.alloc (.cells #[.int .i64 0, .bool false, .string ⟨#[]⟩, .slice none 0 0, .slice none 0 0] 25) = U := ⟨_, rfl⟩
            obtain ⟨nb, nb2⟩ := newbox hRb hUb
            have hbU : Below w1.heap.size w1 Ub := by rw [← hUb]; exact below_allocV w1 _
            obtain ⟨nb3, nb4, nb5⟩ := nb2 (.int .i64 (tt).kind) (.bool (tt).isB) (.string (tt).text) (.slice Ab mb cb) (.slice Bb qb db)
            have HS2 : Bx Ub Q0 (.int .i64 T0.kind) (.bool T0.isB) (.string T0.text) (.slice X0 n0 c0) (.slice Y0 q0 d0) ∧ Ub.cell? ⟨G, i, none⟩ = some (.string s) := ⟨HS1.1.below hbU HS1.1.lt, (hbU.cell (p := ⟨G, i, none⟩) (lt_of_cell HS1.2)).trans HS1.2⟩
            refine any_runD 9 10 (.pointer (some ⟨Rb, 0, none⟩)) Ub (by kernel_rfl) rfl rfl (by rfl) ?_ (.inr HS2) ?_
            · rw [← hUb, ← hRb]; go_simp
            simp only [Act.put, List.setIfInBounds_toArray, List.set_cons_zero, List.set_cons_succ]
            have e0 := nb.c0; have f0 := nb.fz 0; have e1 := nb.c1; have f1 := nb.fz 1; have e2 := nb.c2; have f2 := nb.fz 2; have e3 := nb.c3; have f3 := nb.fz 3; have e4 := nb.c4; have f4 := nb.fz 4
            have hq9 : put5 Ub Rb (.int .i64 (tt).kind) (.bool (tt).isB) (.string (tt).text) (.slice Ab mb cb) (.slice Bb qb db) = ((((Ub.setCell ⟨Rb, 0, none⟩ (.int .i64 (tt).kind)).setCell ⟨Rb, 1, none⟩ (.bool (tt).isB)).setCell ⟨Rb, 2, none⟩ (.string (tt).text)).setCell ⟨Rb, 3, none⟩ (.slice Ab mb cb)).setCell ⟨Rb, 4, none⟩ (.slice Bb qb db) := rfl
            have HS9 : Bx (put5 Ub Rb (.int .i64 (tt).kind) (.bool (tt).isB) (.string (tt).text) (.slice Ab mb cb) (.slice Bb qb db)) Q0 (.int .i64 T0.kind) (.bool T0.isB) (.string T0.text) (.slice X0 n0 c0) (.slice Y0 q0 d0) ∧ (put5 Ub Rb (.int .i64 (tt).kind) (.bool (tt).isB) (.string (tt).text) (.slice Ab mb cb) (.slice Bb qb db)).cell? ⟨G, i, none⟩ = some (.string s) := ⟨HS1.1.below nb4 HS1.1.lt, (nb4.cell (p := ⟨G, i, none⟩) (lt_of_cell HS1.2)).trans HS1.2⟩
            rw [hq9] at HS9
            refine any_run0 10 (((((Ub.setCell ⟨Rb, 0, none⟩ (.int .i64 (tt).kind)).setCell ⟨Rb, 1, none⟩ (.bool (tt).isB)).setCell ⟨Rb, 2, none⟩ (.string (tt).text)).setCell ⟨Rb, 3, none⟩ (.slice Ab mb cb)).setCell ⟨Rb, 4, none⟩ (.slice Bb qb db)) (by kernel_rfl) rfl rfl (by rfl) ?_ (.inr HS9) ?_
            · go_simp
            rw [← hq9] at HS9 ⊢
            clear hq9
            obtain ⟨bw, hw9⟩ : ∃ W, put5 Ub Rb (.int .i64 (tt).kind) (.bool (tt).isB) (.string (tt).text) (.slice Ab mb cb) (.slice Bb qb db) = W := ⟨_, rfl⟩
            rw [hw9] at nb3 nb4 nb5 HS9 ⊢
            have hXb := nb3
            have hLb : Below aw.heap.size aw bw := extV hd0 (extV hb1 nb4)
            have hs1 := hb1.size
            have hs0 : aw.drew.heap.size = aw.heap.size := rfl
            have hAb := (ho1.kept _ (fun x hx => nb4.block x hx.2)).mono (T := fun x => aw.heap.size ≤ x ∧ x < bw.heap.size ∧ x ≠ Rb) (fun x hx => ⟨hx.1, by have := hx.2; omega, by have := hx.2; omega⟩)
            have hltb : Rb < bw.heap.size ∧ aw.heap.size ≤ Rb := ⟨by omega, by omega⟩
            clear nb nb2 nb3 nb4 nb5 hw9 hbU HS1 HS2 hb1 ho1 hs1 hs0 hUb hRb
            clear e0 f0 e1 f1 e2 f2 e3 f3 e4 f4
            refine any_runD 11 11 (.bool oo) bw (by kernel_rfl) rfl rfl (by rfl) ?_ (.inr HS9) ?_
            · go_simp
            simp only [Act.put, List.setIfInBounds_toArray, List.set_cons_zero, List.set_cons_succ]
            refine any_done (by kernel_rfl) ?_ _
            refine calm_normal ?_
            clear HS9 HSS hd0
            have hXa2 := hXa.below hLb hlta.1
            have ova := hAa.kept _ (fun x hx => hLb.block x hx.2.1)
            have OVA := Lib.hid ova
            have OVB := Lib.hid hAb
            have XA := Lib.hid hXa2
            have LB := Lib.hid (extV hB.out (extV hLa hLb))
            have SZ : Hid (wr.heap.size ≤ aw.heap.size ∧ aw.heap.size ≤ bw.heap.size ∧ w7.heap.size ≤ wr.heap.size) := Lib.hid ⟨hLa.size, hLb.size, hB.out.size⟩
            have e10 := hXa2.c0; have e20 := hXb.c0; have e11 := hXa2.c1; have e21 := hXb.c1; have e12 := hXa2.c2; have e22 := hXb.c2; have e13 := hXa2.c3; have e23 := hXb.c3; have e14 := hXa2.c4; have e24 := hXb.c4
            clear hXa hXb hXa2 hAa hAb hLa hLb hlta hltb hu hu2 mv mv2 ova
            go_wp2_with fail
            refine (requal_any tt tt _ _ bw (OVA.out.vl _) (OVB.out.vl _)).mono ?_
            rintro e w5 ⟨rfl, hb5⟩
            rw [alk_self]
            have xa := XA.out.below hb5 XA.out.lt
            have ova := OVA.out.kept _ (fun x hx => hb5.block x (by have := SZ.out; omega))
            have OV5 := Lib.hid ova
            have L5 := Lib.hid (extV LB.out hb5)
            have S5 := Lib.hid hb5.size
            clear hb5 ova e10 e20 e11 e21 e12 e22 e13 e23 e14 e24
            have e10 := xa.c0; have e11 := xa.c1; have e12 := xa.c2; have e13 := xa.c3; have e14 := xa.c4
            clear xa
            go_wp2_with fail
            refine (spoil_any tt _ _ w5 OV5.out (fun x hx => by have := S5.out; have := SZ.out; omega) HST.out).mono ?_
            rintro e w6 ⟨⟨rr, rfl⟩, hk6, -⟩
            have hbk : Below w7.heap.size w5 w6 := hk6.below L5.out.size (fun x hx q => by have := SZ.out; omega)
            have L6 := Lib.hid (L5.out.trans hbk)
            clear hk6 hbk e10 e11 e12 e13 e14
            go_wp2_with fail
            exact ⟨⟨i + 1, by go_num, by omega, L6⟩, by simp [intOf]; omega⟩
          · obtain ⟨Rb, hRb⟩ : ∃ R, aw.heap.size = R := ⟨_, rfl⟩
            obtain ⟨Ub, hUb⟩ : ∃ U, aw.drew.alloc (.cells #[.int .i64 0, .bool false, .string ⟨#[]⟩, .slice none 0 0, .slice none 0 0] 25) = U := ⟨_, rfl⟩
            obtain ⟨nb0, nb2⟩ := newbox (w := aw.drew) hRb hUb
            clear nb2
            have hbU : Below aw.drew.heap.size aw.drew Ub := by rw [← hUb]; exact below_allocV aw.drew _
            have hsU : Ub.heap.size = Rb + 1 := by rw [← hUb, World.size_alloc]; show aw.heap.size + 1 = _; rw [hRb]
            have HS2 : Bx Ub Q0 (.int .i64 T0.kind) (.bool T0.isB) (.string T0.text) (.slice X0 n0 c0) (.slice Y0 q0 d0) ∧ Ub.cell? ⟨G, i, none⟩ = some (.string s) := ⟨HSS.1.below hbU HSS.1.lt, (hbU.cell (p := ⟨G, i, none⟩) (lt_of_cell HSS.2)).trans HSS.2⟩
            refine st_run 9 10 (.pointer (some ⟨Rb, 0, none⟩)) Ub rfl ?_ (.inr HS2) ?_
            · rw [← hUb, ← hRb]; go_simp
            simp only [Act.put, List.setIfInBounds_toArray, List.set_cons_zero, List.set_cons_succ]
            refine any_callV 5 44 (by kernel_rfl) rfl rfl (by rfl) (fn := 25) (args := #[.agg #[.int .i64 T0.kind, .bool T0.isB, .string T0.text, .slice X0 n0 c0, .slice Y0 q0 d0], .string s]) ?_ (CR.out Ub (extV hLa (extV hd0 hbU))) ?_
            · go_simp
            rintro e w1 ⟨Ab, mb, cb, Bb, qb, db, rfl, hb1, ho1⟩
            have HS1 : Bx w1 Q0 (.int .i64 T0.kind) (.bool T0.isB) (.string T0.text) (.slice X0 n0 c0) (.slice Y0 q0 d0) ∧ w1.cell? ⟨G, i, none⟩ = some (.string s) := ⟨HS2.1.below hb1 HS2.1.lt, (hb1.cell (p := ⟨G, i, none⟩) (lt_of_cell HS2.2)).trans HS2.2⟩
            refine ⟨_, rfl, .inr HS1, ?_⟩
            simp only [Act.put, List.setIfInBounds_toArray, List.set_cons_zero, List.set_cons_succ]
            refine any_takeD 6 38 (.tuple #[.agg #[.int .i64 (tt).kind, .bool (tt).isB, .string (tt).text, .slice Ab mb cb, .slice Bb qb db], .bool oo]) rfl rfl (by kernel_rfl) (by kernel_rfl) (by kernel_rfl) (by kernel_rfl) (fun _ _ _ h => h) (by rfl) ?_ HS1 ?_
            · rintro w' ⟨hS, hc⟩
              have z0 := hS.c0; have z1 := hS.c1; have z2 := hS.c2; have z3 := hS.c3; have z4 := hS.c4
              go_simp
            simp only [Act.put, List.setIfInBounds_toArray, List.set_cons_zero, List.set_cons_succ]
            refine any_takeD 7 45 (.agg #[.int .i64 (tt).kind, .bool (tt).isB, .string (tt).text, .slice Ab mb cb, .slice Bb qb db]) rfl rfl (by kernel_rfl) (by kernel_rfl) (by kernel_rfl) (by kernel_rfl) (fun _ _ _ h => h) (by rfl) ?_ HS1 ?_
            · rintro w' ⟨hS, hc⟩
              have z0 := hS.c0; have z1 := hS.c1; have z2 := hS.c2; have z3 := hS.c3; have z4 := hS.c4
              go_simp
            simp only [Act.put, List.setIfInBounds_toArray, List.set_cons_zero, List.set_cons_succ]
            refine any_takeD 8 46 (.bool oo) rfl rfl (by kernel_rfl) (by kernel_rfl) (by kernel_rfl) (by kernel_rfl) (fun _ _ _ h => h) (by rfl) ?_ HS1 ?_
            · rintro w' ⟨hS, hc⟩
              have z0 := hS.c0; have z1 := hS.c1; have z2 := hS.c2; have z3 := hS.c3; have z4 := hS.c4
              go_simp
            simp only [Act.put, List.setIfInBounds_toArray, List.set_cons_zero, List.set_cons_succ]
            have nb := nb0.below hb1 nb0.lt
            have e0 := nb.c0; have f0 := nb.fz 0; have e1 := nb.c1; have f1 := nb.fz 1; have e2 := nb.c2; have f2 := nb.fz 2; have e3 := nb.c3; have f3 := nb.fz 3; have e4 := nb.c4; have f4 := nb.fz 4
            have hq9 : put5 w1 Rb (.int .i64 (tt).kind) (.bool (tt).isB) (.string (tt).text) (.slice Ab mb cb) (.slice Bb qb db) = ((((w1.setCell ⟨Rb, 0, none⟩ (.int .i64 (tt).kind)).setCell ⟨Rb, 1, none⟩ (.bool (tt).isB)).setCell ⟨Rb, 2, none⟩ (.string (tt).text)).setCell ⟨Rb, 3, none⟩ (.slice Ab mb cb)).setCell ⟨Rb, 4, none⟩ (.slice Bb qb db) := rfl
            have hk9 : ∀ z, z ≠ Rb → (put5 w1 Rb (.int .i64 (tt).kind) (.bool (tt).isB) (.string (tt).text) (.slice Ab mb cb) (.slice Bb qb db)).heap[z]? = w1.heap[z]? := fun z hz => put5_heap z hz
            have hz9 : (put5 w1 Rb (.int .i64 (tt).kind) (.bool (tt).isB) (.string (tt).text) (.slice Ab mb cb) (.slice Bb qb db)).heap.size = w1.heap.size := put5_size
            have hx9 : Bx (put5 w1 Rb (.int .i64 (tt).kind) (.bool (tt).isB) (.string (tt).text) (.slice Ab mb cb) (.slice Bb qb db)) Rb (.int .i64 (tt).kind) (.bool (tt).isB) (.string (tt).text) (.slice Ab mb cb) (.slice Bb qb db) := put5_bx nb
            have hRw : aw.heap.size ≤ Rb := by omega
            have hL0 : Below aw.heap.size aw (put5 w1 Rb (.int .i64 (tt).kind) (.bool (tt).isB) (.string (tt).text) (.slice Ab mb cb) (.slice Bb qb db)) := put5_below (extV hd0 (extV hbU hb1)) hRw
            have HS9 : Bx (put5 w1 Rb (.int .i64 (tt).kind) (.bool (tt).isB) (.string (tt).text) (.slice Ab mb cb) (.slice Bb qb db)) Q0 (.int .i64 T0.kind) (.bool T0.isB) (.string T0.text) (.slice X0 n0 c0) (.slice Y0 q0 d0) ∧ (put5 w1 Rb (.int .i64 (tt).kind) (.bool (tt).isB) (.string (tt).text) (.slice Ab mb cb) (.slice Bb qb db)).cell? ⟨G, i, none⟩ = some (.string s) := ⟨(Bx.below hu2 hL0 (Bx.lt hu2)), (hL0.cell (p := ⟨G, i, none⟩) (lt_of_cell mv2)).trans mv2⟩
            rw [hq9] at HS9
            refine any_run0 10 (((((w1.setCell ⟨Rb, 0, none⟩ (.int .i64 (tt).kind)).setCell ⟨Rb, 1, none⟩ (.bool (tt).isB)).setCell ⟨Rb, 2, none⟩ (.string (tt).text)).setCell ⟨Rb, 3, none⟩ (.slice Ab mb cb)).setCell ⟨Rb, 4, none⟩ (.slice Bb qb db)) (by kernel_rfl) rfl rfl (by rfl) ?_ (.inr HS9) ?_
            · go_simp
            rw [← hq9] at HS9 ⊢
            clear hq9
            obtain ⟨bw, hw9⟩ : ∃ W, put5 w1 Rb (.int .i64 (tt).kind) (.bool (tt).isB) (.string (tt).text) (.slice Ab mb cb) (.slice Bb qb db) = W := ⟨_, rfl⟩
            rw [hw9] at hk9 hz9 hx9 hL0 HS9 ⊢
            have hXb := hx9
            have hLb : Below aw.heap.size aw bw := hL0
            have hs1 := hb1.size
            have hAb := (ho1.kept _ (fun x hx => hk9 x (by have := hx.1; omega))).mono (T := fun x => aw.heap.size ≤ x ∧ x < bw.heap.size ∧ x ≠ Rb) (fun x hx => ⟨by have := hx.1; omega, by have := hx.2; omega, by have := hx.1; omega⟩)
            have hltb : Rb < bw.heap.size ∧ aw.heap.size ≤ Rb := ⟨by omega, by omega⟩
            clear nb nb0 hk9 hz9 hx9 hL0 hw9 hbU hsU HS1 HS2 hb1 ho1 hs1 hRw hUb hRb
            clear e0 f0 e1 f1 e2 f2 e3 f3 e4 f4
            refine any_runD 11 11 (.bool oo) bw (by kernel_rfl) rfl rfl (by rfl) ?_ (.inr HS9) ?_
            · go_simp
            simp only [Act.put, List.setIfInBounds_toArray, List.set_cons_zero, List.set_cons_succ]
            refine any_done (by kernel_rfl) ?_ _
            refine calm_normal ?_
            clear HS9 HSS hd0
            have hXa2 := hXa.below hLb hlta.1
            have ova := hAa.kept _ (fun x hx => hLb.block x hx.2.1)
            have OVA := Lib.hid ova
            have OVB := Lib.hid hAb
            have XA := Lib.hid hXa2
            have LB := Lib.hid (extV hB.out (extV hLa hLb))
            have SZ : Hid (wr.heap.size ≤ aw.heap.size ∧ aw.heap.size ≤ bw.heap.size ∧ w7.heap.size ≤ wr.heap.size) := Lib.hid ⟨hLa.size, hLb.size, hB.out.size⟩
            have e10 := hXa2.c0; have e20 := hXb.c0; have e11 := hXa2.c1; have e21 := hXb.c1; have e12 := hXa2.c2; have e22 := hXb.c2; have e13 := hXa2.c3; have e23 := hXb.c3; have e14 := hXa2.c4; have e24 := hXb.c4
            clear hXa hXb hXa2 hAa hAb hLa hLb hlta hltb hu hu2 mv mv2 ova
            go_wp2_with fail
            refine (requal_any tt tt _ _ bw (OVA.out.vl _) (OVB.out.vl _)).mono ?_
            rintro e w5 ⟨rfl, hb5⟩
            rw [alk_self]
            have xa := XA.out.below hb5 XA.out.lt
            have ova := OVA.out.kept _ (fun x hx => hb5.block x (by have := SZ.out; omega))
            have OV5 := Lib.hid ova
            have L5 := Lib.hid (extV LB.out hb5)
            have S5 := Lib.hid hb5.size
            clear hb5 ova e10 e20 e11 e21 e12 e22 e13 e23 e14 e24
            have e10 := xa.c0; have e11 := xa.c1; have e12 := xa.c2; have e13 := xa.c3; have e14 := xa.c4
            clear xa
            go_wp2_with fail
            refine (spoil_any tt _ _ w5 OV5.out (fun x hx => by have := S5.out; have := SZ.out; omega) HST.out).mono ?_
            rintro e w6 ⟨⟨rr, rfl⟩, hk6, -⟩
            have hbk : Below w7.heap.size w5 w6 := hk6.below L5.out.size (fun x hx q => by have := SZ.out; omega)
            have L6 := Lib.hid (L5.out.trans hbk)
            clear hk6 hbk e10 e11 e12 e13 e14
            go_wp2_with fail
            exact ⟨⟨i + 1, by go_num, by omega, L6⟩, by simp [intOf]; omega⟩
      · obtain rfl : i = q4 + 1 := by omega
        have u := HU7.out.below hB.out HU7.out.lt
        have n1 := N17.out.below hB.out N17.out.lt
        have VA := Lib.hid (Vl.up hB.out _ VV7.out)
        have VD := Lib.hid (Vl.up hB.out _ VW7.out)
        have BX := Lib.hid (BW7.out.trans (hB.out.mono BW7.out.size))
        have e00 := u.c0; have e01 := u.c1; have e02 := u.c2; have e03 := u.c3; have e04 := u.c4
        have e10 := n1.c0; have e11 := n1.c1; have e12 := n1.c2; have e13 := n1.c3; have e14 := n1.c4
        clear u n1
        go_wp2_with fail
        refine (requal_any T0 T0 _ _ wr VA.out VD.out).mono ?_
        rintro e w8 ⟨rfl, hb8⟩
        rw [alk_self]
        have BY := Lib.hid (extV BX.out hb8)
        clear hb8
        go_wp2_with fail
        refine (awake_any _ (TB.out _ BY.out)).mono ?_
        rintro e wz ⟨rfl, hbz⟩
        have BZ := Lib.hid (extV BY.out hbz)
        clear hbz
        go_wp2_with fail
        go_ret
        exact ⟨rfl, BZ.out⟩
end Go.Proofs.YtlgeibaejeiemaaDoor
