/-
  The walk of ValueEquals.
-/
import Derived.Test.YtlgeibaejeiemaaDoorVx
namespace Go.Proofs.YtlgeibaejeiemaaDoor
set_option linter.unusedVariables false
set_option linter.unusedSimpArgs false
open Go.RowKit
open Wd We Vt

set_option maxRecDepth 100000 in
set_option maxHeartbeats 16000000 in
theorem walk_ValueEquals (v0 : Value) (T0 : Vt.Tr) (v1 : Value) (T1 : Vt.Tr) (w : World) (s0 : Vt.Vl w v0 T0) (m0 : Vt.Sm T0) (s1 : Vt.Vl w v1 T1) (m1 : Vt.Sm T1) (tab : It.Tab w) :
    Calls Tryd.prog 4 #[v0, v1] w fun e w' => e = .returned (.bool true) ∧ Below w.heap.size w w' := by
  obtain ⟨X0, n0, c0, Y0, q0, d0, rfl, _⟩ := s0.open_
  obtain ⟨X1, n1, c1, Y1, q1, d1, rfl, _⟩ := s1.open_
  have HV0 := Lib.hid s0
  have HM0 := Lib.hid m0
  have HV1 := Lib.hid s1
  have HM1 := Lib.hid m1
  have TB := Lib.hid (fun (w' : World) (h : Below w.heap.size w w') => tab.below h)
  obtain ⟨Q0, hQ0⟩ : ∃ Q, w.heap.size = Q := ⟨_, rfl⟩
  obtain ⟨W1, hW1⟩ : ∃ W, w.alloc (.cells #[.int .i64 T0.kind, .bool T0.isB, .string T0.text, .slice X0 n0 c0, .slice Y0 q0 d0] 25) = W := ⟨_, rfl⟩
  have z1 : W1.heap.size = Q0 + 1 := by rw [← hW1, World.size_alloc]; omega
  have b1 : Below w.heap.size w W1 := by rw [← hW1]; exact below_allocV w _
  have x0 : Bx W1 Q0 (.int .i64 T0.kind) (.bool T0.isB) (.string T0.text) (.slice X0 n0 c0) (.slice Y0 q0 d0) := by rw [← hW1, show Q0 = w.heap.size by omega]; exact heap_alloc_new w _
  have bb1 : Below w.heap.size w W1 := b1
  obtain ⟨Q1, hQ1⟩ : ∃ Q, Q0 + 1 = Q := ⟨_, rfl⟩
  obtain ⟨W2, hW2⟩ : ∃ W, W1.alloc (.cells #[.int .i64 T1.kind, .bool T1.isB, .string T1.text, .slice X1 n1 c1, .slice Y1 q1 d1] 25) = W := ⟨_, rfl⟩
  have z2 : W2.heap.size = Q1 + 1 := by rw [← hW2, World.size_alloc]; omega
  have b2 : Below W1.heap.size W1 W2 := by rw [← hW2]; exact below_allocV W1 _
  have x1 : Bx W2 Q1 (.int .i64 T1.kind) (.bool T1.isB) (.string T1.text) (.slice X1 n1 c1) (.slice Y1 q1 d1) := by rw [← hW2, show Q1 = W1.heap.size by omega]; exact heap_alloc_new W1 _
  have x0 := x0.below b2 (by omega)
  have bb2 : Below w.heap.size w W2 := extV bb1 b2
  obtain ⟨W3, hW3⟩ : ∃ W, W2.alloc (.cells #[.int .i64 T0.kind, .bool T0.isB, .string T0.text, .slice X0 n0 c0, .slice Y0 q0 d0, .int .i64 T1.kind, .bool T1.isB, .string T1.text, .slice X1 n1 c1, .slice Y1 q1 d1] 25) = W := ⟨_, rfl⟩
  have bl : Below W2.heap.size W2 W3 := by rw [← hW3]; exact below_allocV W2 _
  have bbl : Below w.heap.size w W3 := extV bb2 bl
  have y0 := x0.below bl (by omega)
  have HX0 := Lib.hid y0
  have vv0 := Vl.up bbl _ s0
  have UV0 := Lib.hid vv0
  have y1 := x1.below bl (by omega)
  have HX1 := Lib.hid y1
  have vv1 := Vl.up bbl _ s1
  have UV1 := Lib.hid vv1
  have VLL : VL W3 (some ⟨W2.heap.size, 0, none⟩) 2 2 [T0, T1] := VL.two_at (by rw [← hW3]; exact heap_alloc_new W2 _) vv0 vv1
  have CT := Lib.hid (deepList_any _ _ _ _ W3 VLL)
  have a00 := x0.c0; have a01 := x0.c1; have a02 := x0.c2; have a03 := x0.c3; have a04 := x0.c4
  have a10 := x1.c0; have a11 := x1.c1; have a12 := x1.c2; have a13 := x1.c3; have a14 := x1.c4
  have BL := Lib.hid bbl
  have HW1 := Lib.hid hW1
  have HW2 := Lib.hid hW2
  have HW3 := Lib.hid hW3
  have HQ0 := Lib.hid hQ0
  have HQ1 := Lib.hid hQ1
  have HZ1 := Lib.hid z1
  have HZ2 := Lib.hid z2
  clear tab s0 m0 hQ0 hW1 z1 b1 bb1 x0 y0 vv0 s1 m1 hQ1 hW2 z2 b2 bb2 x1 y1 vv1 hW3 bl bbl VLL
  go_enter Tryd.func4, Tryd.ntmps4
  go_upto_region 1 with fail
  rw [HW1.out, HQ0.out]
  rw [HW2.out, HQ1.out]
  rw [HZ2.out] at CT
  obtain ⟨QL, hQL⟩ : ∃ Q, Q1 + 1 = Q := ⟨_, rfl⟩
  rw [hQL] at CT
  have HQL := Lib.hid hQL
  clear hQL
  go_wp2_with fail
  rw [HW3.out]
  rw [HZ2.out, HQL.out]
  refine CT.out.mono ?_
  rintro e wd ⟨rfl, hb⟩
  have BW := Lib.hid (extV BL.out hb)
  have u0 := HX0.out.below hb HX0.out.lt
  have u1 := HX1.out.below hb HX1.out.lt
  have HU0 := Lib.hid u0
  have HU1 := Lib.hid u1
  clear hb a00 a01 a02 a03 a04 a10 a11 a12 a13 a14
  have a00 := u0.c0; have a01 := u0.c1; have a02 := u0.c2; have a03 := u0.c3; have a04 := u0.c4
  have a10 := u1.c0; have a11 := u1.c1; have a12 := u1.c2; have a13 := u1.c3; have a14 := u1.c4
  clear u0 u1
  cases hdp : dpL [T0, T1] 991 with
  | true =>
    clear hdp
    go_wp2_with fail
    refine (awake_any _ (TB.out _ BW.out)).mono ?_
    rintro e wz ⟨rfl, hbz⟩
    have BZ := Lib.hid (extV BW.out hbz)
    clear hbz
    go_wp2_with fail
    go_ret
    exact ⟨rfl, BZ.out⟩
  | false =>
    have HD0 := Lib.hid (dp_no hdp (show T0 ∈ [T0, T1] by simp))
    have HD1 := Lib.hid (dp_no hdp (show T1 ∈ [T0, T1] by simp))
    clear hdp
    have VV0 := Lib.hid (Vl.up BW.out _ HV0.out)
    have VV1 := Lib.hid (Vl.up BW.out _ HV1.out)
    obtain ⟨ab, hab⟩ : ∃ b, alk T0 T1 = b := ⟨_, rfl⟩
    go_wp2_with fail
    refine (vcopy_any _ _ wd VV0.out).mono ?_
    rintro e w4 ⟨A4, m4, c4, B4, q4, d4, rfl, hb4, ho4⟩
    have BW4 := Lib.hid (extV BW.out hb4)
    have HB4 := Lib.hid hb4
    have HU4 := Lib.hid (HU0.out.below hb4 HU0.out.lt)
    have HU5 := Lib.hid (HU1.out.below hb4 HU1.out.lt)
    have HO4 := Lib.hid ho4
    clear hb4 ho4 a00 a01 a02 a03 a04 a10 a11 a12 a13 a14
    obtain ⟨R1, hR1⟩ : ∃ R, w4.heap.size = R := ⟨_, rfl⟩
    obtain ⟨U1, hU1⟩ : ∃ U, w4.alloc (.cells #[.int .i64 0, .bool false, .string ⟨#[]⟩, .slice none 0 0, .slice none 0 0] 25) = U := ⟨_, rfl⟩
    obtain ⟨nb, nb2⟩ := newbox hR1 hU1
    obtain ⟨nb3, nb4, nb5⟩ := nb2 (.int .i64 T0.kind) (.bool T0.isB) (.string T0.text) (.slice A4 m4 c4) (.slice B4 q4 d4)
    have e0 := nb.c0; have e1 := nb.c1; have e2 := nb.c2; have e3 := nb.c3; have e4 := nb.c4
    have f0 := nb.fz 0; have f1 := nb.fz 1; have f2 := nb.fz 2; have f3 := nb.fz 3; have f4 := nb.fz 4
    obtain ⟨V1, hV1⟩ : ∃ V, put5 U1 R1 (.int .i64 T0.kind) (.bool T0.isB) (.string T0.text) (.slice A4 m4 c4) (.slice B4 q4 d4) = V := ⟨_, rfl⟩
    rw [hV1] at nb3 nb4 nb5
    have HV1 := Lib.hid hV1
    have HR1 := Lib.hid hR1
    have N1 := Lib.hid nb3
    have NB1 := Lib.hid nb4
    have NS1 := Lib.hid nb5
    clear hV1 nb nb2 nb3 nb4 nb5
    go_upto_region 4 with fail
    rw [show ((((U1.setCell ⟨R1, 0, none⟩ (.int .i64 T0.kind)).setCell ⟨R1, 1, none⟩ (.bool T0.isB)).setCell ⟨R1, 2, none⟩ (.string T0.text)).setCell ⟨R1, 3, none⟩ (.slice A4 m4 c4)).setCell ⟨R1, 4, none⟩ (.slice B4 q4 d4) = V1 from HV1.out]
    clear e0 e1 e2 e3 e4 f0 f1 f2 f3 f4 hU1
    have p0 := HU4.out.below NB1.out HU4.out.lt
    have p1 := HU5.out.below NB1.out HU5.out.lt
    have p2 := N1.out
    have hs1 := NS1.out
    have ov1 := HO4.out.kept _ (fun x hx => NB1.out.block x hx.2)
    have BV1 := Lib.hid (extV BW4.out NB1.out)
    have BD1 := Lib.hid (extV HB4.out NB1.out)
    have hv0 := Vl.up BD1.out _ VV0.out
    have hv1 := Vl.up BD1.out _ VV1.out
    have hvc := ov1.vl _
    clear hR1
    have HSS : Bx V1.drew Q0 (.int .i64 T0.kind) (.bool T0.isB) (.string T0.text) (.slice X0 n0 c0) (.slice Y0 q0 d0) ∧ Bx V1.drew Q1 (.int .i64 T1.kind) (.bool T1.isB) (.string T1.text) (.slice X1 n1 c1) (.slice Y1 q1 d1) ∧ Bx V1.drew R1 (.int .i64 T0.kind) (.bool T0.isB) (.string T0.text) (.slice A4 m4 c4) (.slice B4 q4 d4) := ⟨Bx.same p0 rfl, Bx.same p1 rfl, Bx.same p2 rfl⟩
    refine region_calm (fun w' => Bx w' Q0 (.int .i64 T0.kind) (.bool T0.isB) (.string T0.text) (.slice X0 n0 c0) (.slice Y0 q0 d0) ∧ Bx w' Q1 (.int .i64 T1.kind) (.bool T1.isB) (.string T1.text) (.slice X1 n1 c1) (.slice Y1 q1 d1) ∧ Bx w' R1 (.int .i64 T0.kind) (.bool T0.isB) (.string T0.text) (.slice A4 m4 c4) (.slice B4 q4 d4)) [0, 1, 3, 4, 8, 14] (by kernel_rfl) ?_
    have rk0 : Below V1.heap.size V1 V1.drew := ⟨rfl, rfl, rfl, Nat.le_refl _, fun _ _ => rfl⟩
    refine any_takeD 0 14 (.agg #[.int .i64 T0.kind, .bool T0.isB, .string T0.text, .slice X0 n0 c0, .slice Y0 q0 d0]) rfl rfl (by kernel_rfl) (by kernel_rfl) (by kernel_rfl) (by kernel_rfl) (fun _ _ _ h => h) (by rfl) ?_ HSS ?_
    · intro w' hS
      obtain ⟨za, zb, zc⟩ := hS
      have za_0 := za.c0; have za_1 := za.c1; have za_2 := za.c2; have za_3 := za.c3; have za_4 := za.c4
      have zb_0 := zb.c0; have zb_1 := zb.c1; have zb_2 := zb.c2; have zb_3 := zb.c3; have zb_4 := zb.c4
      have zc_0 := zc.c0; have zc_1 := zc.c1; have zc_2 := zc.c2; have zc_3 := zc.c3; have zc_4 := zc.c4
      go_simp
    simp only [Act.put, List.setIfInBounds_toArray, List.set_cons_zero, List.set_cons_succ]
    refine any_takeD 1 15 (.agg #[.int .i64 T1.kind, .bool T1.isB, .string T1.text, .slice X1 n1 c1, .slice Y1 q1 d1]) rfl rfl (by kernel_rfl) (by kernel_rfl) (by kernel_rfl) (by kernel_rfl) (fun _ _ _ h => h) (by rfl) ?_ HSS ?_
    · intro w' hS
      obtain ⟨za, zb, zc⟩ := hS
      have za_0 := za.c0; have za_1 := za.c1; have za_2 := za.c2; have za_3 := za.c3; have za_4 := za.c4
      have zb_0 := zb.c0; have zb_1 := zb.c1; have zb_2 := zb.c2; have zb_3 := zb.c3; have zb_4 := zb.c4
      have zc_0 := zc.c0; have zc_1 := zc.c1; have zc_2 := zc.c2; have zc_3 := zc.c3; have zc_4 := zc.c4
      go_simp
    simp only [Act.put, List.setIfInBounds_toArray, List.set_cons_zero, List.set_cons_succ]
    refine any_takeD 3 17 (.agg #[.int .i64 T0.kind, .bool T0.isB, .string T0.text, .slice X0 n0 c0, .slice Y0 q0 d0]) rfl rfl (by kernel_rfl) (by kernel_rfl) (by kernel_rfl) (by kernel_rfl) (fun _ _ _ h => h) (by rfl) ?_ HSS ?_
    · intro w' hS
      obtain ⟨za, zb, zc⟩ := hS
      have za_0 := za.c0; have za_1 := za.c1; have za_2 := za.c2; have za_3 := za.c3; have za_4 := za.c4
      have zb_0 := zb.c0; have zb_1 := zb.c1; have zb_2 := zb.c2; have zb_3 := zb.c3; have zb_4 := zb.c4
      have zc_0 := zc.c0; have zc_1 := zc.c1; have zc_2 := zc.c2; have zc_3 := zc.c3; have zc_4 := zc.c4
      go_simp
    simp only [Act.put, List.setIfInBounds_toArray, List.set_cons_zero, List.set_cons_succ]
    refine any_takeD 4 18 (.agg #[.int .i64 T1.kind, .bool T1.isB, .string T1.text, .slice X1 n1 c1, .slice Y1 q1 d1]) rfl rfl (by kernel_rfl) (by kernel_rfl) (by kernel_rfl) (by kernel_rfl) (fun _ _ _ h => h) (by rfl) ?_ HSS ?_
    · intro w' hS
      obtain ⟨za, zb, zc⟩ := hS
      have za_0 := za.c0; have za_1 := za.c1; have za_2 := za.c2; have za_3 := za.c3; have za_4 := za.c4
      have zb_0 := zb.c0; have zb_1 := zb.c1; have zb_2 := zb.c2; have zb_3 := zb.c3; have zb_4 := zb.c4
      have zc_0 := zc.c0; have zc_1 := zc.c1; have zc_2 := zc.c2; have zc_3 := zc.c3; have zc_4 := zc.c4
      go_simp
    simp only [Act.put, List.setIfInBounds_toArray, List.set_cons_zero, List.set_cons_succ]
    refine any_callV 2 16 (by kernel_rfl) rfl rfl (by rfl) (fn := 22) (args := #[.agg #[.int .i64 T0.kind, .bool T0.isB, .string T0.text, .slice X0 n0 c0, .slice Y0 q0 d0], .agg #[.int .i64 T1.kind, .bool T1.isB, .string T1.text, .slice X1 n1 c1, .slice Y1 q1 d1]]) ?_ (equal_any T0 T1 _ _ V1.drew (Vl.up rk0 _ hv0) (Vl.up rk0 _ hv1)) ?_
    · go_simp
    rintro e r1 ⟨rfl, hr1⟩
    have rk1 := extV rk0 hr1
    rw [hab]
    have HSS : Bx r1 Q0 (.int .i64 T0.kind) (.bool T0.isB) (.string T0.text) (.slice X0 n0 c0) (.slice Y0 q0 d0) ∧ Bx r1 Q1 (.int .i64 T1.kind) (.bool T1.isB) (.string T1.text) (.slice X1 n1 c1) (.slice Y1 q1 d1) ∧ Bx r1 R1 (.int .i64 T0.kind) (.bool T0.isB) (.string T0.text) (.slice A4 m4 c4) (.slice B4 q4 d4) := ⟨HSS.1.below hr1 HSS.1.lt, HSS.2.1.below hr1 HSS.2.1.lt, HSS.2.2.below hr1 HSS.2.2.lt⟩
    refine ⟨_, rfl, .inr HSS, ?_⟩
    simp only [Act.put, List.setIfInBounds_toArray, List.set_cons_zero, List.set_cons_succ]
    refine any_callV 5 19 (by kernel_rfl) rfl rfl (by rfl) (fn := 20) (args := #[.agg #[.int .i64 T0.kind, .bool T0.isB, .string T0.text, .slice X0 n0 c0, .slice Y0 q0 d0], .agg #[.int .i64 T1.kind, .bool T1.isB, .string T1.text, .slice X1 n1 c1, .slice Y1 q1 d1]]) ?_ (requal_any T0 T1 _ _ r1 (Vl.up rk1 _ hv0) (Vl.up rk1 _ hv1)) ?_
    · go_simp
    rintro e r2 ⟨rfl, hr2⟩
    have rk2 := extV rk1 hr2
    rw [hab]
    have HSS : Bx r2 Q0 (.int .i64 T0.kind) (.bool T0.isB) (.string T0.text) (.slice X0 n0 c0) (.slice Y0 q0 d0) ∧ Bx r2 Q1 (.int .i64 T1.kind) (.bool T1.isB) (.string T1.text) (.slice X1 n1 c1) (.slice Y1 q1 d1) ∧ Bx r2 R1 (.int .i64 T0.kind) (.bool T0.isB) (.string T0.text) (.slice A4 m4 c4) (.slice B4 q4 d4) := ⟨HSS.1.below hr2 HSS.1.lt, HSS.2.1.below hr2 HSS.2.1.lt, HSS.2.2.below hr2 HSS.2.2.lt⟩
    refine ⟨_, rfl, .inr HSS, ?_⟩
    simp only [Act.put, List.setIfInBounds_toArray, List.set_cons_zero, List.set_cons_succ]
    refine any_runD 6 20 (.bool false) r2 (by kernel_rfl) rfl rfl (by rfl) ?_ (.inr HSS) ?_
    · obtain ⟨za, zb, zc⟩ := HSS
      have za_0 := za.c0; have za_1 := za.c1; have za_2 := za.c2; have za_3 := za.c3; have za_4 := za.c4
      have zb_0 := zb.c0; have zb_1 := zb.c1; have zb_2 := zb.c2; have zb_3 := zb.c3; have zb_4 := zb.c4
      have zc_0 := zc.c0; have zc_1 := zc.c1; have zc_2 := zc.c2; have zc_3 := zc.c3; have zc_4 := zc.c4
      go_simp
    simp only [Act.put, List.setIfInBounds_toArray, List.set_cons_zero, List.set_cons_succ]
    refine any_runD 7 21 (.bool false) r2 (by kernel_rfl) rfl rfl (by rfl) ?_ (.inr HSS) ?_
    · obtain ⟨za, zb, zc⟩ := HSS
      have za_0 := za.c0; have za_1 := za.c1; have za_2 := za.c2; have za_3 := za.c3; have za_4 := za.c4
      have zb_0 := zb.c0; have zb_1 := zb.c1; have zb_2 := zb.c2; have zb_3 := zb.c3; have zb_4 := zb.c4
      have zc_0 := zc.c0; have zc_1 := zc.c1; have zc_2 := zc.c2; have zc_3 := zc.c3; have zc_4 := zc.c4
      go_simp
    simp only [Act.put, List.setIfInBounds_toArray, List.set_cons_zero, List.set_cons_succ]
    refine any_takeD 8 22 (.agg #[.int .i64 T0.kind, .bool T0.isB, .string T0.text, .slice X0 n0 c0, .slice Y0 q0 d0]) rfl rfl (by kernel_rfl) (by kernel_rfl) (by kernel_rfl) (by kernel_rfl) (fun _ _ _ h => h) (by rfl) ?_ HSS ?_
    · intro w' hS
      obtain ⟨za, zb, zc⟩ := hS
      have za_0 := za.c0; have za_1 := za.c1; have za_2 := za.c2; have za_3 := za.c3; have za_4 := za.c4
      have zb_0 := zb.c0; have zb_1 := zb.c1; have zb_2 := zb.c2; have zb_3 := zb.c3; have zb_4 := zb.c4
      have zc_0 := zc.c0; have zc_1 := zc.c1; have zc_2 := zc.c2; have zc_3 := zc.c3; have zc_4 := zc.c4
      go_simp
    simp only [Act.put, List.setIfInBounds_toArray, List.set_cons_zero, List.set_cons_succ]
    refine any_runD 9 23 (.agg #[.int .i64 T0.kind, .bool T0.isB, .string T0.text, .slice A4 m4 c4, .slice B4 q4 d4]) r2 (by kernel_rfl) rfl rfl (by rfl) ?_ (.inr HSS) ?_
    · obtain ⟨za, zb, zc⟩ := HSS
      have za_0 := za.c0; have za_1 := za.c1; have za_2 := za.c2; have za_3 := za.c3; have za_4 := za.c4
      have zb_0 := zb.c0; have zb_1 := zb.c1; have zb_2 := zb.c2; have zb_3 := zb.c3; have zb_4 := zb.c4
      have zc_0 := zc.c0; have zc_1 := zc.c1; have zc_2 := zc.c2; have zc_3 := zc.c3; have zc_4 := zc.c4
      go_simp
    simp only [Act.put, List.setIfInBounds_toArray, List.set_cons_zero, List.set_cons_succ]
    refine any_callV 10 24 (by kernel_rfl) rfl rfl (by rfl) (fn := 20) (args := #[.agg #[.int .i64 T0.kind, .bool T0.isB, .string T0.text, .slice X0 n0 c0, .slice Y0 q0 d0], .agg #[.int .i64 T0.kind, .bool T0.isB, .string T0.text, .slice A4 m4 c4, .slice B4 q4 d4]]) ?_ (requal_any T0 T0 _ _ r2 (Vl.up rk2 _ hv0) (Vl.up rk2 _ hvc)) ?_
    · go_simp
    rintro e r3 ⟨rfl, hr3⟩
    have rk3 := extV rk2 hr3
    rw [alk_self]
    have HSS : Bx r3 Q0 (.int .i64 T0.kind) (.bool T0.isB) (.string T0.text) (.slice X0 n0 c0) (.slice Y0 q0 d0) ∧ Bx r3 Q1 (.int .i64 T1.kind) (.bool T1.isB) (.string T1.text) (.slice X1 n1 c1) (.slice Y1 q1 d1) ∧ Bx r3 R1 (.int .i64 T0.kind) (.bool T0.isB) (.string T0.text) (.slice A4 m4 c4) (.slice B4 q4 d4) := ⟨HSS.1.below hr3 HSS.1.lt, HSS.2.1.below hr3 HSS.2.1.lt, HSS.2.2.below hr3 HSS.2.2.lt⟩
    refine ⟨_, rfl, .inr HSS, ?_⟩
    simp only [Act.put, List.setIfInBounds_toArray, List.set_cons_zero, List.set_cons_succ]
    refine any_runD 11 25 (.bool false) r3 (by kernel_rfl) rfl rfl (by rfl) ?_ (.inr HSS) ?_
    · obtain ⟨za, zb, zc⟩ := HSS
      have za_0 := za.c0; have za_1 := za.c1; have za_2 := za.c2; have za_3 := za.c3; have za_4 := za.c4
      have zb_0 := zb.c0; have zb_1 := zb.c1; have zb_2 := zb.c2; have zb_3 := zb.c3; have zb_4 := zb.c4
      have zc_0 := zc.c0; have zc_1 := zc.c1; have zc_2 := zc.c2; have zc_3 := zc.c3; have zc_4 := zc.c4
      go_simp
    simp only [Act.put, List.setIfInBounds_toArray, List.set_cons_zero, List.set_cons_succ]
    refine any_runD 12 26 (.bool false) r3 (by kernel_rfl) rfl rfl (by rfl) ?_ (.inr HSS) ?_
    · obtain ⟨za, zb, zc⟩ := HSS
      have za_0 := za.c0; have za_1 := za.c1; have za_2 := za.c2; have za_3 := za.c3; have za_4 := za.c4
      have zb_0 := zb.c0; have zb_1 := zb.c1; have zb_2 := zb.c2; have zb_3 := zb.c3; have zb_4 := zb.c4
      have zc_0 := zc.c0; have zc_1 := zc.c1; have zc_2 := zc.c2; have zc_3 := zc.c3; have zc_4 := zc.c4
      go_simp
    simp only [Act.put, List.setIfInBounds_toArray, List.set_cons_zero, List.set_cons_succ]
    refine any_runD 13 27 (.bool false) r3 (by kernel_rfl) rfl rfl (by rfl) ?_ (.inr HSS) ?_
    · obtain ⟨za, zb, zc⟩ := HSS
      have za_0 := za.c0; have za_1 := za.c1; have za_2 := za.c2; have za_3 := za.c3; have za_4 := za.c4
      have zb_0 := zb.c0; have zb_1 := zb.c1; have zb_2 := zb.c2; have zb_3 := zb.c3; have zb_4 := zb.c4
      have zc_0 := zc.c0; have zc_1 := zc.c1; have zc_2 := zc.c2; have zc_3 := zc.c3; have zc_4 := zc.c4
      go_simp
    simp only [Act.put, List.setIfInBounds_toArray, List.set_cons_zero, List.set_cons_succ]
    refine any_takeD 14 28 (.agg #[.int .i64 T0.kind, .bool T0.isB, .string T0.text, .slice X0 n0 c0, .slice Y0 q0 d0]) rfl rfl (by kernel_rfl) (by kernel_rfl) (by kernel_rfl) (by kernel_rfl) (fun _ _ _ h => h) (by rfl) ?_ HSS ?_
    · intro w' hS
      obtain ⟨za, zb, zc⟩ := hS
      have za_0 := za.c0; have za_1 := za.c1; have za_2 := za.c2; have za_3 := za.c3; have za_4 := za.c4
      have zb_0 := zb.c0; have zb_1 := zb.c1; have zb_2 := zb.c2; have zb_3 := zb.c3; have zb_4 := zb.c4
      have zc_0 := zc.c0; have zc_1 := zc.c1; have zc_2 := zc.c2; have zc_3 := zc.c3; have zc_4 := zc.c4
      go_simp
    simp only [Act.put, List.setIfInBounds_toArray, List.set_cons_zero, List.set_cons_succ]
    refine any_runD 15 29 (.agg #[.int .i64 T0.kind, .bool T0.isB, .string T0.text, .slice A4 m4 c4, .slice B4 q4 d4]) r3 (by kernel_rfl) rfl rfl (by rfl) ?_ (.inr HSS) ?_
    · obtain ⟨za, zb, zc⟩ := HSS
      have za_0 := za.c0; have za_1 := za.c1; have za_2 := za.c2; have za_3 := za.c3; have za_4 := za.c4
      have zb_0 := zb.c0; have zb_1 := zb.c1; have zb_2 := zb.c2; have zb_3 := zb.c3; have zb_4 := zb.c4
      have zc_0 := zc.c0; have zc_1 := zc.c1; have zc_2 := zc.c2; have zc_3 := zc.c3; have zc_4 := zc.c4
      go_simp
    simp only [Act.put, List.setIfInBounds_toArray, List.set_cons_zero, List.set_cons_succ]
    refine any_callV 16 30 (by kernel_rfl) rfl rfl (by rfl) (fn := 22) (args := #[.agg #[.int .i64 T0.kind, .bool T0.isB, .string T0.text, .slice X0 n0 c0, .slice Y0 q0 d0], .agg #[.int .i64 T0.kind, .bool T0.isB, .string T0.text, .slice A4 m4 c4, .slice B4 q4 d4]]) ?_ (equal_any T0 T0 _ _ r3 (Vl.up rk3 _ hv0) (Vl.up rk3 _ hvc)) ?_
    · go_simp
    rintro e r4 ⟨rfl, hr4⟩
    have rk4 := extV rk3 hr4
    rw [alk_self]
    have HSS : Bx r4 Q0 (.int .i64 T0.kind) (.bool T0.isB) (.string T0.text) (.slice X0 n0 c0) (.slice Y0 q0 d0) ∧ Bx r4 Q1 (.int .i64 T1.kind) (.bool T1.isB) (.string T1.text) (.slice X1 n1 c1) (.slice Y1 q1 d1) ∧ Bx r4 R1 (.int .i64 T0.kind) (.bool T0.isB) (.string T0.text) (.slice A4 m4 c4) (.slice B4 q4 d4) := ⟨HSS.1.below hr4 HSS.1.lt, HSS.2.1.below hr4 HSS.2.1.lt, HSS.2.2.below hr4 HSS.2.2.lt⟩
    refine ⟨_, rfl, .inr HSS, ?_⟩
    simp only [Act.put, List.setIfInBounds_toArray, List.set_cons_zero, List.set_cons_succ]
    refine any_runD 17 31 (.bool false) r4 (by kernel_rfl) rfl rfl (by rfl) ?_ (.inr HSS) ?_
    · obtain ⟨za, zb, zc⟩ := HSS
      have za_0 := za.c0; have za_1 := za.c1; have za_2 := za.c2; have za_3 := za.c3; have za_4 := za.c4
      have zb_0 := zb.c0; have zb_1 := zb.c1; have zb_2 := zb.c2; have zb_3 := zb.c3; have zb_4 := zb.c4
      have zc_0 := zc.c0; have zc_1 := zc.c1; have zc_2 := zc.c2; have zc_3 := zc.c3; have zc_4 := zc.c4
      go_simp
    simp only [Act.put, List.setIfInBounds_toArray, List.set_cons_zero, List.set_cons_succ]
    refine any_runD 18 32 (.bool false) r4 (by kernel_rfl) rfl rfl (by rfl) ?_ (.inr HSS) ?_
    · obtain ⟨za, zb, zc⟩ := HSS
      have za_0 := za.c0; have za_1 := za.c1; have za_2 := za.c2; have za_3 := za.c3; have za_4 := za.c4
      have zb_0 := zb.c0; have zb_1 := zb.c1; have zb_2 := zb.c2; have zb_3 := zb.c3; have zb_4 := zb.c4
      have zc_0 := zc.c0; have zc_1 := zc.c1; have zc_2 := zc.c2; have zc_3 := zc.c3; have zc_4 := zc.c4
      go_simp
    simp only [Act.put, List.setIfInBounds_toArray, List.set_cons_zero, List.set_cons_succ]
    refine any_done (by kernel_rfl) ?_ _
    refine calm_normal ?_
    obtain ⟨r0, r1, r2⟩ := HSS
    have BE := Lib.hid (extV BV1.out rk4)
    have BD2 := Lib.hid (extV BD1.out rk4)
    have OV2 := Lib.hid (ov1.kept _ (fun x hx => rk4.block x (by have := hs1; have := HR1.out; omega)))
    have I0 := Lib.hid r0
    have I2 := Lib.hid r2
    have S4 := Lib.hid (And.intro (show w4.heap.size ≤ V1.heap.size by have := HR1.out; omega) rk4.size)
    have e00 := r0.c0; have e01 := r0.c1; have e02 := r0.c2; have e03 := r0.c3; have e04 := r0.c4
    clear r0 r1 r2 p0 p1 p2 hs1 ov1 hv0 hv1 hvc
    go_wp2_with fail
    refine (rcopy_any _ _ r4 (Vl.up BD2.out _ VV0.out)).mono ?_
    rintro e w6 ⟨A6, m6, c6, B6, q6, d6, rfl, hb6, ho6⟩
    have I06 := Lib.hid (I0.out.below hb6 I0.out.lt)
    have I26 := Lib.hid (I2.out.below hb6 I2.out.lt)
    have OC6 := Lib.hid (OV2.out.kept _ (fun x hx => hb6.block x (by have := S4.out; omega)))
    have OD6 := Lib.hid ho6
    have BE6 := Lib.hid (extV BE.out hb6)
    have BD6 := Lib.hid (extV BD2.out hb6)
    have S6 := Lib.hid hb6.size
    clear hb6 ho6 e00 e01 e02 e03 e04
    obtain ⟨R2, hR2⟩ : ∃ R, w6.heap.size = R := ⟨_, rfl⟩
    obtain ⟨U2, hU2⟩ : ∃ U, w6.alloc (.cells #[.int .i64 0, .bool false, .string ⟨#[]⟩, .slice none 0 0, .slice none 0 0] 25) = U := ⟨_, rfl⟩
    obtain ⟨nb, nb2⟩ := newbox hR2 hU2
    obtain ⟨nb3, nb4, nb5⟩ := nb2 (.int .i64 T0.kind) (.bool T0.isB) (.string T0.text) (.slice A6 m6 c6) (.slice B6 q6 d6)
    have e0 := nb.c0; have e1 := nb.c1; have e2 := nb.c2; have e3 := nb.c3; have e4 := nb.c4
    have f0 := nb.fz 0; have f1 := nb.fz 1; have f2 := nb.fz 2; have f3 := nb.fz 3; have f4 := nb.fz 4
    obtain ⟨V2, hV2⟩ : ∃ V, put5 U2 R2 (.int .i64 T0.kind) (.bool T0.isB) (.string T0.text) (.slice A6 m6 c6) (.slice B6 q6 d6) = V := ⟨_, rfl⟩
    rw [hV2] at nb3 nb4 nb5
    have HV2 := Lib.hid hV2
    have HR2 := Lib.hid hR2
    have N2 := Lib.hid nb3
    have NB2 := Lib.hid nb4
    have NS2 := Lib.hid nb5
    clear hV2 nb nb2 nb3 nb4 nb5
    go_upto_region 7 with fail
    rw [show ((((U2.setCell ⟨R2, 0, none⟩ (.int .i64 T0.kind)).setCell ⟨R2, 1, none⟩ (.bool T0.isB)).setCell ⟨R2, 2, none⟩ (.string T0.text)).setCell ⟨R2, 3, none⟩ (.slice A6 m6 c6)).setCell ⟨R2, 4, none⟩ (.slice B6 q6 d6) = V2 from HV2.out]
    clear e0 e1 e2 e3 e4 f0 f1 f2 f3 f4 hU2
    have i2 := I26.out.below NB2.out I26.out.lt
    have i0 := I06.out.below NB2.out I06.out.lt
    have ovc := OC6.out.kept _ (fun x hx => NB2.out.block x (by have := S6.out; have := S4.out; omega))
    have ovd := OD6.out.kept _ (fun x hx => NB2.out.block x hx.2)
    have BE7 := Lib.hid (extV BE6.out NB2.out)
    have BD7 := Lib.hid (extV BD6.out NB2.out)
    have IA := Lib.hid i0
    have OVC := Lib.hid ovc
    have OVD := Lib.hid ovd
    have e20 := i2.c0; have e21 := i2.c1; have e22 := i2.c2; have e23 := i2.c3; have e24 := i2.c4
    clear i0 i2 ovc ovd hR2
    go_wp2_with fail
    refine (spoil_any T0 _ _ V2 OVC.out (fun x hx => by have := NS2.out; have := HR2.out; have := S6.out; have := S4.out; omega) HM0.out).mono ?_
    rintro e w8 ⟨⟨rr, rfl⟩, hk8, -⟩
    have hwd : wd.heap.size ≤ V2.heap.size := BD7.out.size
    have hbk : Below wd.heap.size V2 w8 := hk8.below hwd (fun x hx q => by omega)
    have BD8 := Lib.hid (BD7.out.trans hbk)
    have BE8 := Lib.hid (BW.out.trans (BD8.out.mono BW.out.size))
    have ia := IA.out.same (hbk.block Q0 HU0.out.lt)
    have nd := N2.out.same (hk8.2 R2 N2.out.lt (fun q => by have := HR2.out; have := S6.out; have := S4.out; omega))
    have ovd := OVD.out.kept _ (fun x hx => hk8.2 x (by have := NS2.out; have := HR2.out; omega) (fun q => by have := S4.out; omega))
    have VA := Lib.hid (Vl.up BD8.out _ VV0.out)
    have VD := Lib.hid (ovd.vl _)
    clear e20 e21 e22 e23 e24
    have e00 := ia.c0; have e01 := ia.c1; have e02 := ia.c2; have e03 := ia.c3; have e04 := ia.c4
    have e10 := nd.c0; have e11 := nd.c1; have e12 := nd.c2; have e13 := nd.c3; have e14 := nd.c4
    clear ia nd ovd hk8 hwd hbk
    go_wp2_with fail
    refine (requal_any T0 T0 _ _ w8 VA.out VD.out).mono ?_
    rintro e w9 ⟨rfl, hb9⟩
    rw [alk_self]
    have BE9 := Lib.hid (extV BE8.out hb9)
    clear hb9
    go_wp2_with fail
    refine (awake_any _ (TB.out _ BE9.out)).mono ?_
    rintro e wz ⟨rfl, hbz⟩
    have BZ := Lib.hid (extV BE9.out hbz)
    clear hbz
    go_wp2_with fail
    go_ret
    exact ⟨rfl, BZ.out⟩
end Go.Proofs.YtlgeibaejeiemaaDoor
